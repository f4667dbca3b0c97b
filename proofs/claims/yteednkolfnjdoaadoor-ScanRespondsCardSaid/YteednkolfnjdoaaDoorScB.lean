import Derived.Test.YteednkolfnjdoaaDoorScA
import Derived.Test.YteednkolfnjdoaaDoorScZ
import Derived.Test.YteednkolfnjdoaaDoorCyY
/-
  Controllers: the search of the program.
-/
namespace Go.Proofs.YteednkolfnjdoaaDoor
open Go.Vm Go.Sc
theorem plainTryd_105 : plainFn Tryd.prog 105 = true := by kernel_rfl
theorem plainTryd_97 : plainFn Tryd.prog 97 = true := by kernel_rfl
theorem Tryd.agg158 : isAggT Tryd.prog 158 = some true := by kernel_rfl
theorem Tryd.size158 : sizeT Tryd.prog 158 = some 2 := by kernel_rfl
theorem Tryd.zero158 : zeroT Tryd.prog 158 = some (.agg #[.int .i64 0, .slice none 0 0]) := by kernel_rfl
theorem Tryd.fld158_0 : fieldT Tryd.prog 158 0 = some { name := "state", type := 3, offset := 0, embedded := false, tag := "", pkgPath := "massecuite/scan", byteOffset := 0 } := by kernel_rfl
theorem Tryd.fld158_1 : fieldT Tryd.prog 158 1 = some { name := "word", type := 38, offset := 1, embedded := false, tag := "", pkgPath := "massecuite/scan", byteOffset := 8 } := by kernel_rfl
theorem keyRI : KeyR Tryd.prog 3 (MapKept.IsKey (.int .i64)) := KeyR.plain Tryd.underlying3
theorem build158_2 (x : Int) (cs : List DV) (n : Nat) (c : Option Nat) : opBuild Tryd.prog 158 [(0, .d (DI x)), (1, .d (.sl cs n c))] = some (.d (.agg [DI x, .sl cs n c])) := by kernel_rfl
theorem build158_1 (x : Int) : opBuild Tryd.prog 158 [(0, .d (DI x))] = some (.d (.agg [DI x, Dnil])) := by kernel_rfl
set_option maxRecDepth 10000 in
theorem longer105_nil (i : Nat) : DeepCall Tryd.prog 105 [Dnil, DI (i : Nat)] (wV [i]) := by
  refine deepCall_K 5 Tryd.func105 rfl (Nat.le_of_ble_eq_true rfl) fun M W0 => ?_
  refine KC.seq ?_
  refine KC.region ?_
  refine KT.step rfl rfl (K.assign rfl) ?_
  refine KT.nil ?_
  refine thenK_n ?_
  refine KC.seq ?_
  refine KC.region ?_
  refine KT.step rfl rfl (K.move rfl) ?_
  refine KT.step rfl rfl (K.move rfl) ?_
  refine KT.step rfl rfl (K.len (R := IsI) (l := []) rfl .nil Tryd.underlying38) ?_
  refine KT.step rfl rfl (K.move rfl) ?_
  refine KT.step rfl rfl (K.len (R := IsI) (l := []) rfl .nil Tryd.underlying38) ?_
  refine KT.step rfl rfl (K.slice3N rfl rfl rfl (by kernel_rfl)) ?_
  refine KT.step rfl rfl (K.move rfl) ?_
  refine KT.step rfl rfl (K.build1' rfl rfl Tryd.underlying38 Tryd.one3) ?_
  refine KT.appK (k := 1) (cells := []) (vs := [.d (DI (i : Nat))]) rfl rfl rfl rfl .nil rfl rfl rfl (by simp) Tryd.underlying38 Tryd.size3 (of_decide_eq_true (by kernel_rfl)) (by kernel_rfl) (by decide) fun σ1 x1 o1 k1 w1 => ?_
  refine KT.step rfl rfl (K.assign rfl) ?_
  refine KT.nil ?_
  refine thenK_n ?_
  refine KC.ret ?_
  obtain ⟨id1, rfl, h1⟩ := o1.is (n := 1) rfl (by decide) (by decide)
  refine ⟨.inl rfl, _, rfl, ?_⟩
  show deepen _ 5 _ = _
  rw [deepen_osl (ob := ⟨[.d (DI (i : Nat))], 1⟩) (by simp [freezeAll, h1]) rfl (by simp)]
  rfl
set_option maxRecDepth 10000 in
theorem longer105_sl {cs : List DV} {n : Nat} (hc : cs.length = n) (hn : n < 1000000) (i : Nat) : DeepCall Tryd.prog 105 [.sl cs n none, DI (i : Nat)] (.sl (cs ++ [DI (i : Nat)]) (n + 1) none) := by
  refine deepCall_K 5 Tryd.func105 rfl (Nat.le_of_ble_eq_true rfl) fun M W0 => ?_
  refine KC.seq ?_
  refine KC.region ?_
  refine KT.step rfl rfl (K.assign rfl) ?_
  refine KT.nil ?_
  refine thenK_n ?_
  refine KC.seq ?_
  refine KC.region ?_
  refine KT.step rfl rfl (K.move rfl) ?_
  refine KT.step rfl rfl (K.move rfl) ?_
  refine KT.step rfl rfl (K.lenSl (ds := cs) (n := n) rfl Tryd.underlying38) ?_
  refine KT.step rfl rfl (K.move rfl) ?_
  refine KT.step rfl rfl (K.lenSl (ds := cs) (n := n) rfl Tryd.underlying38) ?_
  refine KT.step rfl rfl (K.slice3 rfl rfl rfl hc Tryd.underlying38 Tryd.size3) ?_
  refine KT.step rfl rfl (K.move rfl) ?_
  refine KT.step rfl rfl (K.build1' rfl rfl Tryd.underlying38 Tryd.one3) ?_
  refine KT.step rfl rfl (K.appFull rfl rfl rfl hc rfl (by omega) Tryd.underlying38 Tryd.one3) ?_
  refine KT.step rfl rfl (K.assign rfl) ?_
  refine KT.nil ?_
  refine thenK_n ?_
  refine KC.ret ?_
  refine ⟨.inl rfl, _, rfl, ?_⟩
  show deepen _ 5 _ = _
  rw [deepen_osl (ob := ⟨cs.map .d ++ [.d (DI (i : Nat))], 1⟩) rfl rfl (by simp [hc]), List.drop_zero, Nat.mul_one, List.take_of_length_le (by simp [hc]), show cs.map XV.d ++ [.d (DI (i : Nat))] = (cs ++ [DI (i : Nat)]).map .d by simp, mapM_deep]
  rfl
theorem longer105 (w : List Nat) (hw : w.length < 1000000) (i : Nat) : DeepCall Tryd.prog 105 [wV w, DI (i : Nat)] (wV (w ++ [i])) := by
  cases w with
  | nil => exact longer105_nil i
  | cons a w =>
    rw [wV_snoc]
    exact longer105_sl (by simp) hw i
theorem nx_get {a : Int} {nx ou : List (List Int)} (hv : VM a nx ou) {s i : Nat} (hs : s < nx.length) (hi : (i : Int) < a) : ∃ h : i < nx[s].length, nx[s][i] = (nxF nx s i : Int) := by
  have e1 := hv.next (s := s) (i := i) hs hi
  have e2 : nx.getD s [] = nx[s] := by simp [hs]
  have e3 : i < nx[s].length := by rw [← e2]; omega
  exact ⟨e3, by rw [← e1.2.1, e2]; simp [e3]⟩
theorem ou_get {a : Int} {nx ou : List (List Int)} (hv : VM a nx ou) {s i : Nat} (hs : s < nx.length) (hi : (i : Int) < a) : ∃ (hs' : s < ou.length) (h : i < ou[s].length), ou[s][i] = ouF ou s i := by
  have hs' : s < ou.length := by rw [hv.oul]; exact hs
  have e1 := hv.out (s := s) (i := i) hs hi
  have e2 : ou.getD s [] = ou[s] := by simp [hs']
  have e3 : i < ou[s].length := by rw [← e2]; omega
  exact ⟨hs', e3, by unfold ouF; rw [e2]; simp [e3]⟩
end Go.Proofs.YteednkolfnjdoaaDoor

