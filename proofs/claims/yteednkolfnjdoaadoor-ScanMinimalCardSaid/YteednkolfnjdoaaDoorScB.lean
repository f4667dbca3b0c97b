import Derived.Test.YteednkolfnjdoaaDoorScA
import Derived.Test.YteednkolfnjdoaaDoorBaQ
import Derived.Test.YteednkolfnjdoaaDoorCyY
/-
  Controllers: the search of the program.
-/
namespace Go.Proofs.YteednkolfnjdoaaDoor
open Go.Vm Go.Sc
theorem plainTryd_105 : plainFn Tryd.prog 105 = true := by kernel_rfl
theorem plainTryd_103 : plainFn Tryd.prog 103 = true := by kernel_rfl
theorem plainTryd_97 : plainFn Tryd.prog 97 = true := by kernel_rfl
theorem plainTryd_104 : plainFn Tryd.prog 104 = true := by kernel_rfl
theorem plainTryd_75 : plainFn Tryd.prog 75 = true := by kernel_rfl
theorem plainTryd_44 : plainFn Tryd.prog 44 = true := by kernel_rfl
theorem Tryd.agg158 : isAggT Tryd.prog 158 = some true := by kernel_rfl
theorem Tryd.size158 : sizeT Tryd.prog 158 = some 2 := by kernel_rfl
theorem Tryd.zero158 : zeroT Tryd.prog 158 = some (.agg #[.int .i64 0, .slice none 0 0]) := by kernel_rfl
theorem Tryd.fld158_0 : fieldT Tryd.prog 158 0 = some { name := "state", type := 3, offset := 0, embedded := false, tag := "", pkgPath := "massecuite/scan", byteOffset := 0 } := by kernel_rfl
theorem Tryd.fld158_1 : fieldT Tryd.prog 158 1 = some { name := "word", type := 38, offset := 1, embedded := false, tag := "", pkgPath := "massecuite/scan", byteOffset := 8 } := by kernel_rfl
theorem Tryd.agg168 : isAggT Tryd.prog 168 = some true := by kernel_rfl
theorem Tryd.size168 : sizeT Tryd.prog 168 = some 3 := by kernel_rfl
theorem Tryd.zero168 : zeroT Tryd.prog 168 = some (.agg #[.int .i64 0, .int .i64 0, .slice none 0 0]) := by kernel_rfl
theorem Tryd.fld168_0 : fieldT Tryd.prog 168 0 = some { name := "state", type := 163, offset := 0, embedded := false, tag := "", pkgPath := "massecuite/scan", byteOffset := 0 } := by kernel_rfl
theorem Tryd.fld168_1 : fieldT Tryd.prog 168 1 = some { name := "word", type := 38, offset := 2, embedded := false, tag := "", pkgPath := "massecuite/scan", byteOffset := 16 } := by kernel_rfl
theorem Tryd.agg163 : isAggT Tryd.prog 163 = some true := by kernel_rfl
theorem Tryd.size163 : sizeT Tryd.prog 163 = some 2 := by kernel_rfl
theorem Tryd.zero163 : zeroT Tryd.prog 163 = some (.agg #[.int .i64 0, .int .i64 0]) := by kernel_rfl
theorem arrK : WideMaps.ArrKey Tryd.prog 163 3 2 := ⟨Tryd.underlying163, by kernel_rfl, by kernel_rfl, by kernel_rfl⟩
theorem keyT : Tryd.prog.keyType 163 = true := by kernel_rfl
theorem keyRP : KeyR Tryd.prog 163 (fun v => ∃ l, keyOf Tryd.prog 163 v = some l) := KeyR.law arrK.law
theorem keyRI : KeyR Tryd.prog 3 (MapKept.IsKey (.int .i64)) := KeyR.plain Tryd.underlying3
theorem keyP_ok {a b : Int} (ha : 0 ≤ a ∧ a ≤ 1000) (hb : 0 ≤ b ∧ b ≤ 1000) : ∃ l, keyOf Tryd.prog 163 (.agg #[.int .i64 a, .int .i64 b]) = some l := by
  unfold keyOf
  rw [Tryd.underlying163]
  simp only [keyT, Bool.true_and]
  have hf : (Value.agg #[.int .i64 a, .int .i64 b]).formed Tryd.prog 163 = true := by
    unfold Value.formed
    rw [Tryd.underlying163]
    have h1 : Tryd.prog.cellsOf 163 = 2 := by kernel_rfl
    simp [h1]
  rw [if_pos hf]
  have hsz : ∃ m, Tryd.prog.types.size + 1 = m + 2 := ⟨Tryd.prog.types.size - 1, by have : 1 ≤ Tryd.prog.types.size := Nat.le_of_ble_eq_true (by kernel_rfl); omega⟩
  obtain ⟨m, hm⟩ := hsz
  have c3 : Tryd.prog.cellsOf 3 = 1 := by kernel_rfl
  have ck : Tryd.prog.cellsOf 163 = 2 := by kernel_rfl
  have hl : ∀ x : Int, 0 ≤ x ∧ x ≤ 1000 → Tryd.prog.keyLits (m + 1) 3 [.int .i64 x] = some [.int .i64 x] := fun x hx => by
    unfold Program.keyLits
    rw [Tryd.underlying3]
    have : (Lit.int .i64 x).wf = true := by simp [Lit.wf, IntKind.min, IntKind.max, IntKind.signed, IntKind.bits]; omega
    simp [this]
  have h2 : Tryd.prog.keyLits (m + 2) 163 [.int .i64 a, .int .i64 b] = some [.int .i64 a, .int .i64 b] := by
    unfold Program.keyLits
    rw [Tryd.underlying163]
    simp [ck, c3, List.range_succ, hl a ha, hl b hb]
  rw [hm]
  exact ⟨_, by rw [show (Value.agg #[.int .i64 a, .int .i64 b]).cells.toList = [.int .i64 a, .int .i64 b] from rfl, h2]; rfl⟩
theorem build158_2 (x : Int) (cs : List DV) (n : Nat) (c : Option Nat) : opBuild Tryd.prog 158 [(0, .d (DI x)), (1, .d (.sl cs n c))] = some (.d (.agg [DI x, .sl cs n c])) := by kernel_rfl
theorem build158_1 (x : Int) : opBuild Tryd.prog 158 [(0, .d (DI x))] = some (.d (.agg [DI x, Dnil])) := by kernel_rfl
theorem build168_2 (x y : Int) (cs : List DV) (n : Nat) (c : Option Nat) : opBuild Tryd.prog 168 [(0, .d (.agg [DI x, DI y])), (1, .d (.sl cs n c))] = some (.d (.agg [DI x, DI y, .sl cs n c])) := by kernel_rfl
theorem build168_1 (x y : Int) : opBuild Tryd.prog 168 [(0, .d (.agg [DI x, DI y]))] = some (.d (.agg [DI x, DI y, Dnil])) := by kernel_rfl
theorem build163_2 (x y : Int) : opBuild Tryd.prog 163 [(0, .d (DI x)), (1, .d (DI y))] = some (.d (.agg [DI x, DI y])) := by kernel_rfl
set_option maxRecDepth 10000 in
theorem longer105_nil (i : Nat) : DeepCall Tryd.prog 105 [Dnil, DI (i : Nat)] (wV [i]) := by
  refine deepCall_K 5 Tryd.func105 rfl (Nat.le_of_ble_eq_true rfl) fun M W0 => ?_
  refine KC.seq ?_
  refine KC.region ?_
  refine KT.step rfl rfl (K.assign rfl) ?_
  refine KT.nil ?_
  refine thenK_n ?_
  refine KC.seq ?_
  refine KC.region ?_
  refine KT.step rfl rfl (K.move rfl) ?_
  refine KT.step rfl rfl (K.move rfl) ?_
  refine KT.step rfl rfl (K.len (R := IsI) (l := []) rfl .nil Tryd.underlying38) ?_
  refine KT.step rfl rfl (K.move rfl) ?_
  refine KT.step rfl rfl (K.len (R := IsI) (l := []) rfl .nil Tryd.underlying38) ?_
  refine KT.step rfl rfl (K.slice3N rfl rfl rfl (by kernel_rfl)) ?_
  refine KT.step rfl rfl (K.move rfl) ?_
  refine KT.step rfl rfl (K.build1' rfl rfl Tryd.underlying38 Tryd.one3) ?_
  refine KT.appK (k := 1) (cells := []) (vs := [.d (DI (i : Nat))]) rfl rfl rfl rfl .nil rfl rfl rfl (by simp) Tryd.underlying38 Tryd.size3 (of_decide_eq_true (by kernel_rfl)) (by kernel_rfl) (by decide) fun σ1 x1 o1 k1 w1 => ?_
  refine KT.step rfl rfl (K.assign rfl) ?_
  refine KT.nil ?_
  refine thenK_n ?_
  refine KC.ret ?_
  obtain ⟨id1, rfl, h1⟩ := o1.is (n := 1) rfl (by decide) (by decide)
  refine ⟨.inl rfl, _, rfl, ?_⟩
  show deepen _ 5 _ = _
  rw [deepen_osl (ob := ⟨[.d (DI (i : Nat))], 1⟩) (by simp [freezeAll, h1]) rfl (by simp)]
  rfl
set_option maxRecDepth 10000 in
theorem longer105_sl {cs : List DV} {n : Nat} (hc : cs.length = n) (hn : n < 1000000) (i : Nat) : DeepCall Tryd.prog 105 [.sl cs n none, DI (i : Nat)] (.sl (cs ++ [DI (i : Nat)]) (n + 1) none) := by
  refine deepCall_K 5 Tryd.func105 rfl (Nat.le_of_ble_eq_true rfl) fun M W0 => ?_
  refine KC.seq ?_
  refine KC.region ?_
  refine KT.step rfl rfl (K.assign rfl) ?_
  refine KT.nil ?_
  refine thenK_n ?_
  refine KC.seq ?_
  refine KC.region ?_
  refine KT.step rfl rfl (K.move rfl) ?_
  refine KT.step rfl rfl (K.move rfl) ?_
  refine KT.step rfl rfl (K.lenSl (ds := cs) (n := n) rfl Tryd.underlying38) ?_
  refine KT.step rfl rfl (K.move rfl) ?_
  refine KT.step rfl rfl (K.lenSl (ds := cs) (n := n) rfl Tryd.underlying38) ?_
  refine KT.step rfl rfl (K.slice3 rfl rfl rfl hc Tryd.underlying38 Tryd.size3) ?_
  refine KT.step rfl rfl (K.move rfl) ?_
  refine KT.step rfl rfl (K.build1' rfl rfl Tryd.underlying38 Tryd.one3) ?_
  refine KT.step rfl rfl (K.appFull rfl rfl rfl hc rfl (by omega) Tryd.underlying38 Tryd.one3) ?_
  refine KT.step rfl rfl (K.assign rfl) ?_
  refine KT.nil ?_
  refine thenK_n ?_
  refine KC.ret ?_
  refine ⟨.inl rfl, _, rfl, ?_⟩
  show deepen _ 5 _ = _
  rw [deepen_osl (ob := ⟨cs.map .d ++ [.d (DI (i : Nat))], 1⟩) rfl rfl (by simp [hc]), List.drop_zero, Nat.mul_one, List.take_of_length_le (by simp [hc]), show cs.map XV.d ++ [.d (DI (i : Nat))] = (cs ++ [DI (i : Nat)]).map .d by simp, mapM_deep]
  rfl
theorem longer105 (w : List Nat) (hw : w.length < 1000000) (i : Nat) : DeepCall Tryd.prog 105 [wV w, DI (i : Nat)] (wV (w ++ [i])) := by
  cases w with
  | nil => exact longer105_nil i
  | cons a w =>
    rw [wV_snoc]
    exact longer105_sl (by simp) hw i
theorem nx_get {a : Int} {nx ou : List (List Int)} (hv : VM a nx ou) {s i : Nat} (hs : s < nx.length) (hi : (i : Int) < a) : ∃ h : i < nx[s].length, nx[s][i] = (nxF nx s i : Int) := by
  have e1 := hv.next (s := s) (i := i) hs hi
  have e2 : nx.getD s [] = nx[s] := by simp [hs]
  have e3 : i < nx[s].length := by rw [← e2]; omega
  exact ⟨e3, by rw [← e1.2.1, e2]; simp [e3]⟩
theorem ou_get {a : Int} {nx ou : List (List Int)} (hv : VM a nx ou) {s i : Nat} (hs : s < nx.length) (hi : (i : Int) < a) : ∃ (hs' : s < ou.length) (h : i < ou[s].length), ou[s][i] = ouF ou s i := by
  have hs' : s < ou.length := by rw [hv.oul]; exact hs
  have e1 := hv.out (s := s) (i := i) hs hi
  have e2 : ou.getD s [] = ou[s] := by simp [hs']
  have e3 : i < ou[s].length := by rw [← e2]; omega
  exact ⟨hs', e3, by unfold ouF; rw [e2]; simp [e3]⟩
set_option maxRecDepth 10000 in
theorem pnc103 {a : Int} {nd od : DV} {nx ou : List (List Int)} (hn : Mat nd nx) (_ : Mat od ou) (hv : VM a nx ou) {nd2 od2 : DV} {nx2 ou2 : List (List Int)} (hn2 : Mat nd2 nx2) (_ : Mat od2 ou2) (hv2 : VM a nx2 ou2) {s t i : Nat} (hs : s < nx.length) (ht : t < nx2.length) (hi : (i : Int) < a) : DeepCall Tryd.prog 103 [.agg [DI (s : Nat), DI (t : Nat)], DI (i : Nat), .ptr [DI a, nd, od], .ptr [DI a, nd2, od2]] (.agg [DI (nxF nx s i : Nat), DI (nxF nx2 t i : Nat)]) := by
  obtain ⟨g1, g2⟩ := nx_get hv hs hi
  obtain ⟨g3, g4⟩ := nx_get hv2 ht hi
  refine deepCall_K 5 Tryd.func103 rfl (Nat.le_of_ble_eq_true rfl) fun M W0 => ?_
  refine KC.seq ?_
  refine KC.region ?_
  refine KT.step rfl rfl (K.box rfl) ?_
  refine KT.step rfl rfl (K.alloc Tryd.zero163) ?_
  refine KT.nil ?_
  refine thenK_n ?_
  refine KC.seq ?_
  refine KC.draw Tryd.mixed ?_
  refine KT.step rfl rfl (K.fieldAddrD rfl Tryd.fld58_1 Tryd.size56) ?_
  refine KT.step rfl rfl (K.load rfl Tryd.agg56) ?_
  refine KT.step rfl rfl (K.idxA (m := 0) rfl rfl (by decide) Tryd.underlying163 Tryd.size3) ?_
  refine KT.step rfl rfl (K.loadO rfl rfl (by simp) (by rfl) Tryd.agg3) ?_
  refine KT.idx (m := s) rfl rfl rfl hn rfl (by omega) Tryd.underlying56 Tryd.size38 fun c11 cs11 hq11 => ?_
  refine KT.step rfl rfl (K.load rfl Tryd.agg38) ?_
  refine KT.step rfl rfl (K.move rfl) ?_
  refine KT.idxI (m := i) rfl rfl rfl hq11 rfl (by omega) Tryd.underlying38 Tryd.size3 fun cs14 => ?_
  refine KT.step rfl rfl (K.load rfl Tryd.agg3) ?_
  refine KT.step rfl rfl (K.fieldAddrD rfl Tryd.fld58_1 Tryd.size56) ?_
  refine KT.step rfl rfl (K.load rfl Tryd.agg56) ?_
  refine KT.step rfl rfl (K.idxA (m := 1) rfl rfl (by decide) Tryd.underlying163 Tryd.size3) ?_
  refine KT.step rfl rfl (K.loadO rfl rfl (by simp) (by rfl) Tryd.agg3) ?_
  refine KT.idx (m := t) rfl rfl rfl hn2 rfl (by omega) Tryd.underlying56 Tryd.size38 fun c20 cs20 hq20 => ?_
  refine KT.step rfl rfl (K.load rfl Tryd.agg38) ?_
  refine KT.step rfl rfl (K.move rfl) ?_
  refine KT.idxI (m := i) rfl rfl rfl hq20 rfl (by omega) Tryd.underlying38 Tryd.size3 fun cs23 => ?_
  refine KT.step rfl rfl (K.load rfl Tryd.agg3) ?_
  rw [g2, g4]
  refine KT.step rfl rfl (K.buildS rfl (build163_2 _ _)) ?_
  refine KT.storeL (cs := ([DI (nxF nx s i : Nat), DI (nxF nx2 t i : Nat)]).map .d) rfl rfl rfl rfl rfl rfl rfl Tryd.size163 ?_
  refine KT.nil ?_
  refine ⟨by kernel_rfl, ?_⟩
  refine thenK_n ?_
  refine KC.ret ?_
  exact ⟨.inl rfl, _, resK_c [DI (nxF nx s i : Nat), DI (nxF nx2 t i : Nat)] rfl rfl rfl (by decide) Tryd.agg163 Tryd.size163 rfl, fin_d rfl⟩
end Go.Proofs.YteednkolfnjdoaaDoor

