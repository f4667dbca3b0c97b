import Derived.Test.YtdgahcbalabjdaaGreatCyN
import Derived.Test.YtdgahcbalabjdaaGreatZBaX
import Derived.Test.YtdgahcbalabjdaaGreatProg
import Derived.KernelRfl
/-
  Times: numbers, and which matrices are valid.
-/
namespace Go.Proofs.YtdgahcbalabjdaaGreat
open Go.Vm Go.Cy
theorem Tryz.agg86 : isAggT Tryz.prog 86 = some true := by kernel_rfl
theorem Tryz.size86 : sizeT Tryz.prog 86 = some 4 := by kernel_rfl
theorem Tryz.zero86 : zeroT Tryz.prog 86 = some (.agg #[.int .i64 0, .int .i64 0, .int .i64 0, .int .i64 0]) := by kernel_rfl
theorem Tryz.agg72 : isAggT Tryz.prog 72 = some true := by kernel_rfl
theorem Tryz.size72 : sizeT Tryz.prog 72 = some 2 := by kernel_rfl
theorem Tryz.zero72 : zeroT Tryz.prog 72 = some (.agg #[.int .i64 0, .int .i64 0]) := by kernel_rfl
theorem Tryz.fld72_0 : fieldT Tryz.prog 72 0 = some { name := "num", type := 3, offset := 0, embedded := false, tag := "", pkgPath := "massecuite/cycle", byteOffset := 0 } := by kernel_rfl
theorem Tryz.fld72_1 : fieldT Tryz.prog 72 1 = some { name := "den", type := 3, offset := 1, embedded := false, tag := "", pkgPath := "massecuite/cycle", byteOffset := 8 } := by kernel_rfl
theorem plainTryz_51 : plainFn Tryz.prog 51 = true := by kernel_rfl
theorem plainTryz_72 : plainFn Tryz.prog 72 = true := by kernel_rfl
theorem plainTryz_57 : plainFn Tryz.prog 57 = true := by kernel_rfl
set_option maxRecDepth 10000 in
theorem within52 (x lo hi : Int) : DeepCall Tryz.prog 51 [DI x, DI lo, DI hi] (DB (decide (lo ≤ x) && decide (x ≤ hi))) := by
  refine deepCall_K 5 Tryz.func51 rfl (Nat.le_of_ble_eq_true rfl) fun M W0 => ?_
  refine KC.seq ?_
  refine KC.region ?_
  refine KT.step rfl rfl (K.assign rfl) ?_
  refine KT.nil ?_
  refine thenK_n ?_
  refine KC.seq ?_
  refine KC.region ?_
  refine KT.step rfl rfl (K.move rfl) ?_
  refine KT.step rfl rfl (K.move rfl) ?_
  refine KT.step rfl rfl (K.leq rfl rfl) ?_
  refine KT.step rfl rfl (K.move rfl) ?_
  refine KT.bcase (fun hb10 => ?_) (fun hb10 => ?_)
  · skip
    replace hb10 := of_decide_eq_true hb10
    refine KT.step rfl rfl (K.move rfl) ?_
    refine KT.step rfl rfl (K.move rfl) ?_
    refine KT.step rfl rfl (K.leq rfl rfl) ?_
    refine KT.step rfl rfl (K.pick rfl (fun _ => rfl) (fun h => by cases h)) ?_
    refine KT.step rfl rfl (K.assign rfl) ?_
    refine KT.nil ?_
    refine thenK_n ?_
    refine KC.ret ?_
    exact ⟨.inl rfl, _, rfl, fin_b (by rw [decide_eq_true hb10, Bool.true_and])⟩
  · skip
    replace hb10 := of_decide_eq_false hb10
    refine KT.skip rfl rfl ?_
    refine KT.skip rfl rfl ?_
    refine KT.skip rfl rfl ?_
    refine KT.step rfl rfl (K.pick rfl (fun h => by cases h) (fun _ => rfl)) ?_
    refine KT.step rfl rfl (K.assign rfl) ?_
    refine KT.nil ?_
    refine thenK_n ?_
    refine KC.ret ?_
    exact ⟨.inl rfl, _, rfl, fin_b (by rw [decide_eq_false hb10]; rfl)⟩
set_option maxRecDepth 10000 in
theorem after87 {x y : Int} (hx : -2000000000000 ≤ x ∧ x ≤ 2000000000000) (hy : -2000000000000 ≤ y ∧ y ≤ 2000000000000) : DeepCall Tryz.prog 72 [DI x, DI y] (DI (aft x y)) := by
  refine deepCall_K 5 Tryz.func72 rfl (Nat.le_of_ble_eq_true rfl) fun M W0 => ?_
  refine KC.seq ?_
  refine KC.region ?_
  refine KT.step rfl rfl (K.assign rfl) ?_
  refine KT.nil ?_
  refine thenK_n ?_
  refine KC.seq ?_
  refine KC.seq ?_
  refine KC.region ?_
  refine KT.step rfl rfl (K.move rfl) ?_
  refine KT.step rfl rfl (K.eql rfl rfl) ?_
  refine KT.step rfl rfl (K.move rfl) ?_
  refine KT.bcase (fun hb7 => ?_) (fun hb7 => ?_)
  · skip
    replace hb7 := of_decide_eq_true hb7
    refine KT.skip rfl rfl ?_
    refine KT.skip rfl rfl ?_
    refine KT.step rfl rfl (K.pick rfl (fun _ => rfl) (fun h => by cases h)) ?_
    refine KT.nil ?_
    refine thenK_n ?_
    refine KC.cond rfl (fun hc10 => ?_) (fun hc10 => ?_)
    · skip
      refine KC.seq ?_
      refine KC.region ?_
      refine KT.step rfl rfl (K.assign rfl) ?_
      refine KT.nil ?_
      refine thenK_n ?_
      refine KC.ret ?_
      refine thenK_r ?_
      exact ⟨.inl rfl, _, rfl, fin_d (by rw [show aft x y = Nv from if_pos (.inl hb7)]; rfl)⟩
    · cases hc10
  · skip
    replace hb7 := of_decide_eq_false hb7
    refine KT.step rfl rfl (K.move rfl) ?_
    refine KT.step rfl rfl (K.eql rfl rfl) ?_
    refine KT.step rfl rfl (K.pick rfl (fun h => by cases h) (fun _ => rfl)) ?_
    refine KT.nil ?_
    refine thenK_n ?_
    refine KC.cond rfl (fun hc10 => ?_) (fun hc10 => ?_)
    · skip
      replace hc10 := of_decide_eq_true hc10
      refine KC.seq ?_
      refine KC.region ?_
      refine KT.step rfl rfl (K.assign rfl) ?_
      refine KT.nil ?_
      refine thenK_n ?_
      refine KC.ret ?_
      refine thenK_r ?_
      exact ⟨.inl rfl, _, rfl, fin_d (by rw [show aft x y = Nv from if_pos (.inr hc10)]; rfl)⟩
    · skip
      replace hc10 := of_decide_eq_false hc10
      refine KC.skip ?_
      refine thenK_n ?_
      refine KC.seq ?_
      refine KC.region ?_
      refine KT.step rfl rfl (K.move rfl) ?_
      refine KT.step rfl rfl (K.move rfl) ?_
      refine KT.step rfl rfl (K.add rfl rfl (wrap_id (by omega))) ?_
      refine KT.step rfl rfl (K.assign rfl) ?_
      refine KT.nil ?_
      refine thenK_n ?_
      refine KC.ret ?_
      exact ⟨.inl rfl, _, rfl, fin_d (by rw [show aft x y = x + y from if_neg (by rintro (h | h); exact hb7 h; exact hc10 h)])⟩
set_option maxRecDepth 10000 in
theorem greatest60_own {σ : List VObj} {id md : Nat} {l : List Int} {lo : Nat} {ex : Bool} (ho : σ[id]? = some ⟨icells l, md⟩) (hm : md < 2) (hl : l.length ≤ 1073741824) : OwnCall Tryz.prog 57 σ [.osl id 0 l.length 1 lo ex] σ (.d (DI (gre l))) := by
  refine ownCall_K Tryz.func57 rfl (Nat.le_of_ble_eq_true rfl) fun M W0 => ?_
  refine KC.seq ?_
  refine KC.region ?_
  refine KT.step rfl rfl (K.assign rfl) ?_
  refine KT.nil ?_
  refine thenK_n ?_
  refine KC.seq ?_
  refine KC.region ?_
  refine KT.step rfl rfl (K.assign rfl) ?_
  refine KT.nil ?_
  refine thenK_n ?_
  refine KC.seq ?_
  refine KC.seq ?_
  refine KC.region ?_
  refine KT.step rfl rfl (K.move rfl) ?_
  refine KT.step rfl rfl (K.lenO rfl Tryz.underlying36) ?_
  refine KT.step rfl rfl (K.move rfl) ?_
  refine KT.nil ?_
  refine thenK_n ?_
  refine KC.block ?_
  refine KC.loop (fun _ : Nat => σ) (fun i => [(3, .d (DI (gre (l.take i)))), (6, .osl id 0 l.length 1 lo ex), (7, .d (DI (l.length : Nat))), (8, .d (DI (i : Nat)))]) (fun i => i ≤ l.length) (fun i => l.length - i) 0 (Nat.zero_le _) rfl (by simp [Go.Vm.look, extK, enterK, gre, Nv]) ?_
  intro i hi
  refine KC.seq ?_
  refine KC.region ?_
  refine KT.step rfl rfl (K.lss rfl rfl) ?_
  refine KT.nil ?_
  refine thenK_n ?_
  refine KC.seq ?_
  refine KC.cond rfl (fun hc9 => ?_) (fun hc9 => ?_)
  · skip
    replace hc9 := of_decide_eq_true hc9
    refine KC.skip ?_
    refine thenK_n ?_
    refine KC.seq ?_
    refine KC.block ?_
    refine KC.seq ?_
    refine KC.region ?_
    refine KT.step rfl rfl (K.idxO rfl rfl (by omega) Tryz.underlying36 Tryz.size3) ?_
    refine KT.step rfl rfl (K.loadO rfl ho hm (icells_get (l := l) (i := i) (by omega)) Tryz.agg3) ?_
    refine KT.step rfl rfl (K.assign rfl) ?_
    refine KT.nil ?_
    refine thenK_n ?_
    refine KC.region ?_
    refine KT.step rfl rfl (K.move rfl) ?_
    refine KT.step rfl rfl (K.move rfl) ?_
    refine KT.step rfl rfl (K.max2 rfl rfl) ?_
    refine KT.step rfl rfl (K.assign rfl) ?_
    refine KT.nil ?_
    refine blockK_n ?_
    refine thenK_n ?_
    refine KC.region ?_
    refine KT.step rfl rfl (K.add rfl rfl (wrap_id (by omega))) ?_
    refine KT.step rfl rfl (K.move rfl) ?_
    refine KT.nil ?_
    refine thenK_n ?_
    refine ⟨i + 1, by omega, by omega, rfl, by simp [Go.Vm.look, extK, gre_take (show i < l.length by omega)]⟩
  · skip
    replace hc9 := of_decide_eq_false hc9
    refine KC.exit ?_
    refine thenK_x ?_
    refine thenK_x ?_
    refine blockK_e ?_
    refine thenK_n ?_
    refine KC.seq ?_
    refine KC.region ?_
    refine KT.step rfl rfl (K.move rfl) ?_
    refine KT.step rfl rfl (K.assign rfl) ?_
    refine KT.nil ?_
    refine thenK_n ?_
    refine KC.ret ?_
    rw [gre_end (show l.length ≤ i by omega)]
    exact ⟨.inl rfl, rfl, rfl⟩
end Go.Proofs.YtdgahcbalabjdaaGreat

