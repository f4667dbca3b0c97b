import Derived.Test.YtnfnjnaheckdbaaFlJ
/-
  Dataflow graphs: what the reference says of loads; the closed call.
-/
namespace Go.Proofs.Ytnfnjnaheckdbaa
open Go.Vm Go.Fl
theorem plainTry_21 : plainFn Try.prog 21 = true := by kernel_rfl
theorem plainTry_22 : plainFn Try.prog 22 = true := by kernel_rfl
set_option maxRecDepth 10000 in
theorem equal21 {d e : DV} {x y : List Int} (hd : Ints d x) (he : Ints e y) (hl : x.length ≤ 9223372036854775807) :
    DeepCall Try.prog 21 [d, e] (DB (decide (x = y))) := by
  refine deepCall_K 5 Try.func21 rfl (Nat.le_of_ble_eq_true rfl) fun M W0 => ?_
  refine KC.seq ?_
  refine KC.region ?_
  refine KT.step rfl rfl (K.assign rfl) ?_
  refine KT.nil ?_
  refine thenK_n ?_
  refine KC.seq ?_
  refine KC.seq ?_
  refine KC.region ?_
  refine KT.step rfl rfl (K.move rfl) ?_
  refine KT.step rfl rfl (K.len rfl (by assumption) Try.underlying25) ?_
  refine KT.step rfl rfl (K.move rfl) ?_
  refine KT.step rfl rfl (K.len rfl (by assumption) Try.underlying25) ?_
  refine KT.step rfl rfl (K.neq rfl rfl) ?_
  refine KT.nil ?_
  refine thenK_n ?_
  refine KC.cond rfl (fun hc10 => ?_) (fun hc10 => ?_)
  · skip
    replace hc10 := of_decide_eq_true hc10
    refine KC.seq ?_
    refine KC.region ?_
    refine KT.step rfl rfl (K.assign rfl) ?_
    refine KT.nil ?_
    refine thenK_n ?_
    refine KC.ret ?_
    refine thenK_r ?_
    exact ⟨.inl rfl, _, rfl, fin_b (decide_eq_false fun h => by subst h; omega)⟩
  · skip
    replace hc10 := of_decide_eq_false hc10
    refine KC.skip ?_
    refine thenK_n ?_
    refine KC.seq ?_
    refine KC.seq ?_
    refine KC.region ?_
    refine KT.step rfl rfl (K.move rfl) ?_
    refine KT.step rfl rfl (K.len rfl (by assumption) Try.underlying25) ?_
    refine KT.step rfl rfl (K.move rfl) ?_
    refine KT.nil ?_
    refine thenK_n ?_
    refine KC.block ?_
    refine KC.loop (fun _ : Nat => []) (fun i => [(0, .d d), (1, .d e), (12, .d (DI x.length)), (13, .d (DI i))]) (fun i => i ≤ x.length ∧ x.take i = y.take i) (fun i => x.length - i) 0 ⟨Nat.zero_le _, rfl⟩ rfl (by simp [Go.Vm.look, extK, enterK]) ?_
    intro i hi
    obtain ⟨hi, hall⟩ := hi
    refine KC.seq ?_
    refine KC.region ?_
    refine KT.step rfl rfl (K.lss rfl rfl) ?_
    refine KT.nil ?_
    refine thenK_n ?_
    refine KC.seq ?_
    refine KC.cond rfl (fun hc14 => ?_) (fun hc14 => ?_)
    · skip
      replace hc14 := of_decide_eq_true hc14
      refine KC.skip ?_
      refine thenK_n ?_
      refine KC.seq ?_
      refine KC.block ?_
      refine KC.seq ?_
      refine KC.region ?_
      refine KT.step rfl rfl (K.move rfl) ?_
      refine KT.step rfl rfl (K.assign rfl) ?_
      refine KT.nil ?_
      refine thenK_n ?_
      refine KC.seq ?_
      refine KC.draw Try.mixed ?_
      refine KT.step rfl rfl (K.move rfl) ?_
      refine KT.step rfl rfl (K.move rfl) ?_
      refine KT.idxI rfl rfl rfl (by assumption) rfl (by omega) Try.underlying25 Try.size3 fun cs18 => ?_
      refine KT.step rfl rfl (K.load rfl Try.agg3) ?_
      refine KT.step rfl rfl (K.move rfl) ?_
      refine KT.step rfl rfl (K.move rfl) ?_
      refine KT.idxI rfl rfl rfl (by assumption) rfl (by omega) Try.underlying25 Try.size3 fun cs22 => ?_
      refine KT.step rfl rfl (K.load rfl Try.agg3) ?_
      refine KT.step rfl rfl (K.neq rfl rfl) ?_
      refine KT.nil ?_
      refine ⟨by kernel_rfl, ?_⟩
      refine thenK_n ?_
      refine KC.cond rfl (fun hc24 => ?_) (fun hc24 => ?_)
      · skip
        replace hc24 := of_decide_eq_true hc24
        refine KC.seq ?_
        refine KC.region ?_
        refine KT.step rfl rfl (K.assign rfl) ?_
        refine KT.nil ?_
        refine thenK_n ?_
        refine KC.ret ?_
        refine blockK_r ?_
        refine thenK_r ?_
        refine thenK_r ?_
        refine blockK_r ?_
        refine thenK_r ?_
        exact ⟨.inl rfl, _, rfl, fin_b (decide_eq_false fun h => by subst h; exact hc24 rfl)⟩
      · skip
        replace hc24 := of_decide_eq_false hc24
        refine KC.skip ?_
        refine blockK_n ?_
        refine thenK_n ?_
        refine KC.region ?_
        refine KT.step rfl rfl (K.add rfl rfl (wrap_id (by omega))) ?_
        refine KT.step rfl rfl (K.move rfl) ?_
        refine KT.nil ?_
        refine thenK_n ?_
        refine ⟨i + 1, ⟨by omega, ?_⟩, by omega, rfl, by simp [Go.Vm.look, extK]⟩
        rw [List.take_succ_eq_append_getElem (by omega), List.take_succ_eq_append_getElem (by omega), hall, Classical.not_not.1 hc24]
    · skip
      replace hc14 := of_decide_eq_false hc14
      refine KC.exit ?_
      refine thenK_x ?_
      refine thenK_x ?_
      refine blockK_e ?_
      refine thenK_n ?_
      refine KC.seq ?_
      refine KC.region ?_
      refine KT.step rfl rfl (K.assign rfl) ?_
      refine KT.nil ?_
      refine thenK_n ?_
      refine KC.ret ?_
      have hx : x.take i = x := List.take_of_length_le (by omega)
      have hy : y.take i = y := List.take_of_length_le (by omega)
      rw [hx, hy] at hall
      exact ⟨.inl rfl, _, rfl, fin_b (decide_eq_true hall)⟩

abbrev lkO (l : LN) : VObj := ⟨(lk5 l.z).map .d, 0⟩
end Go.Proofs.Ytnfnjnaheckdbaa

