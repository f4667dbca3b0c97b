import Derived.Test.YtnfnjnaheckdbaaFlTe
/-
  Dataflow graphs: who takes longer begins no earlier.
-/
namespace Go.Proofs.Ytnfnjnaheckdbaa
open Go.Vm Go.Fl
theorem plainTry_38 : plainFn Try.prog 38 = true := by kernel_rfl

set_option maxRecDepth 10000 in
theorem later38 {N : Nat} {st st' : Sts} (h : ∀ j, j < N → (st j).length = (st' j).length ∧ ∀ k, (st' j).getD k 0 ≤ (st j).getD k 0) (hN : N ≤ 6) (hl : ∀ j, j < N → (st j).length ≤ 100000) : DeepCall Try.prog 38 [stD N st, stD N st'] (DB true) := by
  refine deepCall_K 5 Try.func38 rfl (Nat.le_of_ble_eq_true rfl) fun M W0 => ?_
  refine KC.seq ?_
  refine KC.region ?_
  refine KT.step rfl rfl (K.assign rfl) ?_
  refine KT.nil ?_
  refine thenK_n ?_
  refine KC.seq ?_
  refine KC.seq ?_
  refine KC.region ?_
  refine KT.step rfl rfl (K.move rfl) ?_
  refine KT.step rfl rfl (K.lenD rfl Try.underlying50) ?_
  refine KT.step rfl rfl (K.move rfl) ?_
  refine KT.step rfl rfl (K.lenD rfl Try.underlying50) ?_
  refine KT.step rfl rfl (K.neq rfl rfl) ?_
  refine KT.nil ?_
  refine thenK_n ?_
  refine KC.cond rfl (fun hc13 => ?_) (fun hc13 => ?_)
  · skip
    exact absurd rfl (of_decide_eq_true hc13)
  · skip
    replace hc13 := of_decide_eq_false hc13
    refine KC.skip ?_
    refine thenK_n ?_
    refine KC.seq ?_
    refine KC.seq ?_
    refine KC.region ?_
    refine KT.step rfl rfl (K.move rfl) ?_
    refine KT.step rfl rfl (K.lenD rfl Try.underlying50) ?_
    refine KT.step rfl rfl (K.move rfl) ?_
    refine KT.nil ?_
    refine thenK_n ?_
    refine KC.block ?_
    refine KC.loop (fun _ : Nat => []) (fun i => [(1, .d (stD N st')), (14, .d (stD N st)), (15, .d (DI (N : Nat))), (16, .d (DI (i : Nat)))]) (fun i => i ≤ N) (fun i => N - i) 0 (Nat.zero_le _) rfl (by simp [Go.Vm.look, extK, enterK]) ?_
    intro i hi
    refine KC.seq ?_
    refine KC.region ?_
    refine KT.step rfl rfl (K.lss rfl rfl) ?_
    refine KT.nil ?_
    refine thenK_n ?_
    refine KC.seq ?_
    refine KC.cond rfl (fun hc17 => ?_) (fun hc17 => ?_)
    · skip
      replace hc17 := of_decide_eq_true hc17
      have hil : i < N := by omega
      have ha := lsD_ints (st i)
      have hb := lsD_ints (st' i)
      have hij := h i hil
      have hli := hl i hil
      refine KC.skip ?_
      refine thenK_n ?_
      refine KC.seq ?_
      refine KC.block ?_
      refine KC.seq ?_
      refine KC.region ?_
      refine KT.step rfl rfl (K.move rfl) ?_
      refine KT.step rfl rfl (K.idxDK rfl rfl hil Try.underlying50 Try.size25) ?_
      refine KT.step rfl rfl (K.loadSeq hil rfl Try.agg25) ?_
      refine KT.step rfl rfl (K.assign rfl) ?_
      refine KT.step rfl rfl (K.assign rfl) ?_
      refine KT.nil ?_
      refine thenK_n ?_
      refine KC.seq ?_
      refine KC.seq ?_
      refine KC.region ?_
      refine KT.step rfl rfl (K.move rfl) ?_
      refine KT.step rfl rfl (K.len rfl ha Try.underlying25) ?_
      refine KT.step rfl rfl (K.move rfl) ?_
      refine KT.step rfl rfl (K.move rfl) ?_
      refine KT.step rfl rfl (K.idxDK rfl rfl hil Try.underlying50 Try.size25) ?_
      refine KT.step rfl rfl (K.loadSeq hil rfl Try.agg25) ?_
      refine KT.step rfl rfl (K.len rfl hb Try.underlying25) ?_
      refine KT.step rfl rfl (K.neq rfl rfl) ?_
      refine KT.nil ?_
      refine thenK_n ?_
      refine KC.cond rfl (fun hc28 => ?_) (fun hc28 => ?_)
      · skip
        exfalso; replace hc28 := of_decide_eq_true hc28; rw [hij.1] at hc28; exact hc28 rfl
      · skip
        replace hc28 := of_decide_eq_false hc28
        refine KC.skip ?_
        refine thenK_n ?_
        refine KC.seq ?_
        refine KC.region ?_
        refine KT.step rfl rfl (K.move rfl) ?_
        refine KT.step rfl rfl (K.len rfl ha Try.underlying25) ?_
        refine KT.step rfl rfl (K.move rfl) ?_
        refine KT.nil ?_
        refine thenK_n ?_
        refine KC.block ?_
        refine KC.loop (fun _ : Nat => []) (fun k => [(1, .d (stD N st')), (5, .d (DI (i : Nat))), (14, .d (stD N st)), (15, .d (DI (N : Nat))), (16, .d (DI (i : Nat))), (29, .d (lsD (st i))), (30, .d (DI ((st i).length : Nat))), (31, .d (DI (k : Nat)))]) (fun k => k ≤ (st i).length) (fun k => (st i).length - k) 0 (Nat.zero_le _) rfl (by simp [Go.Vm.look, extK]) ?_
        intro k hk
        refine KC.seq ?_
        refine KC.region ?_
        refine KT.step rfl rfl (K.lss rfl rfl) ?_
        refine KT.nil ?_
        refine thenK_n ?_
        refine KC.seq ?_
        refine KC.cond rfl (fun hc32 => ?_) (fun hc32 => ?_)
        · skip
          replace hc32 := of_decide_eq_true hc32
          refine KC.skip ?_
          refine thenK_n ?_
          refine KC.seq ?_
          refine KC.block ?_
          refine KC.seq ?_
          refine KC.region ?_
          refine KT.step rfl rfl (K.move rfl) ?_
          refine KT.idxI rfl rfl rfl ha rfl (by omega) Try.underlying25 Try.size3 fun cs34 => ?_
          refine KT.step rfl rfl (K.load rfl Try.agg3) ?_
          refine KT.step rfl rfl (K.assign rfl) ?_
          refine KT.step rfl rfl (K.assign rfl) ?_
          refine KT.nil ?_
          refine thenK_n ?_
          refine KC.seq ?_
          refine KC.region ?_
          refine KT.step rfl rfl (K.move rfl) ?_
          refine KT.step rfl rfl (K.move rfl) ?_
          refine KT.step rfl rfl (K.idxDK rfl rfl hil Try.underlying50 Try.size25) ?_
          refine KT.step rfl rfl (K.loadSeq hil rfl Try.agg25) ?_
          refine KT.step rfl rfl (K.move rfl) ?_
          refine KT.idxI rfl rfl rfl hb rfl (by omega) Try.underlying25 Try.size3 fun cs41 => ?_
          refine KT.step rfl rfl (K.load rfl Try.agg3) ?_
          refine KT.step rfl rfl (K.move rfl) ?_
          refine KT.step rfl rfl (K.gtr rfl rfl) ?_
          refine KT.nil ?_
          refine thenK_n ?_
          refine KC.cond rfl (fun hc44 => ?_) (fun hc44 => ?_)
          · skip
            exfalso; replace hc44 := of_decide_eq_true hc44; have := hij.2 k; rw [List.getD_eq_getElem?_getD, List.getD_eq_getElem?_getD, List.getElem?_eq_getElem (by omega), List.getElem?_eq_getElem (by omega)] at this; simp only [Option.getD_some] at this; omega
          · skip
            replace hc44 := of_decide_eq_false hc44
            refine KC.skip ?_
            refine blockK_n ?_
            refine thenK_n ?_
            refine KC.region ?_
            refine KT.step rfl rfl (K.add rfl rfl (wrap_id (by omega))) ?_
            refine KT.step rfl rfl (K.move rfl) ?_
            refine KT.nil ?_
            refine thenK_n ?_
            exact ⟨k + 1, by omega, by omega, rfl, by simp [Go.Vm.look, extK]⟩
        · skip
          replace hc32 := of_decide_eq_false hc32
          refine KC.exit ?_
          refine thenK_x ?_
          refine thenK_x ?_
          refine blockK_e ?_
          refine blockK_n ?_
          refine thenK_n ?_
          refine KC.region ?_
          refine KT.step rfl rfl (K.add rfl rfl (wrap_id (by omega))) ?_
          refine KT.step rfl rfl (K.move rfl) ?_
          refine KT.nil ?_
          refine thenK_n ?_
          exact ⟨i + 1, by omega, by omega, rfl, by simp [Go.Vm.look, extK]⟩
    · skip
      replace hc17 := of_decide_eq_false hc17
      refine KC.exit ?_
      refine thenK_x ?_
      refine thenK_x ?_
      refine blockK_e ?_
      refine thenK_n ?_
      refine KC.seq ?_
      refine KC.region ?_
      refine KT.step rfl rfl (K.assign rfl) ?_
      refine KT.nil ?_
      refine thenK_n ?_
      refine KC.ret ?_
      exact ⟨.inl rfl, _, rfl, rfl⟩
end Go.Proofs.Ytnfnjnaheckdbaa

