import Derived.Test.YtnfnjnaheckdbaaFlSp
import Derived.Test.YtnfnjnaheckdbaaFlSc
/-
  Starts of the reference.
-/
namespace Go.Proofs.Ytnfnjnaheckdbaa
open Go.Vm Go.Fl
theorem plainTry_56 : plainFn Try.prog 56 = true := by kernel_rfl
theorem plainTry_33 : plainFn Try.prog 33 = true := by kernel_rfl

theorem floorQ {a : Int} {b : Nat} (h1 : 1 ≤ b) (h6 : b ≤ 6) : (if Int.tmod a (b : Int) < 0 then Int.tdiv a (b : Int) - 1 else Int.tdiv a (b : Int)) = Int.fdiv a b := by
  by_cases ha : 0 ≤ a
  · rw [if_neg (by have := Int.tmod_nonneg (b : Int) ha; omega)]; exact fdivP ha
  · have e1 : Int.tdiv a (b : Int) = -((-a) / (b : Int)) := by
      rw [← Int.tdiv_eq_ediv_of_nonneg (by omega), Int.neg_tdiv, Int.neg_neg]
    have e2 : Int.tmod a (b : Int) = -((-a) % (b : Int)) := by
      rw [← Int.tmod_eq_emod_of_nonneg (by omega), Int.neg_tmod, Int.neg_neg]
    rw [e1, e2, Int.fdiv_eq_ediv_of_nonneg _ (by omega)]
    rcases (show b = 1 ∨ b = 2 ∨ b = 3 ∨ b = 4 ∨ b = 5 ∨ b = 6 by omega) with rfl | rfl | rfl | rfl | rfl | rfl <;> (split <;> omega)
theorem tdiv_bd {a : Int} {b : Nat} (h1 : 1 ≤ b) (hb : -100000 ≤ a ∧ a ≤ 100000) : -100000 ≤ Int.tdiv a b ∧ Int.tdiv a b ≤ 100000 := by
  by_cases ha : 0 ≤ a
  · have h := Int.tdiv_eq_ediv_of_nonneg (b := (b : Int)) ha
    rw [h]
    have h2 := Int.ediv_nonneg ha (show (0 : Int) ≤ b by omega)
    have h3 := Int.ediv_le_self (b : Int) ha
    omega
  · have e1 : Int.tdiv a (b : Int) = -((-a) / (b : Int)) := by
      rw [← Int.tdiv_eq_ediv_of_nonneg (by omega), Int.neg_tdiv, Int.neg_neg]
    rw [e1]
    have h2 := Int.ediv_nonneg (show 0 ≤ -a by omega) (show (0 : Int) ≤ b by omega)
    have h3 := Int.ediv_le_self (b : Int) (show 0 ≤ -a by omega)
    omega
set_option maxRecDepth 10000 in
theorem floor56 {a : Int} {b : Nat} (h1 : 1 ≤ b) (h6 : b ≤ 6) (hb : -100000 ≤ a ∧ a ≤ 100000) : DeepCall Try.prog 56 [DI a, DI (b : Nat)] (DI (Int.fdiv a b)) := by
  have htb := tdiv_bd (b := b) h1 hb
  have hQ := floorQ (a := a) h1 h6
  refine deepCall_K 5 Try.func56 rfl (Nat.le_of_ble_eq_true rfl) fun M W0 => ?_
  refine KC.seq ?_
  refine KC.region ?_
  refine KT.step rfl rfl (K.assign rfl) ?_
  refine KT.nil ?_
  refine thenK_n ?_
  refine KC.seq ?_
  refine KC.region ?_
  refine KT.step rfl rfl (K.move rfl) ?_
  refine KT.step rfl rfl (K.move rfl) ?_
  refine KT.step rfl rfl (K.quo rfl rfl (by omega) (wrap_id (by omega))) ?_
  refine KT.step rfl rfl (K.assign rfl) ?_
  refine KT.nil ?_
  refine thenK_n ?_
  refine KC.seq ?_
  refine KC.seq ?_
  refine KC.region ?_
  refine KT.step rfl rfl (K.move rfl) ?_
  refine KT.step rfl rfl (K.move rfl) ?_
  refine KT.step rfl rfl (K.rem rfl rfl (by omega) rfl) ?_
  refine KT.step rfl rfl (K.lss rfl rfl) ?_
  refine KT.nil ?_
  refine thenK_n ?_
  refine KC.cond rfl (fun hc12 => ?_) (fun hc12 => ?_)
  · skip
    replace hc12 := of_decide_eq_true hc12
    refine KC.region ?_
    refine KT.step rfl rfl (K.move rfl) ?_
    refine KT.step rfl rfl (K.sub rfl rfl (wrap_id (by omega))) ?_
    refine KT.step rfl rfl (K.assign rfl) ?_
    refine KT.nil ?_
    refine thenK_n ?_
    refine KC.seq ?_
    refine KC.region ?_
    refine KT.step rfl rfl (K.move rfl) ?_
    refine KT.step rfl rfl (K.assign rfl) ?_
    refine KT.nil ?_
    refine thenK_n ?_
    refine KC.ret ?_
    rw [if_pos hc12] at hQ
    rw [← hQ]
    exact ⟨.inl rfl, _, rfl, rfl⟩
  · skip
    replace hc12 := of_decide_eq_false hc12
    refine KC.skip ?_
    refine thenK_n ?_
    refine KC.seq ?_
    refine KC.region ?_
    refine KT.step rfl rfl (K.move rfl) ?_
    refine KT.step rfl rfl (K.assign rfl) ?_
    refine KT.nil ?_
    refine thenK_n ?_
    refine KC.ret ?_
    rw [if_neg hc12] at hQ
    rw [← hQ]
    exact ⟨.inl rfl, _, rfl, rfl⟩

theorem stA_bad {n pe : Int} {L : List LZ} {tm : List Int} (h : validB n L = false) : (stA n L tm pe).2 = 2 := by
  have h2 : (scA n L).2 = 2 := by unfold scA; rw [repA_bad h]; rfl
  unfold stA
  split
  · rw [h2]; rfl
  · rfl
theorem stA_tm {n pe : Int} {L : List LZ} {tm : List Int} (h : tmB tm n pe = false) : (stA n L tm pe).2 = 2 := by
  unfold stA; rw [if_neg (by rw [h]; decide)]
theorem stA_sc {n pe : Int} {L : List LZ} {tm : List Int} (h : tmB tm n pe = true) (he : (scA n L).2 ≠ 0) : (stA n L tm pe).2 = (scA n L).2 := by
  unfold stA; rw [if_pos h, if_neg he]
theorem stR_err {n pe : Int} {L : List LZ} {tm : List Int} (h : (stA n L tm pe).2 ≠ 0) : stR n L tm pe = Dnil := by unfold stR; rw [if_neg h]
theorem tmB_no {n pe : Int} {tm : List Int} (h : ¬ ((tm.length : Int) = n ∧ tm.all okTm = true ∧ 1 ≤ pe ∧ pe ≤ 20)) : tmB tm n pe = false := by
  rw [← Bool.not_eq_true]; intro z; exact h (tmB_iff.1 z)
set_option maxHeartbeats 4000000 in
set_option maxRecDepth 10000 in
theorem rstarts33 {d td : DV} {n pe : Int} {L : List LZ} {tm : List Int} (hd : Lks d L) (hl : L.length ≤ 9223372036854775807) (htd : Ints td tm) (htl0 : tm.length ≤ 9223372036854775807) :
    DeepCall Try.prog 33 [.agg [DI n, d], td, DI pe] (.tup [stR n L tm pe, DI (stA n L tm pe).2]) := by
  refine deepCall_K 6 Try.func33 rfl (Nat.le_of_ble_eq_true rfl) fun M W0 => ?_
  refine KC.seq ?_
  refine KC.region ?_
  refine KT.step rfl rfl (K.box rfl) ?_
  refine KT.step rfl rfl (K.assign rfl) ?_
  refine KT.step rfl rfl (K.assign rfl) ?_
  refine KT.nil ?_
  refine thenK_n ?_
  refine KC.seq ?_
  refine KC.seq ?_
  refine KC.region ?_
  refine KT.step rfl rfl (K.loadOA ([DI n, d]) rfl rfl (by decide) Try.agg24 Try.size24 rfl) ?_
  refine KT.step rfl rfl (K.call1 rfl plainTry_35 (rvalid35 hd hl)) ?_
  refine KT.step rfl rfl (K.not rfl) ?_
  refine KT.step rfl rfl (K.move rfl) ?_
  refine KT.bcase (fun hb24 => ?_) (fun hb24 => ?_)
  · skip
    refine KT.skip rfl rfl ?_
    refine KT.skip rfl rfl ?_
    refine KT.skip rfl rfl ?_
    refine KT.skip rfl rfl ?_
    refine KT.skip rfl rfl ?_
    refine KT.step rfl rfl (K.pick rfl (fun _ => rfl) (fun h => by cases h)) ?_
    refine KT.step rfl rfl (K.move rfl) ?_
    refine KT.skip rfl rfl ?_
    refine KT.skip rfl rfl ?_
    refine KT.step rfl rfl (K.pick rfl (fun _ => rfl) (fun h => by cases h)) ?_
    refine KT.step rfl rfl (K.move rfl) ?_
    refine KT.skip rfl rfl ?_
    refine KT.skip rfl rfl ?_
    refine KT.step rfl rfl (K.pick rfl (fun _ => rfl) (fun h => by cases h)) ?_
    refine KT.nil ?_
    refine thenK_n ?_
    refine KC.cond rfl (fun hc38 => ?_) (fun hc38 => ?_)
    · skip
      refine KC.seq ?_
      refine KC.region ?_
      refine KT.step rfl rfl (K.assign rfl) ?_
      refine KT.step rfl rfl (K.assign rfl) ?_
      refine KT.nil ?_
      refine thenK_n ?_
      refine KC.ret ?_
      refine thenK_r ?_
      have e1 : (stA n L tm pe).2 = 2 := stA_bad (by simpa using hb24)
      have e2 : stR n L tm pe = Dnil := stR_err (by rw [e1]; decide)
      rw [e1, e2]
      exact ⟨.inl rfl, _, rfl, rfl⟩
    · cases hc38
  · skip
    refine KT.step rfl rfl (K.move rfl) ?_
    refine KT.step rfl rfl (K.len rfl htd Try.underlying25) ?_
    refine KT.step rfl rfl (K.fieldAddrO rfl Try.fld24_0 Try.size3) ?_
    refine KT.step rfl rfl (K.loadO (y := .d (DI n)) rfl rfl (by simp) rfl Try.agg3) ?_
    refine KT.step rfl rfl (K.neq rfl rfl) ?_
    refine KT.step rfl rfl (K.pick rfl (fun h => by cases h) (fun _ => rfl)) ?_
    refine KT.step rfl rfl (K.move rfl) ?_
    refine KT.bcase (fun hb31 => ?_) (fun hb31 => ?_)
    · skip
      replace hb31 := of_decide_eq_true hb31
      refine KT.skip rfl rfl ?_
      refine KT.skip rfl rfl ?_
      refine KT.step rfl rfl (K.pick rfl (fun _ => rfl) (fun h => by cases h)) ?_
      refine KT.step rfl rfl (K.move rfl) ?_
      refine KT.skip rfl rfl ?_
      refine KT.skip rfl rfl ?_
      refine KT.step rfl rfl (K.pick rfl (fun _ => rfl) (fun h => by cases h)) ?_
      refine KT.nil ?_
      refine thenK_n ?_
      refine KC.cond rfl (fun hc38 => ?_) (fun hc38 => ?_)
      · skip
        refine KC.seq ?_
        refine KC.region ?_
        refine KT.step rfl rfl (K.assign rfl) ?_
        refine KT.step rfl rfl (K.assign rfl) ?_
        refine KT.nil ?_
        refine thenK_n ?_
        refine KC.ret ?_
        refine thenK_r ?_
        have e1 : (stA n L tm pe).2 = 2 := stA_tm (tmB_no fun z => by omega)
        have e2 : stR n L tm pe = Dnil := stR_err (by rw [e1]; decide)
        rw [e1, e2]
        exact ⟨.inl rfl, _, rfl, rfl⟩
      · cases hc38
    · skip
      replace hb31 := of_decide_eq_false hb31
      refine KT.step rfl rfl (K.move rfl) ?_
      refine KT.step rfl rfl (K.lss rfl rfl) ?_
      refine KT.step rfl rfl (K.pick rfl (fun h => by cases h) (fun _ => rfl)) ?_
      refine KT.step rfl rfl (K.move rfl) ?_
      refine KT.bcase (fun hb35 => ?_) (fun hb35 => ?_)
      · skip
        replace hb35 := of_decide_eq_true hb35
        refine KT.skip rfl rfl ?_
        refine KT.skip rfl rfl ?_
        refine KT.step rfl rfl (K.pick rfl (fun _ => rfl) (fun h => by cases h)) ?_
        refine KT.nil ?_
        refine thenK_n ?_
        refine KC.cond rfl (fun hc38 => ?_) (fun hc38 => ?_)
        · skip
          refine KC.seq ?_
          refine KC.region ?_
          refine KT.step rfl rfl (K.assign rfl) ?_
          refine KT.step rfl rfl (K.assign rfl) ?_
          refine KT.nil ?_
          refine thenK_n ?_
          refine KC.ret ?_
          refine thenK_r ?_
          have e1 : (stA n L tm pe).2 = 2 := stA_tm (tmB_no fun z => by omega)
          have e2 : stR n L tm pe = Dnil := stR_err (by rw [e1]; decide)
          rw [e1, e2]
          exact ⟨.inl rfl, _, rfl, rfl⟩
        · cases hc38
      · skip
        replace hb35 := of_decide_eq_false hb35
        refine KT.step rfl rfl (K.move rfl) ?_
        refine KT.step rfl rfl (K.gtr rfl rfl) ?_
        refine KT.step rfl rfl (K.pick rfl (fun h => by cases h) (fun _ => rfl)) ?_
        refine KT.nil ?_
        refine thenK_n ?_
        refine KC.cond rfl (fun hc38 => ?_) (fun hc38 => ?_)
        · skip
          replace hc38 := of_decide_eq_true hc38
          refine KC.seq ?_
          refine KC.region ?_
          refine KT.step rfl rfl (K.assign rfl) ?_
          refine KT.step rfl rfl (K.assign rfl) ?_
          refine KT.nil ?_
          refine thenK_n ?_
          refine KC.ret ?_
          refine thenK_r ?_
          have e1 : (stA n L tm pe).2 = 2 := stA_tm (tmB_no fun z => by omega)
          have e2 : stR n L tm pe = Dnil := stR_err (by rw [e1]; decide)
          rw [e1, e2]
          exact ⟨.inl rfl, _, rfl, rfl⟩
        · skip
          replace hc38 := of_decide_eq_false hc38
          refine KC.skip ?_
          refine thenK_n ?_
          refine KC.seq ?_
          refine KC.seq ?_
          refine KC.region ?_
          refine KT.step rfl rfl (K.move rfl) ?_
          refine KT.step rfl rfl (K.len rfl htd Try.underlying25) ?_
          refine KT.step rfl rfl (K.move rfl) ?_
          refine KT.nil ?_
          refine thenK_n ?_
          refine KC.block ?_
          refine KC.loop (fun _ : Nat => ([⟨[.d (DI n), .d d], 0⟩] : List VObj)) (fun i => [(1, .d td), (2, .d (DI pe)), (3, .optr 0 0), (39, .d td), (40, .d (DI (tm.length : Nat))), (41, .d (DI (i : Nat)))]) (fun i => i ≤ tm.length ∧ (tm.take i).all okTm = true) (fun i => tm.length - i) 0 ⟨Nat.zero_le _, by simp⟩ rfl (by simp [Go.Vm.look, extK, enterK]) ?_
          intro i hi
          obtain ⟨hi, hall⟩ := hi
          refine KC.seq ?_
          refine KC.region ?_
          refine KT.step rfl rfl (K.lss rfl rfl) ?_
          refine KT.nil ?_
          refine thenK_n ?_
          refine KC.seq ?_
          refine KC.cond rfl (fun hc42 => ?_) (fun hc42 => ?_)
          · skip
            replace hc42 := of_decide_eq_true hc42
            have hil : i < tm.length := by omega
            refine KC.skip ?_
            refine thenK_n ?_
            refine KC.seq ?_
            refine KC.block ?_
            refine KC.seq ?_
            refine KC.region ?_
            refine KT.idxI (m := i) rfl rfl rfl htd rfl hil Try.underlying25 Try.size3 fun cs43 => ?_
            refine KT.step rfl rfl (K.load rfl Try.agg3) ?_
            refine KT.step rfl rfl (K.assign rfl) ?_
            refine KT.nil ?_
            refine thenK_n ?_
            refine KC.seq ?_
            refine KC.region ?_
            refine KT.step rfl rfl (K.move rfl) ?_
            refine KT.step rfl rfl (K.lss rfl rfl) ?_
            refine KT.step rfl rfl (K.move rfl) ?_
            refine KT.bcase (fun hb47 => ?_) (fun hb47 => ?_)
            · skip
              replace hb47 := of_decide_eq_true hb47
              refine KT.skip rfl rfl ?_
              refine KT.skip rfl rfl ?_
              refine KT.step rfl rfl (K.pick rfl (fun _ => rfl) (fun h => by cases h)) ?_
              refine KT.nil ?_
              refine thenK_n ?_
              refine KC.cond rfl (fun hc50 => ?_) (fun hc50 => ?_)
              · skip
                refine KC.seq ?_
                refine KC.region ?_
                refine KT.step rfl rfl (K.assign rfl) ?_
                refine KT.step rfl rfl (K.assign rfl) ?_
                refine KT.nil ?_
                refine thenK_n ?_
                refine KC.ret ?_
                refine blockK_r ?_
                refine thenK_r ?_
                refine thenK_r ?_
                refine blockK_r ?_
                refine thenK_r ?_
                have e1 : (stA n L tm pe).2 = 2 := stA_tm (tmB_no fun z => by
                  have := all_false (p := okTm) hil (by unfold okTm; rw [decide_eq_false (by omega)]; rfl)
                  rw [z.2.1] at this; cases this)
                have e2 : stR n L tm pe = Dnil := stR_err (by rw [e1]; decide)
                rw [e1, e2]
                exact ⟨.inl rfl, _, rfl, rfl⟩
              · cases hc50
            · skip
              replace hb47 := of_decide_eq_false hb47
              refine KT.step rfl rfl (K.move rfl) ?_
              refine KT.step rfl rfl (K.gtr rfl rfl) ?_
              refine KT.step rfl rfl (K.pick rfl (fun h => by cases h) (fun _ => rfl)) ?_
              refine KT.nil ?_
              refine thenK_n ?_
              refine KC.cond rfl (fun hc50 => ?_) (fun hc50 => ?_)
              · skip
                replace hc50 := of_decide_eq_true hc50
                refine KC.seq ?_
                refine KC.region ?_
                refine KT.step rfl rfl (K.assign rfl) ?_
                refine KT.step rfl rfl (K.assign rfl) ?_
                refine KT.nil ?_
                refine thenK_n ?_
                refine KC.ret ?_
                refine blockK_r ?_
                refine thenK_r ?_
                refine thenK_r ?_
                refine blockK_r ?_
                refine thenK_r ?_
                have e1 : (stA n L tm pe).2 = 2 := stA_tm (tmB_no fun z => by
                  have := all_false (p := okTm) hil (by unfold okTm; rw [decide_eq_false (p := tm[i] ≤ 100) (by omega), Bool.and_false])
                  rw [z.2.1] at this; cases this)
                have e2 : stR n L tm pe = Dnil := stR_err (by rw [e1]; decide)
                rw [e1, e2]
                exact ⟨.inl rfl, _, rfl, rfl⟩
              · skip
                replace hc50 := of_decide_eq_false hc50
                refine KC.skip ?_
                refine blockK_n ?_
                refine thenK_n ?_
                refine KC.region ?_
                refine KT.step rfl rfl (K.add rfl rfl (wrap_id (by omega))) ?_
                refine KT.step rfl rfl (K.move rfl) ?_
                refine KT.nil ?_
                refine thenK_n ?_
                refine ⟨i + 1, ⟨by omega, ?_⟩, by omega, rfl, by simp [Go.Vm.look, extK]⟩
                rw [all_take _ hil, hall, Bool.true_and]
                unfold okTm; rw [decide_eq_true (by omega), decide_eq_true (by omega)]; rfl
          · skip
            replace hc42 := of_decide_eq_false hc42
            have hallT : tm.all okTm = true := all_end (by omega) hall
            have htB : tmB tm n pe = true := tmB_iff.2 ⟨by omega, hallT, by omega, by omega⟩
            have htm := okTm_all hallT
            refine KC.exit ?_
            refine thenK_x ?_
            refine thenK_x ?_
            refine blockK_e ?_
            refine thenK_n ?_
            refine KC.seq ?_
            refine KC.region ?_
            refine KT.step rfl rfl (K.loadOA ([DI n, d]) rfl rfl (by decide) Try.agg24 Try.size24 rfl) ?_
            refine KT.step rfl rfl (K.call1 rfl plainTry_24 (rschedule_any hd hl)) ?_
            refine KT.step rfl rfl (K.move rfl) ?_
            refine KT.step rfl rfl (K.extract rfl rfl) ?_
            refine KT.step rfl rfl (K.extract rfl rfl) ?_
            refine KT.step rfl rfl (K.assign rfl) ?_
            refine KT.step rfl rfl (K.assign rfl) ?_
            refine KT.nil ?_
            refine thenK_n ?_
            refine KC.seq ?_
            refine KC.seq ?_
            refine KC.region ?_
            refine KT.step rfl rfl (K.move rfl) ?_
            refine KT.step rfl rfl (K.neq rfl rfl) ?_
            refine KT.nil ?_
            refine thenK_n ?_
            refine KC.cond rfl (fun hc58 => ?_) (fun hc58 => ?_)
            · skip
              replace hc58 := of_decide_eq_true hc58
              refine KC.seq ?_
              refine KC.region ?_
              refine KT.step rfl rfl (K.move rfl) ?_
              refine KT.step rfl rfl (K.assign rfl) ?_
              refine KT.step rfl rfl (K.assign rfl) ?_
              refine KT.nil ?_
              refine thenK_n ?_
              refine KC.ret ?_
              refine thenK_r ?_
              have e1 : (stA n L tm pe).2 = (scA n L).2 := stA_sc htB hc58
              have e2 : stR n L tm pe = Dnil := stR_err (by rw [e1]; exact hc58)
              rw [e1, e2]
              exact ⟨.inl rfl, _, rfl, rfl⟩
            · skip
              replace hc58 := of_decide_eq_false hc58
              have hsc0 : (scA n L).2 = 0 := Classical.not_not.1 hc58
              obtain ⟨N, Ln, q, s, rfl, rfl, hr, hf, hsc⟩ := sc_of hsc0
              have hs1 : (scA (N : Int) (Ln.map LN.z)).1 = zs s := by rw [hsc]
              have hs2 : (scA (N : Int) (Ln.map LN.z)).2 = 0 := by rw [hsc]
              rw [hs1]
              have h1 := hr.n1
              have h6 := hr.n6
              have hlen := hr.len
              have htl : tm.length = N := by have := (tmB_iff.1 htB).1; omega
              have hzl : (zs s).length = s.length := List.length_map ..
              have hslen : s.length = tot q := greedy_len h6 hf
              have hsum := hr.sum
              obtain ⟨Y, hrun, hYq⟩ := greedy_sound _ _ _ hf
              have hpe : ((pe.toNat : Nat) : Int) = pe := by omega
              have hmulN : s.length * pe.toNat ≤ 60 * 20 := Nat.mul_le_mul (by omega) (by omega)
              have hmulE : (s.length : Int) * pe = ((s.length * pe.toNat : Nat) : Int) := by rw [Int.natCast_mul, hpe]
              refine KC.skip ?_
              refine thenK_n ?_
              refine KC.seq ?_
              refine KC.seq ?_
              refine KC.region ?_
              refine KT.step rfl rfl (K.move rfl) ?_
              refine KT.step rfl rfl (K.len rfl (lsD_ints (zs s)) Try.underlying25) ?_
              rw [hzl]
              refine KT.step rfl rfl (K.move rfl) ?_
              refine KT.step rfl rfl (K.mul rfl rfl (show IntKind.i64.wrap ((s.length : Int) * pe) = ((s.length * pe.toNat : Nat) : Int) from by rw [← hmulE, wrap_id (by omega)])) ?_
              refine KT.step rfl rfl (K.gtr rfl rfl) ?_
              refine KT.nil ?_
              refine thenK_n ?_
              refine KC.cond rfl (fun hc64 => ?_) (fun hc64 => ?_)
              · skip
                replace hc64 := of_decide_eq_true hc64
                have hp3 : 400 < tot q * pe.toNat := by rw [← hslen]; omega
                refine KC.seq ?_
                refine KC.region ?_
                refine KT.step rfl rfl (K.assign rfl) ?_
                refine KT.step rfl rfl (K.assign rfl) ?_
                refine KT.nil ?_
                refine thenK_n ?_
                refine KC.ret ?_
                refine thenK_r ?_
                have e1 : (stA (N : Int) (Ln.map LN.z) tm pe).2 = 3 := by
                  unfold stA; rw [if_pos htB, if_pos hs2, if_pos (by rw [hr.r]; simp only; omega)]
                have e2 : stR (N : Int) (Ln.map LN.z) tm pe = Dnil := stR_err (by rw [e1]; decide)
                rw [e1, e2]
                exact ⟨.inl rfl, _, rfl, rfl⟩
              · skip
                replace hc64 := of_decide_eq_false hc64
                have hp2 : tot q * pe.toNat ≤ 400 := by rw [← hslen]; omega
                refine KC.skip ?_
                refine thenK_n ?_
                refine KC.seq ?_
                refine KC.region ?_
                refine KT.step rfl rfl (K.fieldAddrO rfl Try.fld24_0 Try.size3) ?_
                refine KT.step rfl rfl (K.loadO (y := .d (DI (N : Nat))) rfl rfl (by simp) rfl Try.agg3) ?_
                refine KT.step rfl rfl (K.make rfl rfl (Nat.le_refl _) (by omega) Try.underlying50 Try.one25) ?_
                refine KT.step rfl rfl (K.assign rfl) ?_
                refine KT.nil ?_
                refine thenK_n ?_
                refine KC.seq ?_
                refine KC.seq ?_
                refine KC.region ?_
                refine KT.step rfl rfl (K.move rfl) ?_
                refine KT.step rfl rfl (K.move rfl) ?_
                refine KT.nil ?_
                refine thenK_n ?_
                refine KC.block ?_
                refine KC.loop (fun p : List VObj × (Nat → XV) × Nat => p.1) (fun p => [(1, .d td), (2, .d (DI pe)), (3, .optr 0 0), (10, .d (lsD (zs s))), (12, .osl 1 0 N 1 N true), (68, .d (DI pe)), (69, .d (DI (p.2.2 : Nat)))]) (fun p : List VObj × (Nat → XV) × Nat => p.2.2 ≤ pe.toNat ∧ p.1[0]? = some ⟨[.d (DI (N : Nat)), .d d], 0⟩ ∧ StI p.1 1 N p.2.1 (runS Ln tm (seqP p.2.2 s))) (fun p => pe.toNat - p.2.2) (_, (fun _ => .d Dnil), 0) ⟨Nat.zero_le _, rfl, st0 N⟩ rfl (by simp [Go.Vm.look, extK]) ?_
                intro p hp
                obtain ⟨σ0, xs, pp⟩ := p
                obtain ⟨hpp0, y0, hS⟩ := hp
                simp only at hpp0 y0 hS ⊢
                refine KC.seq ?_
                refine KC.region ?_
                refine KT.step rfl rfl (K.lss rfl rfl) ?_
                refine KT.nil ?_
                refine thenK_n ?_
                refine KC.seq ?_
                refine KC.cond rfl (fun hc70 => ?_) (fun hc70 => ?_)
                · skip
                  replace hc70 := of_decide_eq_true hc70
                  have hpp : pp < pe.toNat := by omega
                  refine KC.skip ?_
                  refine thenK_n ?_
                  refine KC.seq ?_
                  refine KC.block ?_
                  refine KC.seq ?_
                  refine KC.region ?_
                  refine KT.step rfl rfl (K.move rfl) ?_
                  refine KT.step rfl rfl (K.len rfl (lsD_ints (zs s)) Try.underlying25) ?_
                  rw [hzl]
                  refine KT.step rfl rfl (K.move rfl) ?_
                  refine KT.nil ?_
                  refine thenK_n ?_
                  refine KC.block ?_
                  refine KC.loop (fun p : List VObj × (Nat → XV) × (Nat → Nat) × Nat => p.1) (fun p => [(1, .d td), (2, .d (DI pe)), (3, .optr 0 0), (10, .d (lsD (zs s))), (12, .osl 1 0 N 1 N true), (68, .d (DI pe)), (69, .d (DI (pp : Nat))), (71, .d (lsD (zs s))), (72, .d (DI (s.length : Nat))), (73, .d (DI (p.2.2.2 : Nat)))]) (fun p : List VObj × (Nat → XV) × (Nat → Nat) × Nat => p.2.2.2 ≤ s.length ∧ p.1[0]? = some ⟨[.d (DI (N : Nat)), .d d], 0⟩ ∧ StI p.1 1 N p.2.1 (runS Ln tm (seqP pp s ++ s.take p.2.2.2)) ∧ runL Ln N q (zs (s.take p.2.2.2)) (fun _ => 0) = some p.2.2.1 ∧ runL Ln N q (zs (s.drop p.2.2.2)) p.2.2.1 = some Y) (fun p => s.length - p.2.2.2) (σ0, xs, (fun _ => 0), 0) ⟨Nat.zero_le _, y0, by simpa using hS, rfl, hrun⟩ rfl (by simp [Go.Vm.look, extK]) ?_
                  clear y0 hS
                  intro p hp
                  obtain ⟨σ0, xs, X, i⟩ := p
                  obtain ⟨hi, y0, hS, hrun1, hrun2⟩ := hp
                  simp only at hi y0 hS hrun1 hrun2 ⊢
                  refine KC.seq ?_
                  refine KC.region ?_
                  refine KT.step rfl rfl (K.lss rfl rfl) ?_
                  refine KT.nil ?_
                  refine thenK_n ?_
                  refine KC.seq ?_
                  refine KC.cond rfl (fun hc74 => ?_) (fun hc74 => ?_)
                  · skip
                    replace hc74 := of_decide_eq_true hc74
                    have hil : i < s.length := by omega
                    have hil2 : i < (zs s).length := by omega
                    have hdz : (zs s).drop i = zs (s.drop i) := by simp [zs]
                    rw [← hdz] at hrun2
                    obtain ⟨a, ha, haN, hfire, hnext⟩ := runL_next hil2 hrun2
                    have hsi : s[i] = a := by
                      have : ((s[i] : Nat) : Int) = (a : Int) := by rw [← ha]; simp [zs]
                      omega
                    have hXc : ∀ j, X j = (s.take i).count j := fun j => by rw [runL_count hrun1 j, Nat.zero_add]
                    have hqc : ∀ j, j < N → q j = s.count j := fun j hj => by
                      rw [← eqB_iff.1 hYq j (by omega), runL_count hrun j, Nat.zero_add]
                    have hcnt : ∀ j, j < N → (runS Ln tm (seqP pp s ++ s.take i) j).length = pp * q j + X j := fun j hj => by
                      rw [runS_len, List.count_append, count_seqP, hqc j hj, hXc j]
                    have hsl : (seqP pp s ++ s.take i).length ≤ 400 := by
                      rw [List.length_append, seqP_len, List.length_take, hslen, Nat.min_eq_left (by omega)]
                      have h3 : (pp + 1) * tot q ≤ pe.toNat * tot q := Nat.mul_le_mul_right _ (by omega)
                      rw [Nat.mul_comm pe.toNat] at h3
                      rw [Nat.add_mul, Nat.one_mul] at h3
                      omega
                    have hbd := runS_bd (L := Ln) htm (seqP pp s ++ s.take i)
                    have hl4 : (runS Ln tm (seqP pp s ++ s.take i) a).length ≤ 400 := by
                      rw [runS_len]; exact Nat.le_trans List.count_le_length hsl
                    have hB0 : 0 ≤ 100 * ((seqP pp s ++ s.take i).length : Int) ∧ 100 * ((seqP pp s ++ s.take i).length : Int) ≤ 40000 := by omega
                    generalize hB : 100 * ((seqP pp s ++ s.take i).length : Int) = B at hbd hB0
                    have hput : ∀ l ∈ Ln, l.t = a → 0 ≤ putZ l ((((runS Ln tm (seqP pp s ++ s.take i) a).length + 1) * l.k : Nat) - 1) → (putZ l ((((runS Ln tm (seqP pp s ++ s.take i) a).length + 1) * l.k : Nat) - 1)).toNat < (runS Ln tm (seqP pp s ++ s.take i) l.f).length := fun l hl ht hp => by
                      rw [hcnt a haN] at hp ⊢
                      rw [hcnt l.f (hr.ok l hl).f]
                      exact put_there (hr.ok l hl) (put_ready hr hfire hl ht) hp
                    have hlb := last_bd hB0.1 (hbd a)
                    have hSd := runS_sd Ln tm (seqP pp s ++ s.take i)
                    refine KC.skip ?_
                    refine thenK_n ?_
                    refine KC.seq ?_
                    refine KC.block ?_
                    refine KC.seq ?_
                    refine KC.region ?_
                    refine KT.idxI (m := i) rfl rfl rfl (lsD_ints (zs s)) rfl hil2 Try.underlying25 Try.size3 fun cs75 => ?_
                    refine KT.step rfl rfl (K.load rfl Try.agg3) ?_
                    rw [ha]
                    refine KT.step rfl rfl (K.assign rfl) ?_
                    refine KT.nil ?_
                    refine thenK_n ?_
                    refine KC.seq ?_
                    refine KC.region ?_
                    refine KT.step rfl rfl (K.move rfl) ?_
                    refine KT.step rfl rfl (K.move rfl) ?_
                    refine KT.step rfl rfl (K.idxO (m := a) rfl rfl haN Try.underlying50 Try.size25) ?_
                    refine KT.step rfl rfl (K.loadO rfl hS.arr (by simp) (hS.get haN) Try.agg25) ?_
                    refine KT.step rfl rfl (K.lenOwn rfl (hS.own a haN) Try.underlying25) ?_
                    rw [intX_len]
                    refine KT.step rfl rfl (K.assign rfl) ?_
                    refine KT.nil ?_
                    refine thenK_n ?_
                    refine KC.seq ?_
                    refine KC.region ?_
                    refine KT.step rfl rfl (K.assign rfl) ?_
                    refine KT.nil ?_
                    refine thenK_n ?_
                    refine KC.seq ?_
                    refine KC.seq ?_
                    refine KC.region ?_
                    refine KT.step rfl rfl (K.move rfl) ?_
                    refine KT.step rfl rfl (K.gtr rfl rfl) ?_
                    refine KT.nil ?_
                    refine thenK_n ?_
                    refine KC.cond rfl (fun hc83 => ?_) (fun hc83 => ?_)
                    · skip
                      replace hc83 := of_decide_eq_true hc83
                      have hk0 : 0 < ((runS Ln tm (seqP pp s ++ s.take i)) a).length := by omega
                      have hlast : ((runS Ln tm (seqP pp s ++ s.take i)) a).getD (((runS Ln tm (seqP pp s ++ s.take i)) a).length - 1) 0 = lastZ ((runS Ln tm (seqP pp s ++ s.take i)) a) := by unfold lastZ; rw [if_neg (by omega)]
                      refine KC.region ?_
                      refine KT.step rfl rfl (K.move rfl) ?_
                      refine KT.step rfl rfl (K.move rfl) ?_
                      refine KT.step rfl rfl (K.idxO (m := a) rfl rfl haN Try.underlying50 Try.size25) ?_
                      refine KT.step rfl rfl (K.loadO rfl hS.arr (by simp) (hS.get haN) Try.agg25) ?_
                      refine KT.step rfl rfl (K.move rfl) ?_
                      refine KT.step rfl rfl (K.sub rfl rfl (show IntKind.i64.wrap ((((runS Ln tm (seqP pp s ++ s.take i)) a).length : Int) - 1) = ((((runS Ln tm (seqP pp s ++ s.take i)) a).length - 1 : Nat) : Int) from by rw [wrap_id (by omega)]; omega)) ?_
                      refine KT.idxOwn rfl rfl rfl (hS.own a haN) rfl (by rw [intX_len]; omega) Try.underlying25 Try.size3 fun id1 hid1 => ?_
                      refine KT.step rfl rfl (K.loadO rfl hid1 (by simp) (intX_get (by omega)) Try.agg3) ?_
                      refine KT.step rfl rfl (K.assign rfl) ?_
                      refine KT.nil ?_
                      refine thenK_n ?_
                      refine KC.seq ?_
                      refine KC.seq ?_
                      refine KC.region ?_
                      refine KT.step rfl rfl (K.fieldAddrO rfl Try.fld24_1 Try.size22) ?_
                      refine KT.step rfl rfl (K.loadO (y := .d d) rfl y0 (by simp) rfl Try.agg22) ?_
                      refine KT.step rfl rfl (K.lenN rfl hd Try.underlying22) ?_
                      refine KT.step rfl rfl (K.move rfl) ?_
                      refine KT.nil ?_
                      refine thenK_n ?_
                      refine KC.block ?_
                      try rw [hlast]
                      refine KC.loop (fun p : List VObj × Nat => p.1) (fun p => [(1, .d td), (2, .d (DI pe)), (3, .optr 0 0), (10, .d (lsD (zs s))), (12, .osl 1 0 N 1 N true), (68, .d (DI pe)), (69, .d (DI (pp : Nat))), (71, .d (lsD (zs s))), (72, .d (DI (s.length : Nat))), (73, .d (DI (i : Nat))), (14, .d (DI (a : Nat))), (15, .d (DI (((runS Ln tm (seqP pp s ++ s.take i)) a).length : Nat))), (93, .d d), (94, .d (DI (Ln.length : Nat))), (16, .d (DI ((Ln.take p.2).foldl (needF tm (runS Ln tm (seqP pp s ++ s.take i)) a) (lastZ ((runS Ln tm (seqP pp s ++ s.take i)) a))))), (95, .d (DI (p.2 : Nat)))]) (fun p => p.2 ≤ Ln.length ∧ p.1[0]? = some ⟨[.d (DI (N : Nat)), .d d], 0⟩ ∧ StI p.1 1 N xs (runS Ln tm (seqP pp s ++ s.take i))) (fun p => Ln.length - p.2) (_, 0) ⟨Nat.zero_le _, y0, hS⟩ rfl (by first | (simp [Go.Vm.look, extK]; done) | (simp [Go.Vm.look, extK, enterK, hlast0]; done)) ?_
                      clear y0 hS
                      intro p hp
                      obtain ⟨σ4, j⟩ := p
                      obtain ⟨hj, y0, hS1⟩ := hp
                      simp only at hj y0 hS1 ⊢
                      refine KC.seq ?_
                      refine KC.region ?_
                      refine KT.step rfl rfl (K.lss rfl rfl) ?_
                      refine KT.nil ?_
                      refine thenK_n ?_
                      refine KC.seq ?_
                      refine KC.cond rfl (fun hc96 => ?_) (fun hc96 => ?_)
                      · skip
                        replace hc96 := of_decide_eq_true hc96
                        have hjl : j < Ln.length := by omega
                        have ok := hr.ok _ (List.getElem_mem hjl)
                        have mb : ((runS Ln tm (seqP pp s ++ s.take i)) a).length * Ln[j].k ≤ 400 * 6 := Nat.mul_le_mul (by omega) ok.k6
                        have ab := fold_bd hB0.1 hbd htm (a := a) (Ln.take j) hlb
                        refine KC.skip ?_
                        refine thenK_n ?_
                        refine KC.seq ?_
                        refine KC.block ?_
                        refine KC.seq ?_
                        refine KC.region ?_
                        refine KT.step rfl rfl (K.idxN rfl hd rfl hjl Try.underlying22 Try.size57) ?_
                        refine KT.step rfl rfl (K.loadN hjl rfl Try.agg57 Try.size57) ?_
                        refine KT.step rfl rfl (K.alloc Try.zero57) ?_
                        refine KT.storeL (cs := (lk5 Ln[j].z).map .d) rfl rfl rfl rfl rfl rfl rfl Try.size57 ?_
                        have yK : (σ4 ++ [(⟨(lk5 Ln[j].z).map .d, 0⟩ : VObj)])[σ4.length]? = some ⟨(lk5 Ln[j].z).map .d, 0⟩ := List.getElem?_concat_length ..
                        have y05 := get_left (B := [(⟨(lk5 Ln[j].z).map .d, 0⟩ : VObj)]) y0
                        have hS5 := hS1.more [(⟨(lk5 Ln[j].z).map .d, 0⟩ : VObj)]
                        refine KT.nil ?_
                        refine thenK_n ?_
                        refine KC.seq ?_
                        refine KC.region ?_
                        refine KT.step rfl rfl (K.fieldAddrO rfl Try.fld57_3 Try.size3) ?_
                        refine KT.step rfl rfl (K.loadO (y := .d (DI (Ln[j].k : Nat))) rfl yK (by simp) rfl Try.agg3) ?_
                        refine KT.step rfl rfl (K.move rfl) ?_
                        refine KT.nil ?_
                        refine thenK_n ?_
                        refine KC.block ?_
                        refine KC.loop (fun _ : Nat => σ4 ++ [(⟨(lk5 Ln[j].z).map .d, 0⟩ : VObj)]) (fun m => [(1, .d td), (2, .d (DI pe)), (3, .optr 0 0), (10, .d (lsD (zs s))), (12, .osl 1 0 N 1 N true), (68, .d (DI pe)), (69, .d (DI (pp : Nat))), (71, .d (lsD (zs s))), (72, .d (DI (s.length : Nat))), (73, .d (DI (i : Nat))), (14, .d (DI (a : Nat))), (15, .d (DI (((runS Ln tm (seqP pp s ++ s.take i)) a).length : Nat))), (93, .d d), (94, .d (DI (Ln.length : Nat))), (95, .d (DI (j : Nat))), (18, .optr σ4.length 0), (100, .d (DI (Ln[j].k : Nat))), (16, .d (DI (innF Ln[j] tm (runS Ln tm (seqP pp s ++ s.take i)) a ((runS Ln tm (seqP pp s ++ s.take i)) a).length ((Ln.take j).foldl (needF tm (runS Ln tm (seqP pp s ++ s.take i)) a) (lastZ ((runS Ln tm (seqP pp s ++ s.take i)) a))) m))), (101, .d (DI (m : Nat)))]) (fun m => m ≤ Ln[j].k) (fun m => Ln[j].k - m) 0 (Nat.zero_le _) rfl (by simp [Go.Vm.look, extK, innF]) ?_
                        intro m hm
                        refine KC.seq ?_
                        refine KC.region ?_
                        refine KT.step rfl rfl (K.lss rfl rfl) ?_
                        refine KT.nil ?_
                        refine thenK_n ?_
                        refine KC.seq ?_
                        refine KC.cond rfl (fun hc102 => ?_) (fun hc102 => ?_)
                        · skip
                          replace hc102 := of_decide_eq_true hc102
                          have hmk : m < Ln[j].k := by omega
                          have k6 := ok.k6
                          have ib := inn_bd (l := Ln[j]) (a := a) (k := ((runS Ln tm (seqP pp s ++ s.take i)) a).length) hB0.1 hbd htm ab m
                          refine KC.skip ?_
                          refine thenK_n ?_
                          refine KC.seq ?_
                          refine KC.block ?_
                          refine KC.seq ?_
                          refine KC.region ?_
                          refine KT.step rfl rfl (K.move rfl) ?_
                          refine KT.step rfl rfl (K.assign rfl) ?_
                          refine KT.nil ?_
                          refine thenK_n ?_
                          refine KC.seq ?_
                          refine KC.region ?_
                          refine KT.step rfl rfl (K.move rfl) ?_
                          refine KT.step rfl rfl (K.fieldAddrO rfl Try.fld57_3 Try.size3) ?_
                          refine KT.step rfl rfl (K.loadO (y := .d (DI (Ln[j].k : Nat))) rfl yK (by simp) rfl Try.agg3) ?_
                          refine KT.step rfl rfl (K.mul rfl rfl (mulN (by omega))) ?_
                          refine KT.step rfl rfl (K.move rfl) ?_
                          refine KT.step rfl rfl (K.add rfl rfl (addN (by omega))) ?_
                          refine KT.step rfl rfl (K.fieldAddrO rfl Try.fld57_4 Try.size3) ?_
                          refine KT.step rfl rfl (K.loadO (y := .d (DI (Ln[j].s : Nat))) rfl yK (by simp) rfl Try.agg3) ?_
                          refine KT.step rfl rfl (K.sub rfl rfl (wrap_id (by have := ok.s; omega))) ?_
                          refine KT.step rfl rfl (K.fieldAddrO rfl Try.fld57_2 Try.size3) ?_
                          refine KT.step rfl rfl (K.loadO (y := .d (DI (Ln[j].g : Nat))) rfl yK (by simp) rfl Try.agg3) ?_
                          refine KT.step rfl rfl (K.call2 rfl rfl plainTry_56 ((show DeepCall _ _ [DI ((((runS Ln tm (seqP pp s ++ s.take i)) a).length * Ln[j].k + m : Nat) - (Ln[j].s : Nat) : Int), DI (Ln[j].g : Nat)] (DI (putZ Ln[j] ((((runS Ln tm (seqP pp s ++ s.take i)) a).length * Ln[j].k + m : Nat) : Int))) from floor56 ok.g1 ok.g6 (by have := ok.s; omega)))) ?_
                          refine KT.step rfl rfl (K.assign rfl) ?_
                          refine KT.nil ?_
                          refine thenK_n ?_
                          refine KC.seq ?_
                          refine KC.region ?_
                          refine KT.step rfl rfl (K.fieldAddrO rfl Try.fld57_1 Try.size3) ?_
                          refine KT.step rfl rfl (K.loadO (y := .d (DI (Ln[j].t : Nat))) rfl yK (by simp) rfl Try.agg3) ?_
                          refine KT.step rfl rfl (K.move rfl) ?_
                          refine KT.step rfl rfl (K.eql rfl rfl) ?_
                          refine KT.step rfl rfl (K.move rfl) ?_
                          refine KT.bcase (fun hb120 => ?_) (fun hb120 => ?_)
                          · skip
                            replace hb120 := of_decide_eq_true hb120
                            have hta : Ln[j].t = a := by omega
                            refine KT.step rfl rfl (K.move rfl) ?_
                            refine KT.step rfl rfl (K.geq rfl rfl) ?_
                            refine KT.step rfl rfl (K.pick rfl (fun _ => rfl) (fun h => by cases h)) ?_
                            refine KT.nil ?_
                            refine thenK_n ?_
                            refine KC.cond rfl (fun hc123 => ?_) (fun hc123 => ?_)
                            · skip
                              replace hc123 := of_decide_eq_true hc123
                              replace hc123 : 0 ≤ putZ Ln[j] ((((runS Ln tm (seqP pp s ++ s.take i)) a).length * Ln[j].k + m : Nat) : Int) := hc123
                              have hmono := putZ_mono (l := Ln[j]) ok.g1 (show ((((runS Ln tm (seqP pp s ++ s.take i)) a).length * Ln[j].k + m : Nat) : Int) ≤ (((((runS Ln tm (seqP pp s ++ s.take i)) a).length + 1) * Ln[j].k : Nat) - 1 : Int) by rw [Nat.add_mul, Nat.one_mul]; omega)
                              have hpl0 := hput _ (List.getElem_mem hjl) hta (by omega)
                              obtain ⟨p, hp⟩ := Int.eq_ofNat_of_zero_le hc123
                              have hpl : p < ((runS Ln tm (seqP pp s ++ s.take i)) Ln[j].f).length := by omega
                              rw [hp]
                              have hft : Ln[j].f < tm.length := by rw [htl]; exact ok.f
                              have tb := htm _ (List.getElem_mem hft)
                              have sb : 0 ≤ ((runS Ln tm (seqP pp s ++ s.take i)) Ln[j].f).getD p 0 ∧ ((runS Ln tm (seqP pp s ++ s.take i)) Ln[j].f).getD p 0 ≤ B := by
                                have := hbd _ _ (List.getElem_mem hpl)
                                simpa [hpl] using this
                              refine KC.draw Try.mixed ?_
                              refine KT.step rfl rfl (K.move rfl) ?_
                              refine KT.step rfl rfl (K.move rfl) ?_
                              refine KT.step rfl rfl (K.fieldAddrO rfl Try.fld57_0 Try.size3) ?_
                              refine KT.step rfl rfl (K.loadO (y := .d (DI (Ln[j].f : Nat))) rfl yK (by simp) rfl Try.agg3) ?_
                              refine KT.step rfl rfl (K.idxO (m := Ln[j].f) rfl rfl ok.f Try.underlying50 Try.size25) ?_
                              refine KT.step rfl rfl (K.loadO rfl hS5.arr (by simp) (hS5.get ok.f) Try.agg25) ?_
                              refine KT.step rfl rfl (K.move rfl) ?_
                              refine KT.idxOwn rfl rfl rfl (hS5.own _ ok.f) rfl (by rw [intX_len]; exact hpl) Try.underlying25 Try.size3 fun id2 hid2 => ?_
                              refine KT.step rfl rfl (K.loadO rfl hid2 (by simp) (intX_get hpl) Try.agg3) ?_
                              refine KT.step rfl rfl (K.move rfl) ?_
                              refine KT.step rfl rfl (K.fieldAddrO rfl Try.fld57_0 Try.size3) ?_
                              refine KT.step rfl rfl (K.loadO (y := .d (DI (Ln[j].f : Nat))) rfl yK (by simp) rfl Try.agg3) ?_
                              refine KT.idxI (m := Ln[j].f) rfl rfl rfl htd rfl hft Try.underlying25 Try.size3 fun cs136 => ?_
                              refine KT.step rfl rfl (K.load rfl Try.agg3) ?_
                              refine KT.step rfl rfl (K.add rfl rfl (wrap_id (by omega))) ?_
                              refine KT.step rfl rfl (K.max2 rfl rfl) ?_
                              refine KT.step rfl rfl (K.assign rfl) ?_
                              refine KT.nil ?_
                              refine ⟨by kernel_rfl, ?_⟩
                              refine blockK_n ?_
                              refine thenK_n ?_
                              refine KC.region ?_
                              refine KT.step rfl rfl (K.add rfl rfl (wrap_id (by omega))) ?_
                              refine KT.step rfl rfl (K.move rfl) ?_
                              refine KT.nil ?_
                              refine thenK_n ?_
                              have e : (innF Ln[j] tm (runS Ln tm (seqP pp s ++ s.take i)) a ((runS Ln tm (seqP pp s ++ s.take i)) a).length ((Ln.take j).foldl (needF tm (runS Ln tm (seqP pp s ++ s.take i)) a) (lastZ ((runS Ln tm (seqP pp s ++ s.take i)) a))) (m + 1)) = max (innF Ln[j] tm (runS Ln tm (seqP pp s ++ s.take i)) a ((runS Ln tm (seqP pp s ++ s.take i)) a).length ((Ln.take j).foldl (needF tm (runS Ln tm (seqP pp s ++ s.take i)) a) (lastZ ((runS Ln tm (seqP pp s ++ s.take i)) a))) m) (((runS Ln tm (seqP pp s ++ s.take i)) Ln[j].f).getD p 0 + tm[Ln[j].f]) := by
                                rw [innF, if_pos ⟨hta, by omega⟩, hp, Int.toNat_natCast]; simp [tmAt, hft]
                              refine ⟨m + 1, by omega, by omega, rfl, ?_⟩
                              simp [Go.Vm.look, extK, e]
                            · skip
                              replace hc123 := of_decide_eq_false hc123
                              refine KC.skip ?_
                              refine blockK_n ?_
                              refine thenK_n ?_
                              refine KC.region ?_
                              refine KT.step rfl rfl (K.add rfl rfl (wrap_id (by omega))) ?_
                              refine KT.step rfl rfl (K.move rfl) ?_
                              refine KT.nil ?_
                              refine thenK_n ?_
                              have e : (innF Ln[j] tm (runS Ln tm (seqP pp s ++ s.take i)) a ((runS Ln tm (seqP pp s ++ s.take i)) a).length ((Ln.take j).foldl (needF tm (runS Ln tm (seqP pp s ++ s.take i)) a) (lastZ ((runS Ln tm (seqP pp s ++ s.take i)) a))) (m + 1)) = (innF Ln[j] tm (runS Ln tm (seqP pp s ++ s.take i)) a ((runS Ln tm (seqP pp s ++ s.take i)) a).length ((Ln.take j).foldl (needF tm (runS Ln tm (seqP pp s ++ s.take i)) a) (lastZ ((runS Ln tm (seqP pp s ++ s.take i)) a))) m) := by
                                rw [innF, if_neg (fun z => hc123 z.2)]
                              refine ⟨m + 1, by omega, by omega, rfl, ?_⟩
                              simp [Go.Vm.look, extK, e]
                          · skip
                            replace hb120 := of_decide_eq_false hb120
                            have hta : ¬ Ln[j].t = a := by omega
                            refine KT.skip rfl rfl ?_
                            refine KT.skip rfl rfl ?_
                            refine KT.step rfl rfl (K.pick rfl (fun h => by cases h) (fun _ => rfl)) ?_
                            refine KT.nil ?_
                            refine thenK_n ?_
                            refine KC.cond rfl (fun hc123 => ?_) (fun hc123 => ?_)
                            · cases hc123
                            · skip
                              refine KC.skip ?_
                              refine blockK_n ?_
                              refine thenK_n ?_
                              refine KC.region ?_
                              refine KT.step rfl rfl (K.add rfl rfl (wrap_id (by omega))) ?_
                              refine KT.step rfl rfl (K.move rfl) ?_
                              refine KT.nil ?_
                              refine thenK_n ?_
                              have e : (innF Ln[j] tm (runS Ln tm (seqP pp s ++ s.take i)) a ((runS Ln tm (seqP pp s ++ s.take i)) a).length ((Ln.take j).foldl (needF tm (runS Ln tm (seqP pp s ++ s.take i)) a) (lastZ ((runS Ln tm (seqP pp s ++ s.take i)) a))) (m + 1)) = (innF Ln[j] tm (runS Ln tm (seqP pp s ++ s.take i)) a ((runS Ln tm (seqP pp s ++ s.take i)) a).length ((Ln.take j).foldl (needF tm (runS Ln tm (seqP pp s ++ s.take i)) a) (lastZ ((runS Ln tm (seqP pp s ++ s.take i)) a))) m) := by
                                rw [innF, if_neg (fun z => hta z.1)]
                              refine ⟨m + 1, by omega, by omega, rfl, ?_⟩
                              simp [Go.Vm.look, extK, e]
                        · skip
                          replace hc102 := of_decide_eq_false hc102
                          obtain rfl : m = Ln[j].k := by omega
                          refine KC.exit ?_
                          refine thenK_x ?_
                          refine thenK_x ?_
                          refine blockK_e ?_
                          refine blockK_n ?_
                          refine thenK_n ?_
                          refine KC.region ?_
                          refine KT.step rfl rfl (K.add rfl rfl (wrap_id (by omega))) ?_
                          refine KT.step rfl rfl (K.move rfl) ?_
                          refine KT.nil ?_
                          refine thenK_n ?_
                          refine ⟨(_, j + 1), ⟨by simp only; omega, y05, hS5⟩, by simp only; omega, rfl, ?_⟩
                          have e := inn_full (tm := tm) (a := a) (x := ((Ln.take j).foldl (needF tm (runS Ln tm (seqP pp s ++ s.take i)) a) (lastZ ((runS Ln tm (seqP pp s ++ s.take i)) a)))) ok.g1 ok.k1 (hSd Ln[j].f) (hput _ (List.getElem_mem hjl))
                          have ef := fold_take (needF tm (runS Ln tm (seqP pp s ++ s.take i)) a) hjl (lastZ ((runS Ln tm (seqP pp s ++ s.take i)) a))
                          rw [← e] at ef
                          simp [Go.Vm.look, extK, ef]
                      · skip
                        replace hc96 := of_decide_eq_false hc96
                        obtain rfl : j = Ln.length := by omega
                        refine KC.exit ?_
                        refine thenK_x ?_
                        refine thenK_x ?_
                        refine blockK_e ?_
                        refine thenK_n ?_
                        rw [List.take_length]
                        refine KC.region ?_
                        refine KT.step rfl rfl (K.move rfl) ?_
                        refine KT.step rfl rfl (K.move rfl) ?_
                        refine KT.step rfl rfl (K.move rfl) ?_
                        refine KT.step rfl rfl (K.move rfl) ?_
                        refine KT.step rfl rfl (K.idxO (m := a) rfl rfl haN Try.underlying50 Try.size25) ?_
                        refine KT.step rfl rfl (K.loadO rfl hS1.arr (by simp) (hS1.get haN) Try.agg25) ?_
                        refine KT.step rfl rfl (K.move rfl) ?_
                        refine KT.step rfl rfl (K.build1' (v := .d (DI (earlF Ln tm (runS Ln tm (seqP pp s ++ s.take i)) a))) rfl rfl Try.underlying25 Try.one3) ?_
                        refine KT.appK (k := 1) rfl rfl rfl rfl ((hS1.own a haN).pushed _) (List.getElem?_concat_length ..) rfl rfl (by rw [intX_len]; omega) Try.underlying25 Try.size3 (of_decide_eq_true (by kernel_rfl)) (by kernel_rfl) (by omega) fun σ2 x2 ho2 k2 w2 => ?_
                        have g1 := lt_of_some hS1.arr
                        have z0 := (k2 0 (fun h => by have := hS1.low a haN 0 h; omega) (by simp only [List.length_append, List.length_cons, List.length_nil]; omega)).trans ((List.getElem?_append_left (by omega)).trans y0)
                        have za := (k2 1 (hS1.ne a haN) (by simp only [List.length_append, List.length_cons, List.length_nil]; omega)).trans ((List.getElem?_append_left (by omega)).trans hS1.arr)
                        have ho2c := ho2.cells
                        refine KT.step rfl rfl (K.idxO (m := a) rfl rfl haN Try.underlying50 Try.size25) ?_
                        refine KT.storeG rfl rfl rfl rfl za (by simp; omega) ho2c.1 ho2c.2 Try.size25 fun σ3 l3 u3 v3 => ?_
                        replace z0 := (v3 0 (by omega)).trans z0
                        have hS3 := hS1.step haN ho2 k2 w2 u3 v3
                        refine KT.nil ?_
                        refine blockK_n ?_
                        refine thenK_n ?_
                        refine KC.region ?_
                        refine KT.step rfl rfl (K.add rfl rfl (wrap_id (by omega))) ?_
                        refine KT.step rfl rfl (K.move rfl) ?_
                        refine KT.nil ?_
                        refine thenK_n ?_
                        refine ⟨(σ3, fun j => if j = a then x2 else xs j, bump X a, i + 1), ⟨by simp only; omega, z0, ?_, ?_, ?_⟩, by simp only; omega, rfl, by simp [Go.Vm.look, extK]⟩
                        · simp only
                          rw [List.take_succ_eq_append_getElem hil, hsi, ← List.append_assoc, runS_snoc]
                          exact hS3
                        · simp only
                          rw [List.take_succ_eq_append_getElem hil, hsi]
                          have := runL_snoc (a := (a : Int)) hrun1 ⟨by omega, by omega, by rw [Int.toNat_natCast]; exact hfire⟩
                          rw [Int.toNat_natCast] at this
                          simpa [zs] using this
                        · simp only
                          rw [show zs (s.drop (i + 1)) = (zs s).drop (i + 1) by simp [zs]]
                          exact hnext
                    · skip
                      replace hc83 := of_decide_eq_false hc83
                      have hlast0 : lastZ ((runS Ln tm (seqP pp s ++ s.take i)) a) = 0 := by unfold lastZ; rw [if_pos (by omega)]
                      refine KC.skip ?_
                      refine thenK_n ?_
                      refine KC.seq ?_
                      refine KC.seq ?_
                      refine KC.region ?_
                      refine KT.step rfl rfl (K.fieldAddrO rfl Try.fld24_1 Try.size22) ?_
                      refine KT.step rfl rfl (K.loadO (y := .d d) rfl y0 (by simp) rfl Try.agg22) ?_
                      refine KT.step rfl rfl (K.lenN rfl hd Try.underlying22) ?_
                      refine KT.step rfl rfl (K.move rfl) ?_
                      refine KT.nil ?_
                      refine thenK_n ?_
                      refine KC.block ?_
                      try rw [hlast]
                      refine KC.loop (fun p : List VObj × Nat => p.1) (fun p => [(1, .d td), (2, .d (DI pe)), (3, .optr 0 0), (10, .d (lsD (zs s))), (12, .osl 1 0 N 1 N true), (68, .d (DI pe)), (69, .d (DI (pp : Nat))), (71, .d (lsD (zs s))), (72, .d (DI (s.length : Nat))), (73, .d (DI (i : Nat))), (14, .d (DI (a : Nat))), (15, .d (DI (((runS Ln tm (seqP pp s ++ s.take i)) a).length : Nat))), (93, .d d), (94, .d (DI (Ln.length : Nat))), (16, .d (DI ((Ln.take p.2).foldl (needF tm (runS Ln tm (seqP pp s ++ s.take i)) a) (lastZ ((runS Ln tm (seqP pp s ++ s.take i)) a))))), (95, .d (DI (p.2 : Nat)))]) (fun p => p.2 ≤ Ln.length ∧ p.1[0]? = some ⟨[.d (DI (N : Nat)), .d d], 0⟩ ∧ StI p.1 1 N xs (runS Ln tm (seqP pp s ++ s.take i))) (fun p => Ln.length - p.2) (_, 0) ⟨Nat.zero_le _, y0, hS⟩ rfl (by first | (simp [Go.Vm.look, extK]; done) | (simp [Go.Vm.look, extK, hlast0]; done)) ?_
                      clear y0 hS
                      intro p hp
                      obtain ⟨σ4, j⟩ := p
                      obtain ⟨hj, y0, hS1⟩ := hp
                      simp only at hj y0 hS1 ⊢
                      refine KC.seq ?_
                      refine KC.region ?_
                      refine KT.step rfl rfl (K.lss rfl rfl) ?_
                      refine KT.nil ?_
                      refine thenK_n ?_
                      refine KC.seq ?_
                      refine KC.cond rfl (fun hc96 => ?_) (fun hc96 => ?_)
                      · skip
                        replace hc96 := of_decide_eq_true hc96
                        have hjl : j < Ln.length := by omega
                        have ok := hr.ok _ (List.getElem_mem hjl)
                        have mb : ((runS Ln tm (seqP pp s ++ s.take i)) a).length * Ln[j].k ≤ 400 * 6 := Nat.mul_le_mul (by omega) ok.k6
                        have ab := fold_bd hB0.1 hbd htm (a := a) (Ln.take j) hlb
                        refine KC.skip ?_
                        refine thenK_n ?_
                        refine KC.seq ?_
                        refine KC.block ?_
                        refine KC.seq ?_
                        refine KC.region ?_
                        refine KT.step rfl rfl (K.idxN rfl hd rfl hjl Try.underlying22 Try.size57) ?_
                        refine KT.step rfl rfl (K.loadN hjl rfl Try.agg57 Try.size57) ?_
                        refine KT.step rfl rfl (K.alloc Try.zero57) ?_
                        refine KT.storeL (cs := (lk5 Ln[j].z).map .d) rfl rfl rfl rfl rfl rfl rfl Try.size57 ?_
                        have yK : (σ4 ++ [(⟨(lk5 Ln[j].z).map .d, 0⟩ : VObj)])[σ4.length]? = some ⟨(lk5 Ln[j].z).map .d, 0⟩ := List.getElem?_concat_length ..
                        have y05 := get_left (B := [(⟨(lk5 Ln[j].z).map .d, 0⟩ : VObj)]) y0
                        have hS5 := hS1.more [(⟨(lk5 Ln[j].z).map .d, 0⟩ : VObj)]
                        refine KT.nil ?_
                        refine thenK_n ?_
                        refine KC.seq ?_
                        refine KC.region ?_
                        refine KT.step rfl rfl (K.fieldAddrO rfl Try.fld57_3 Try.size3) ?_
                        refine KT.step rfl rfl (K.loadO (y := .d (DI (Ln[j].k : Nat))) rfl yK (by simp) rfl Try.agg3) ?_
                        refine KT.step rfl rfl (K.move rfl) ?_
                        refine KT.nil ?_
                        refine thenK_n ?_
                        refine KC.block ?_
                        refine KC.loop (fun _ : Nat => σ4 ++ [(⟨(lk5 Ln[j].z).map .d, 0⟩ : VObj)]) (fun m => [(1, .d td), (2, .d (DI pe)), (3, .optr 0 0), (10, .d (lsD (zs s))), (12, .osl 1 0 N 1 N true), (68, .d (DI pe)), (69, .d (DI (pp : Nat))), (71, .d (lsD (zs s))), (72, .d (DI (s.length : Nat))), (73, .d (DI (i : Nat))), (14, .d (DI (a : Nat))), (15, .d (DI (((runS Ln tm (seqP pp s ++ s.take i)) a).length : Nat))), (93, .d d), (94, .d (DI (Ln.length : Nat))), (95, .d (DI (j : Nat))), (18, .optr σ4.length 0), (100, .d (DI (Ln[j].k : Nat))), (16, .d (DI (innF Ln[j] tm (runS Ln tm (seqP pp s ++ s.take i)) a ((runS Ln tm (seqP pp s ++ s.take i)) a).length ((Ln.take j).foldl (needF tm (runS Ln tm (seqP pp s ++ s.take i)) a) (lastZ ((runS Ln tm (seqP pp s ++ s.take i)) a))) m))), (101, .d (DI (m : Nat)))]) (fun m => m ≤ Ln[j].k) (fun m => Ln[j].k - m) 0 (Nat.zero_le _) rfl (by simp [Go.Vm.look, extK, innF]) ?_
                        intro m hm
                        refine KC.seq ?_
                        refine KC.region ?_
                        refine KT.step rfl rfl (K.lss rfl rfl) ?_
                        refine KT.nil ?_
                        refine thenK_n ?_
                        refine KC.seq ?_
                        refine KC.cond rfl (fun hc102 => ?_) (fun hc102 => ?_)
                        · skip
                          replace hc102 := of_decide_eq_true hc102
                          have hmk : m < Ln[j].k := by omega
                          have k6 := ok.k6
                          have ib := inn_bd (l := Ln[j]) (a := a) (k := ((runS Ln tm (seqP pp s ++ s.take i)) a).length) hB0.1 hbd htm ab m
                          refine KC.skip ?_
                          refine thenK_n ?_
                          refine KC.seq ?_
                          refine KC.block ?_
                          refine KC.seq ?_
                          refine KC.region ?_
                          refine KT.step rfl rfl (K.move rfl) ?_
                          refine KT.step rfl rfl (K.assign rfl) ?_
                          refine KT.nil ?_
                          refine thenK_n ?_
                          refine KC.seq ?_
                          refine KC.region ?_
                          refine KT.step rfl rfl (K.move rfl) ?_
                          refine KT.step rfl rfl (K.fieldAddrO rfl Try.fld57_3 Try.size3) ?_
                          refine KT.step rfl rfl (K.loadO (y := .d (DI (Ln[j].k : Nat))) rfl yK (by simp) rfl Try.agg3) ?_
                          refine KT.step rfl rfl (K.mul rfl rfl (mulN (by omega))) ?_
                          refine KT.step rfl rfl (K.move rfl) ?_
                          refine KT.step rfl rfl (K.add rfl rfl (addN (by omega))) ?_
                          refine KT.step rfl rfl (K.fieldAddrO rfl Try.fld57_4 Try.size3) ?_
                          refine KT.step rfl rfl (K.loadO (y := .d (DI (Ln[j].s : Nat))) rfl yK (by simp) rfl Try.agg3) ?_
                          refine KT.step rfl rfl (K.sub rfl rfl (wrap_id (by have := ok.s; omega))) ?_
                          refine KT.step rfl rfl (K.fieldAddrO rfl Try.fld57_2 Try.size3) ?_
                          refine KT.step rfl rfl (K.loadO (y := .d (DI (Ln[j].g : Nat))) rfl yK (by simp) rfl Try.agg3) ?_
                          refine KT.step rfl rfl (K.call2 rfl rfl plainTry_56 ((show DeepCall _ _ [DI ((((runS Ln tm (seqP pp s ++ s.take i)) a).length * Ln[j].k + m : Nat) - (Ln[j].s : Nat) : Int), DI (Ln[j].g : Nat)] (DI (putZ Ln[j] ((((runS Ln tm (seqP pp s ++ s.take i)) a).length * Ln[j].k + m : Nat) : Int))) from floor56 ok.g1 ok.g6 (by have := ok.s; omega)))) ?_
                          refine KT.step rfl rfl (K.assign rfl) ?_
                          refine KT.nil ?_
                          refine thenK_n ?_
                          refine KC.seq ?_
                          refine KC.region ?_
                          refine KT.step rfl rfl (K.fieldAddrO rfl Try.fld57_1 Try.size3) ?_
                          refine KT.step rfl rfl (K.loadO (y := .d (DI (Ln[j].t : Nat))) rfl yK (by simp) rfl Try.agg3) ?_
                          refine KT.step rfl rfl (K.move rfl) ?_
                          refine KT.step rfl rfl (K.eql rfl rfl) ?_
                          refine KT.step rfl rfl (K.move rfl) ?_
                          refine KT.bcase (fun hb120 => ?_) (fun hb120 => ?_)
                          · skip
                            replace hb120 := of_decide_eq_true hb120
                            have hta : Ln[j].t = a := by omega
                            refine KT.step rfl rfl (K.move rfl) ?_
                            refine KT.step rfl rfl (K.geq rfl rfl) ?_
                            refine KT.step rfl rfl (K.pick rfl (fun _ => rfl) (fun h => by cases h)) ?_
                            refine KT.nil ?_
                            refine thenK_n ?_
                            refine KC.cond rfl (fun hc123 => ?_) (fun hc123 => ?_)
                            · skip
                              replace hc123 := of_decide_eq_true hc123
                              replace hc123 : 0 ≤ putZ Ln[j] ((((runS Ln tm (seqP pp s ++ s.take i)) a).length * Ln[j].k + m : Nat) : Int) := hc123
                              have hmono := putZ_mono (l := Ln[j]) ok.g1 (show ((((runS Ln tm (seqP pp s ++ s.take i)) a).length * Ln[j].k + m : Nat) : Int) ≤ (((((runS Ln tm (seqP pp s ++ s.take i)) a).length + 1) * Ln[j].k : Nat) - 1 : Int) by rw [Nat.add_mul, Nat.one_mul]; omega)
                              have hpl0 := hput _ (List.getElem_mem hjl) hta (by omega)
                              obtain ⟨p, hp⟩ := Int.eq_ofNat_of_zero_le hc123
                              have hpl : p < ((runS Ln tm (seqP pp s ++ s.take i)) Ln[j].f).length := by omega
                              rw [hp]
                              have hft : Ln[j].f < tm.length := by rw [htl]; exact ok.f
                              have tb := htm _ (List.getElem_mem hft)
                              have sb : 0 ≤ ((runS Ln tm (seqP pp s ++ s.take i)) Ln[j].f).getD p 0 ∧ ((runS Ln tm (seqP pp s ++ s.take i)) Ln[j].f).getD p 0 ≤ B := by
                                have := hbd _ _ (List.getElem_mem hpl)
                                simpa [hpl] using this
                              refine KC.draw Try.mixed ?_
                              refine KT.step rfl rfl (K.move rfl) ?_
                              refine KT.step rfl rfl (K.move rfl) ?_
                              refine KT.step rfl rfl (K.fieldAddrO rfl Try.fld57_0 Try.size3) ?_
                              refine KT.step rfl rfl (K.loadO (y := .d (DI (Ln[j].f : Nat))) rfl yK (by simp) rfl Try.agg3) ?_
                              refine KT.step rfl rfl (K.idxO (m := Ln[j].f) rfl rfl ok.f Try.underlying50 Try.size25) ?_
                              refine KT.step rfl rfl (K.loadO rfl hS5.arr (by simp) (hS5.get ok.f) Try.agg25) ?_
                              refine KT.step rfl rfl (K.move rfl) ?_
                              refine KT.idxOwn rfl rfl rfl (hS5.own _ ok.f) rfl (by rw [intX_len]; exact hpl) Try.underlying25 Try.size3 fun id2 hid2 => ?_
                              refine KT.step rfl rfl (K.loadO rfl hid2 (by simp) (intX_get hpl) Try.agg3) ?_
                              refine KT.step rfl rfl (K.move rfl) ?_
                              refine KT.step rfl rfl (K.fieldAddrO rfl Try.fld57_0 Try.size3) ?_
                              refine KT.step rfl rfl (K.loadO (y := .d (DI (Ln[j].f : Nat))) rfl yK (by simp) rfl Try.agg3) ?_
                              refine KT.idxI (m := Ln[j].f) rfl rfl rfl htd rfl hft Try.underlying25 Try.size3 fun cs136 => ?_
                              refine KT.step rfl rfl (K.load rfl Try.agg3) ?_
                              refine KT.step rfl rfl (K.add rfl rfl (wrap_id (by omega))) ?_
                              refine KT.step rfl rfl (K.max2 rfl rfl) ?_
                              refine KT.step rfl rfl (K.assign rfl) ?_
                              refine KT.nil ?_
                              refine ⟨by kernel_rfl, ?_⟩
                              refine blockK_n ?_
                              refine thenK_n ?_
                              refine KC.region ?_
                              refine KT.step rfl rfl (K.add rfl rfl (wrap_id (by omega))) ?_
                              refine KT.step rfl rfl (K.move rfl) ?_
                              refine KT.nil ?_
                              refine thenK_n ?_
                              have e : (innF Ln[j] tm (runS Ln tm (seqP pp s ++ s.take i)) a ((runS Ln tm (seqP pp s ++ s.take i)) a).length ((Ln.take j).foldl (needF tm (runS Ln tm (seqP pp s ++ s.take i)) a) (lastZ ((runS Ln tm (seqP pp s ++ s.take i)) a))) (m + 1)) = max (innF Ln[j] tm (runS Ln tm (seqP pp s ++ s.take i)) a ((runS Ln tm (seqP pp s ++ s.take i)) a).length ((Ln.take j).foldl (needF tm (runS Ln tm (seqP pp s ++ s.take i)) a) (lastZ ((runS Ln tm (seqP pp s ++ s.take i)) a))) m) (((runS Ln tm (seqP pp s ++ s.take i)) Ln[j].f).getD p 0 + tm[Ln[j].f]) := by
                                rw [innF, if_pos ⟨hta, by omega⟩, hp, Int.toNat_natCast]; simp [tmAt, hft]
                              refine ⟨m + 1, by omega, by omega, rfl, ?_⟩
                              simp [Go.Vm.look, extK, e]
                            · skip
                              replace hc123 := of_decide_eq_false hc123
                              refine KC.skip ?_
                              refine blockK_n ?_
                              refine thenK_n ?_
                              refine KC.region ?_
                              refine KT.step rfl rfl (K.add rfl rfl (wrap_id (by omega))) ?_
                              refine KT.step rfl rfl (K.move rfl) ?_
                              refine KT.nil ?_
                              refine thenK_n ?_
                              have e : (innF Ln[j] tm (runS Ln tm (seqP pp s ++ s.take i)) a ((runS Ln tm (seqP pp s ++ s.take i)) a).length ((Ln.take j).foldl (needF tm (runS Ln tm (seqP pp s ++ s.take i)) a) (lastZ ((runS Ln tm (seqP pp s ++ s.take i)) a))) (m + 1)) = (innF Ln[j] tm (runS Ln tm (seqP pp s ++ s.take i)) a ((runS Ln tm (seqP pp s ++ s.take i)) a).length ((Ln.take j).foldl (needF tm (runS Ln tm (seqP pp s ++ s.take i)) a) (lastZ ((runS Ln tm (seqP pp s ++ s.take i)) a))) m) := by
                                rw [innF, if_neg (fun z => hc123 z.2)]
                              refine ⟨m + 1, by omega, by omega, rfl, ?_⟩
                              simp [Go.Vm.look, extK, e]
                          · skip
                            replace hb120 := of_decide_eq_false hb120
                            have hta : ¬ Ln[j].t = a := by omega
                            refine KT.skip rfl rfl ?_
                            refine KT.skip rfl rfl ?_
                            refine KT.step rfl rfl (K.pick rfl (fun h => by cases h) (fun _ => rfl)) ?_
                            refine KT.nil ?_
                            refine thenK_n ?_
                            refine KC.cond rfl (fun hc123 => ?_) (fun hc123 => ?_)
                            · cases hc123
                            · skip
                              refine KC.skip ?_
                              refine blockK_n ?_
                              refine thenK_n ?_
                              refine KC.region ?_
                              refine KT.step rfl rfl (K.add rfl rfl (wrap_id (by omega))) ?_
                              refine KT.step rfl rfl (K.move rfl) ?_
                              refine KT.nil ?_
                              refine thenK_n ?_
                              have e : (innF Ln[j] tm (runS Ln tm (seqP pp s ++ s.take i)) a ((runS Ln tm (seqP pp s ++ s.take i)) a).length ((Ln.take j).foldl (needF tm (runS Ln tm (seqP pp s ++ s.take i)) a) (lastZ ((runS Ln tm (seqP pp s ++ s.take i)) a))) (m + 1)) = (innF Ln[j] tm (runS Ln tm (seqP pp s ++ s.take i)) a ((runS Ln tm (seqP pp s ++ s.take i)) a).length ((Ln.take j).foldl (needF tm (runS Ln tm (seqP pp s ++ s.take i)) a) (lastZ ((runS Ln tm (seqP pp s ++ s.take i)) a))) m) := by
                                rw [innF, if_neg (fun z => hta z.1)]
                              refine ⟨m + 1, by omega, by omega, rfl, ?_⟩
                              simp [Go.Vm.look, extK, e]
                        · skip
                          replace hc102 := of_decide_eq_false hc102
                          obtain rfl : m = Ln[j].k := by omega
                          refine KC.exit ?_
                          refine thenK_x ?_
                          refine thenK_x ?_
                          refine blockK_e ?_
                          refine blockK_n ?_
                          refine thenK_n ?_
                          refine KC.region ?_
                          refine KT.step rfl rfl (K.add rfl rfl (wrap_id (by omega))) ?_
                          refine KT.step rfl rfl (K.move rfl) ?_
                          refine KT.nil ?_
                          refine thenK_n ?_
                          refine ⟨(_, j + 1), ⟨by simp only; omega, y05, hS5⟩, by simp only; omega, rfl, ?_⟩
                          have e := inn_full (tm := tm) (a := a) (x := ((Ln.take j).foldl (needF tm (runS Ln tm (seqP pp s ++ s.take i)) a) (lastZ ((runS Ln tm (seqP pp s ++ s.take i)) a)))) ok.g1 ok.k1 (hSd Ln[j].f) (hput _ (List.getElem_mem hjl))
                          have ef := fold_take (needF tm (runS Ln tm (seqP pp s ++ s.take i)) a) hjl (lastZ ((runS Ln tm (seqP pp s ++ s.take i)) a))
                          rw [← e] at ef
                          simp [Go.Vm.look, extK, ef]
                      · skip
                        replace hc96 := of_decide_eq_false hc96
                        obtain rfl : j = Ln.length := by omega
                        refine KC.exit ?_
                        refine thenK_x ?_
                        refine thenK_x ?_
                        refine blockK_e ?_
                        refine thenK_n ?_
                        rw [List.take_length]
                        refine KC.region ?_
                        refine KT.step rfl rfl (K.move rfl) ?_
                        refine KT.step rfl rfl (K.move rfl) ?_
                        refine KT.step rfl rfl (K.move rfl) ?_
                        refine KT.step rfl rfl (K.move rfl) ?_
                        refine KT.step rfl rfl (K.idxO (m := a) rfl rfl haN Try.underlying50 Try.size25) ?_
                        refine KT.step rfl rfl (K.loadO rfl hS1.arr (by simp) (hS1.get haN) Try.agg25) ?_
                        refine KT.step rfl rfl (K.move rfl) ?_
                        refine KT.step rfl rfl (K.build1' (v := .d (DI (earlF Ln tm (runS Ln tm (seqP pp s ++ s.take i)) a))) rfl rfl Try.underlying25 Try.one3) ?_
                        refine KT.appK (k := 1) rfl rfl rfl rfl ((hS1.own a haN).pushed _) (List.getElem?_concat_length ..) rfl rfl (by rw [intX_len]; omega) Try.underlying25 Try.size3 (of_decide_eq_true (by kernel_rfl)) (by kernel_rfl) (by omega) fun σ2 x2 ho2 k2 w2 => ?_
                        have g1 := lt_of_some hS1.arr
                        have z0 := (k2 0 (fun h => by have := hS1.low a haN 0 h; omega) (by simp only [List.length_append, List.length_cons, List.length_nil]; omega)).trans ((List.getElem?_append_left (by omega)).trans y0)
                        have za := (k2 1 (hS1.ne a haN) (by simp only [List.length_append, List.length_cons, List.length_nil]; omega)).trans ((List.getElem?_append_left (by omega)).trans hS1.arr)
                        have ho2c := ho2.cells
                        refine KT.step rfl rfl (K.idxO (m := a) rfl rfl haN Try.underlying50 Try.size25) ?_
                        refine KT.storeG rfl rfl rfl rfl za (by simp; omega) ho2c.1 ho2c.2 Try.size25 fun σ3 l3 u3 v3 => ?_
                        replace z0 := (v3 0 (by omega)).trans z0
                        have hS3 := hS1.step haN ho2 k2 w2 u3 v3
                        refine KT.nil ?_
                        refine blockK_n ?_
                        refine thenK_n ?_
                        refine KC.region ?_
                        refine KT.step rfl rfl (K.add rfl rfl (wrap_id (by omega))) ?_
                        refine KT.step rfl rfl (K.move rfl) ?_
                        refine KT.nil ?_
                        refine thenK_n ?_
                        refine ⟨(σ3, fun j => if j = a then x2 else xs j, bump X a, i + 1), ⟨by simp only; omega, z0, ?_, ?_, ?_⟩, by simp only; omega, rfl, by simp [Go.Vm.look, extK]⟩
                        · simp only
                          rw [List.take_succ_eq_append_getElem hil, hsi, ← List.append_assoc, runS_snoc]
                          exact hS3
                        · simp only
                          rw [List.take_succ_eq_append_getElem hil, hsi]
                          have := runL_snoc (a := (a : Int)) hrun1 ⟨by omega, by omega, by rw [Int.toNat_natCast]; exact hfire⟩
                          rw [Int.toNat_natCast] at this
                          simpa [zs] using this
                        · simp only
                          rw [show zs (s.drop (i + 1)) = (zs s).drop (i + 1) by simp [zs]]
                          exact hnext
                  · skip
                    replace hc74 := of_decide_eq_false hc74
                    refine KC.exit ?_
                    refine thenK_x ?_
                    refine thenK_x ?_
                    refine blockK_e ?_
                    refine blockK_n ?_
                    refine thenK_n ?_
                    refine KC.region ?_
                    refine KT.step rfl rfl (K.add rfl rfl (wrap_id (by omega))) ?_
                    refine KT.step rfl rfl (K.move rfl) ?_
                    refine KT.nil ?_
                    refine thenK_n ?_
                    refine ⟨(σ0, xs, pp + 1), ⟨by simp only; omega, y0, ?_⟩, by simp only; omega, rfl, by simp [Go.Vm.look, extK]⟩
                    obtain rfl : i = s.length := by omega
                    rw [List.take_length] at hS
                    exact hS
                · skip
                  replace hc70 := of_decide_eq_false hc70
                  obtain rfl : pp = pe.toNat := by omega
                  refine KC.exit ?_
                  refine thenK_x ?_
                  refine thenK_x ?_
                  refine blockK_e ?_
                  refine thenK_n ?_
                  refine KC.seq ?_
                  refine KC.region ?_
                  refine KT.step rfl rfl (K.move rfl) ?_
                  refine KT.step rfl rfl (K.assign rfl) ?_
                  refine KT.step rfl rfl (K.assign rfl) ?_
                  refine KT.nil ?_
                  refine thenK_n ?_
                  refine KC.ret ?_
                  have e1 : stA (N : Int) (Ln.map LN.z) tm pe = (runS Ln tm (seqP pe.toNat s), 0) := by
                    unfold stA; rw [if_pos htB, if_pos hs2, if_neg (by rw [hr.r]; simp only; omega), hs1, toN_z, zs_toNat]
                  have e2 : stR (N : Int) (Ln.map LN.z) tm pe = stD N (runS Ln tm (seqP pe.toNat s)) := by unfold stR; rw [e1, if_pos rfl]; rfl
                  rw [e1, e2]
                  exact ⟨.inl rfl, _, rfl, deepen_tup2 hS.deep⟩
end Go.Proofs.Ytnfnjnaheckdbaa

