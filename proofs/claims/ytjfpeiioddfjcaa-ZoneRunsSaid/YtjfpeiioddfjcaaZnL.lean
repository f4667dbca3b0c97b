import Derived.Test.YtjfpeiioddfjcaaZnX
import Derived.Test.YtjfpeiioddfjcaaZnK
/-
  Zones: points of a zone.
-/
namespace Go.Proofs.Ytjfpeiioddfjcaa
open Go.Vm Go.Zn
theorem plainTry_40 : plainFn Try.prog 40 = true := by kernel_rfl

theorem ztG_ok {z : List (List Int)} (hv : validZ z = true) : ∀ g ∈ ztG z.length (zf z) z.length 0, (0 ≤ g.1 ∧ g.1 ≤ 3) ∧ (0 ≤ g.2.1 ∧ g.2.1 ≤ 3) ∧ -1000000000000000 ≤ g.2.2 / 2 * 4 ∧ g.2.2 / 2 * 4 ≤ 1000000000000000 := fun g hg => by
  obtain ⟨x, y, hxy, rfl⟩ := ztG_mem hg
  have := (validZ_rows hv).2.1
  have hb := zf_lim hv x y
  unfold Zg Lim at hb
  show (0 ≤ (x : Int) ∧ (x : Int) ≤ 3) ∧ (0 ≤ (y : Int) ∧ (y : Int) ≤ 3) ∧ _ ≤ zf z x y / 2 * 4 ∧ zf z x y / 2 * 4 ≤ _
  omega
theorem ztG_small {z : List (List Int)} (hv : validZ z = true) : (ztG z.length (zf z) z.length 0).length ≤ 1000000 := by
  rw [ztG_len]
  have := (validZ_rows hv).2.1
  have : z.length * z.length ≤ 4 * 4 := Nat.mul_le_mul this this
  omega
set_option maxRecDepth 10000 in
theorem Has31 {d e : DV} {z : List (List Int)} {p : List Int} (hd : Mat d z) (hl : z.length ≤ 9223372036854775807) (hr : ∀ r ∈ z, r.length ≤ 9223372036854775807) (he : Ints e p) (hlp : p.length ≤ 9223372036854775807) : DeepCall Try.prog 31 [d, e] (.tup [DB (hasB z p), DI (hasE z p)]) := by
  refine deepCall_K 5 Try.func31 rfl (Nat.le_of_ble_eq_true rfl) fun M W0 => ?_
  refine KC.seq ?_
  refine KC.region ?_
  refine KT.step rfl rfl (K.assign rfl) ?_
  refine KT.step rfl rfl (K.assign rfl) ?_
  refine KT.nil ?_
  refine thenK_n ?_
  refine KC.seq ?_
  refine KC.region ?_
  refine KT.step rfl rfl (K.move rfl) ?_
  refine KT.step rfl rfl (K.call1 rfl plainTry_53 (read53 hd hl hr)) ?_
  refine KT.step rfl rfl (K.move rfl) ?_
  refine KT.step rfl rfl (K.extract rfl rfl) ?_
  refine KT.step rfl rfl (K.extract rfl rfl) ?_
  refine KT.step rfl rfl (K.alloc Try.zero87) ?_
  refine KT.putAll (cs := mcx (rdN z) (rdA z)) rfl rfl rfl rfl rfl rfl rfl rfl Try.size87 ?_
  refine KT.step rfl rfl (K.assign rfl) ?_
  refine KT.nil ?_
  refine thenK_n ?_
  refine KC.seq ?_
  refine KC.seq ?_
  refine KC.region ?_
  refine KT.step rfl rfl (K.move rfl) ?_
  refine KT.step rfl rfl (K.not rfl) ?_
  refine KT.step rfl rfl (K.move rfl) ?_
  refine KT.bcase (fun hb18 => ?_) (fun hb18 => ?_)
  · skip
    rw [Bool.not_eq_true'] at hb18
    refine KT.skip rfl rfl ?_
    refine KT.skip rfl rfl ?_
    refine KT.skip rfl rfl ?_
    refine KT.skip rfl rfl ?_
    refine KT.skip rfl rfl ?_
    refine KT.skip rfl rfl ?_
    refine KT.step rfl rfl (K.pick rfl (fun _ => rfl) (fun h => by cases h)) ?_
    refine KT.nil ?_
    refine thenK_n ?_
    refine KC.cond rfl (fun hc25 => ?_) (fun hc25 => ?_)
    · skip
      refine KC.seq ?_
      refine KC.region ?_
      refine KT.step rfl rfl (K.assign rfl) ?_
      refine KT.step rfl rfl (K.assign rfl) ?_
      refine KT.nil ?_
      refine thenK_n ?_
      refine KC.ret ?_
      refine thenK_r ?_
      exact ⟨.inl rfl, _, rfl, fin_be (by unfold hasB hasOk; rw [hb18]; rfl) (by unfold hasE hasOk; rw [hb18]; rfl)⟩
    · cases hc25
  · skip
    rw [Bool.not_eq_false'] at hb18
    have q1 := rd_pos hb18
    have hz4 := (validZ_rows hb18).2.1
    have hz2 := (validZ_rows hb18).1
    rw [q1.1, q1.2]
    refine KT.step rfl rfl (K.move rfl) ?_
    refine KT.step rfl rfl (K.len rfl he Try.underlying23) ?_
    refine KT.step rfl rfl (K.fieldAddrO rfl Try.fld87_0 Try.size3) ?_
    refine KT.step rfl rfl (K.loadO rfl rfl (by simp) rfl Try.agg3) ?_
    refine KT.step rfl rfl (K.sub rfl rfl (wrap_id (by omega))) ?_
    refine KT.step rfl rfl (K.neq rfl rfl) ?_
    refine KT.step rfl rfl (K.pick rfl (fun h => by cases h) (fun _ => rfl)) ?_
    refine KT.nil ?_
    refine thenK_n ?_
    refine KC.cond rfl (fun hc25 => ?_) (fun hc25 => ?_)
    · skip
      replace hc25 := of_decide_eq_true hc25
      refine KC.seq ?_
      refine KC.region ?_
      refine KT.step rfl rfl (K.assign rfl) ?_
      refine KT.step rfl rfl (K.assign rfl) ?_
      refine KT.nil ?_
      refine thenK_n ?_
      refine KC.ret ?_
      refine thenK_r ?_
      have hno : hasOk z p = false := by
        unfold hasOk ptB
        rw [decide_eq_false (show ¬ (p.length : Int) = (z.length : Int) - 1 by omega), Bool.and_false, Bool.and_false]
      exact ⟨.inl rfl, _, rfl, fin_be (by unfold hasB; rw [hno]; rfl) (by unfold hasE; rw [hno]; rfl)⟩
    · skip
      replace hc25 := of_decide_eq_false hc25
      have hpl : (p.length : Int) = (z.length : Int) - 1 := by omega
      refine KC.skip ?_
      refine thenK_n ?_
      refine KC.seq ?_
      refine KC.seq ?_
      refine KC.region ?_
      refine KT.step rfl rfl (K.move rfl) ?_
      refine KT.step rfl rfl (K.len rfl he Try.underlying23) ?_
      refine KT.step rfl rfl (K.move rfl) ?_
      refine KT.nil ?_
      refine thenK_n ?_
      refine KC.block ?_
      refine KC.loop (fun _ : Nat => [⟨mcx z.length (zf z), 0⟩]) (fun i => [(1, .d e), (6, .optr 0 0), (26, .d e), (27, .d (DI (p.length : Nat))), (28, .d (DI (i : Nat)))]) (fun i => i ≤ p.length ∧ (p.take i).all (fun x => decide (0 ≤ x) && decide (x ≤ 20000)) = true) (fun i => p.length - i) 0 ⟨Nat.zero_le _, rfl⟩ rfl (by simp [Go.Vm.look, extK, enterK]) ?_
      intro i hi
      obtain ⟨hi, hall⟩ := hi
      refine KC.seq ?_
      refine KC.region ?_
      refine KT.step rfl rfl (K.lss rfl rfl) ?_
      refine KT.nil ?_
      refine thenK_n ?_
      refine KC.seq ?_
      refine KC.cond rfl (fun hc29 => ?_) (fun hc29 => ?_)
      · skip
        replace hc29 := of_decide_eq_true hc29
        have hil : i < p.length := by omega
        refine KC.skip ?_
        refine thenK_n ?_
        refine KC.seq ?_
        refine KC.block ?_
        refine KC.seq ?_
        refine KC.region ?_
        refine KT.idxI rfl rfl rfl (by assumption) rfl (by omega) Try.underlying23 Try.size3 fun cs30 => ?_
        refine KT.step rfl rfl (K.load rfl Try.agg3) ?_
        refine KT.step rfl rfl (K.assign rfl) ?_
        refine KT.nil ?_
        refine thenK_n ?_
        refine KC.seq ?_
        refine KC.region ?_
        refine KT.step rfl rfl (K.move rfl) ?_
        refine KT.step rfl rfl (K.call3 rfl rfl rfl plainTry_71 (in71 _ _ _)) ?_
        refine KT.step rfl rfl (K.not rfl) ?_
        refine KT.nil ?_
        refine thenK_n ?_
        refine KC.cond rfl (fun hc34 => ?_) (fun hc34 => ?_)
        · skip
          rw [Bool.not_eq_true'] at hc34
          refine KC.seq ?_
          refine KC.region ?_
          refine KT.step rfl rfl (K.assign rfl) ?_
          refine KT.step rfl rfl (K.assign rfl) ?_
          refine KT.nil ?_
          refine thenK_n ?_
          refine KC.ret ?_
          refine blockK_r ?_
          refine thenK_r ?_
          refine thenK_r ?_
          refine blockK_r ?_
          refine thenK_r ?_
          have hno : hasOk z p = false := by
            unfold hasOk ptB
            rw [all_false hil hc34, Bool.false_and, Bool.and_false]
          exact ⟨.inl rfl, _, rfl, fin_be (by unfold hasB; rw [hno]; rfl) (by unfold hasE; rw [hno]; rfl)⟩
        · skip
          rw [Bool.not_eq_false'] at hc34
          refine KC.skip ?_
          refine blockK_n ?_
          refine thenK_n ?_
          refine KC.region ?_
          refine KT.step rfl rfl (K.add rfl rfl (wrap_id (by omega))) ?_
          refine KT.step rfl rfl (K.move rfl) ?_
          refine KT.nil ?_
          refine thenK_n ?_
          refine ⟨i + 1, ⟨by omega, ?_⟩, by omega, rfl, by simp [Go.Vm.look, extK]⟩
          rw [all_take _ hil, hall, Bool.true_and, hc34]
      · skip
        replace hc29 := of_decide_eq_false hc29
        refine KC.exit ?_
        refine thenK_x ?_
        refine thenK_x ?_
        refine blockK_e ?_
        refine thenK_n ?_
        refine KC.seq ?_
        refine KC.region ?_
        refine KT.step rfl rfl (K.alloc Try.zero105) ?_
        refine KT.nil ?_
        refine thenK_n ?_
        refine KC.seq ?_
        refine KC.region ?_
        refine KT.step rfl rfl (K.sliceAl (m := 1) rfl rfl Try.underlying105 Try.size3 rfl (by simp) (by decide) (Nat.le_refl _)) ?_
        refine KT.step rfl rfl (K.move rfl) ?_
        refine KT.step rfl rfl (K.copyI rfl rfl he rfl Try.underlying23 Try.size3 rfl rfl (by show 0 + 1 * 1 + min p.length (4 - 1) ≤ 4; omega) (by omega)) ?_
        refine KT.nil ?_
        refine thenK_n ?_
        refine KC.seq ?_
        have hall : ∀ x ∈ p, 0 ≤ x ∧ x ≤ 20000 := fun x hx => by
          have := List.all_eq_true.1 (all_end (by omega) hall) x hx
          simp only [Bool.and_eq_true, decide_eq_true_eq] at this
          exact this
        have hpt : ptB p ((z.length : Int) - 1) = true := pt_of hall hpl
        have y1 : ([⟨mcx z.length (zf z), 0⟩, ⟨splice ((c4 fun _ => 0).map XV.d) (0 + 1 * 1) ((p.take (min p.length (4 - 1))).map fun n => XV.d (DI n)), 0⟩] : List VObj)[1]? = some ⟨(c4 (pv p)).map .d, 0⟩ := by
          rw [copy_c4 (n := z.length) (by omega) hz2 hz4]; rfl
        refine KC.draw Try.mixed ?_
        refine KT.step rfl rfl (K.loadOA (mc (z.length) (zf z)) rfl rfl (by decide) Try.agg87 Try.size87 rfl) ?_
        refine KT.step rfl rfl (K.call1 rfl plainTry_73 (guards73 hz4 (by omega))) ?_
        refine KT.step rfl rfl (K.loadOA (c4 (pv p)) rfl y1 (by decide) Try.agg105 Try.size105 rfl) ?_
        refine KT.step rfl rfl (K.call3 rfl rfl rfl plainTry_72 (hold72 (gdsD_gds _) (ztG_small hb18) (fun i _ => by have := pv_lim hall i; omega) (ztG_ok hb18))) ?_
        refine KT.step rfl rfl (K.assign rfl) ?_
        refine KT.step rfl rfl (K.assign rfl) ?_
        refine KT.nil ?_
        refine ⟨by kernel_rfl, ?_⟩
        refine thenK_n ?_
        refine KC.ret ?_
        exact ⟨.inl rfl, _, rfl, fin_be (by rw [(hasE_of hb18 hpt).2]; rfl) (hasE_of hb18 hpt).1.symm⟩
set_option maxRecDepth 10000 in
theorem Within38 {diff den b : Int} (hb : -9223372036854775807 ≤ b ∧ b ≤ 9223372036854775807) (h : -1000000000000000 ≤ b / 2 * den ∧ b / 2 * den ≤ 1000000000000000) : DeepCall Try.prog 38 [DI diff, DI den, DI b] (DB (wB diff den b)) := by
  refine deepCall_K 5 Try.func38 rfl (Nat.le_of_ble_eq_true rfl) fun M W0 => ?_
  refine KC.seq ?_
  refine KC.region ?_
  refine KT.step rfl rfl (K.assign rfl) ?_
  refine KT.nil ?_
  refine thenK_n ?_
  refine KC.seq ?_
  refine KC.region ?_
  refine KT.step rfl rfl (K.move rfl) ?_
  refine KT.step rfl rfl (K.move rfl) ?_
  refine KT.step rfl rfl (K.band rfl rfl (andOne b)) ?_
  refine KT.step rfl rfl (K.sub rfl rfl (wrap_id (by omega))) ?_
  refine KT.step rfl rfl (K.quo rfl rfl (by omega) (halfq hb)) ?_
  refine KT.step rfl rfl (K.move rfl) ?_
  refine KT.step rfl rfl (K.mul rfl rfl (wrap_id (by omega))) ?_
  refine KT.step rfl rfl (K.assign rfl) ?_
  refine KT.nil ?_
  refine thenK_n ?_
  refine KC.seq ?_
  refine KC.region ?_
  refine KT.step rfl rfl (K.move rfl) ?_
  refine KT.step rfl rfl (K.eql rfl rfl) ?_
  refine KT.step rfl rfl (K.move rfl) ?_
  refine KT.bcase (fun hb17 => ?_) (fun hb17 => ?_)
  · skip
    replace hb17 := of_decide_eq_true hb17
    refine KT.skip rfl rfl ?_
    refine KT.skip rfl rfl ?_
    refine KT.skip rfl rfl ?_
    refine KT.step rfl rfl (K.pick rfl (fun _ => rfl) (fun h => by cases h)) ?_
    refine KT.step rfl rfl (K.move rfl) ?_
    refine KT.skip rfl rfl ?_
    refine KT.skip rfl rfl ?_
    refine KT.skip rfl rfl ?_
    refine KT.skip rfl rfl ?_
    refine KT.skip rfl rfl ?_
    refine KT.skip rfl rfl ?_
    refine KT.skip rfl rfl ?_
    refine KT.skip rfl rfl ?_
    refine KT.step rfl rfl (K.pick rfl (fun _ => rfl) (fun h => by cases h)) ?_
    refine KT.step rfl rfl (K.assign rfl) ?_
    refine KT.nil ?_
    refine thenK_n ?_
    refine KC.ret ?_
    exact ⟨.inl rfl, _, rfl, fin_b (by unfold wB; rw [decide_eq_true hb17]; rfl)⟩
  · skip
    replace hb17 := of_decide_eq_false hb17
    refine KT.step rfl rfl (K.move rfl) ?_
    refine KT.step rfl rfl (K.move rfl) ?_
    refine KT.step rfl rfl (K.lss rfl rfl) ?_
    refine KT.step rfl rfl (K.pick rfl (fun h => by cases h) (fun _ => rfl)) ?_
    refine KT.step rfl rfl (K.move rfl) ?_
    refine KT.bcase (fun hb22 => ?_) (fun hb22 => ?_)
    · skip
      replace hb22 := of_decide_eq_true hb22
      refine KT.skip rfl rfl ?_
      refine KT.skip rfl rfl ?_
      refine KT.skip rfl rfl ?_
      refine KT.skip rfl rfl ?_
      refine KT.skip rfl rfl ?_
      refine KT.skip rfl rfl ?_
      refine KT.skip rfl rfl ?_
      refine KT.skip rfl rfl ?_
      refine KT.step rfl rfl (K.pick rfl (fun _ => rfl) (fun h => by cases h)) ?_
      refine KT.step rfl rfl (K.assign rfl) ?_
      refine KT.nil ?_
      refine thenK_n ?_
      refine KC.ret ?_
      exact ⟨.inl rfl, _, rfl, fin_b (by unfold wB; rw [decide_eq_false hb17, decide_eq_true hb22]; rfl)⟩
    · skip
      replace hb22 := of_decide_eq_false hb22
      refine KT.step rfl rfl (K.move rfl) ?_
      refine KT.step rfl rfl (K.move rfl) ?_
      refine KT.step rfl rfl (K.eql rfl rfl) ?_
      refine KT.step rfl rfl (K.move rfl) ?_
      refine KT.bcase (fun hb26 => ?_) (fun hb26 => ?_)
      · skip
        replace hb26 := of_decide_eq_true hb26
        refine KT.step rfl rfl (K.move rfl) ?_
        refine KT.step rfl rfl (K.band rfl rfl (andOne b)) ?_
        refine KT.step rfl rfl (K.eql rfl rfl) ?_
        refine KT.step rfl rfl (K.pick rfl (fun _ => rfl) (fun h => by cases h)) ?_
        refine KT.step rfl rfl (K.pick rfl (fun h => by cases h) (fun _ => rfl)) ?_
        refine KT.step rfl rfl (K.assign rfl) ?_
        refine KT.nil ?_
        refine thenK_n ?_
        refine KC.ret ?_
        exact ⟨.inl rfl, _, rfl, fin_b (by unfold wB; rw [decide_eq_false hb17, decide_eq_false hb22, decide_eq_true hb26]; rfl)⟩
      · skip
        replace hb26 := of_decide_eq_false hb26
        refine KT.skip rfl rfl ?_
        refine KT.skip rfl rfl ?_
        refine KT.skip rfl rfl ?_
        refine KT.step rfl rfl (K.pick rfl (fun h => by cases h) (fun _ => rfl)) ?_
        refine KT.step rfl rfl (K.pick rfl (fun h => by cases h) (fun _ => rfl)) ?_
        refine KT.step rfl rfl (K.assign rfl) ?_
        refine KT.nil ?_
        refine thenK_n ?_
        refine KC.ret ?_
        exact ⟨.inl rfl, _, rfl, fin_b (by unfold wB; rw [decide_eq_false hb17, decide_eq_false hb22, decide_eq_false hb26]; rfl)⟩
set_option maxRecDepth 10000 in
theorem Point37 {e : DV} {p : List Int} {n : Int} (he : Ints e p) (hlp : p.length ≤ 9223372036854775807) : DeepCall Try.prog 37 [e, DI n] (DB (ptB p n)) := by
  refine deepCall_K 5 Try.func37 rfl (Nat.le_of_ble_eq_true rfl) fun M W0 => ?_
  refine KC.seq ?_
  refine KC.region ?_
  refine KT.step rfl rfl (K.assign rfl) ?_
  refine KT.nil ?_
  refine thenK_n ?_
  refine KC.seq ?_
  refine KC.seq ?_
  refine KC.region ?_
  refine KT.step rfl rfl (K.move rfl) ?_
  refine KT.step rfl rfl (K.len rfl he Try.underlying23) ?_
  refine KT.step rfl rfl (K.move rfl) ?_
  refine KT.nil ?_
  refine thenK_n ?_
  refine KC.block ?_
  refine KC.loop (fun _ : Nat => []) (fun i => [(0, .d e), (1, .d (DI n)), (7, .d e), (8, .d (DI (p.length : Nat))), (9, .d (DI (i : Nat)))]) (fun i => i ≤ p.length ∧ (p.take i).all (fun x => decide (0 ≤ x) && decide (x ≤ 20000)) = true) (fun i => p.length - i) 0 ⟨Nat.zero_le _, rfl⟩ rfl (by simp [Go.Vm.look, extK, enterK]) ?_
  intro i hi
  obtain ⟨hi, hall⟩ := hi
  refine KC.seq ?_
  refine KC.region ?_
  refine KT.step rfl rfl (K.lss rfl rfl) ?_
  refine KT.nil ?_
  refine thenK_n ?_
  refine KC.seq ?_
  refine KC.cond rfl (fun hc10 => ?_) (fun hc10 => ?_)
  · skip
    replace hc10 := of_decide_eq_true hc10
    have hil : i < p.length := by omega
    refine KC.skip ?_
    refine thenK_n ?_
    refine KC.seq ?_
    refine KC.block ?_
    refine KC.seq ?_
    refine KC.region ?_
    refine KT.idxI rfl rfl rfl (by assumption) rfl (by omega) Try.underlying23 Try.size3 fun cs11 => ?_
    refine KT.step rfl rfl (K.load rfl Try.agg3) ?_
    refine KT.step rfl rfl (K.assign rfl) ?_
    refine KT.nil ?_
    refine thenK_n ?_
    refine KC.seq ?_
    refine KC.region ?_
    refine KT.step rfl rfl (K.move rfl) ?_
    refine KT.step rfl rfl (K.lss rfl rfl) ?_
    refine KT.step rfl rfl (K.move rfl) ?_
    refine KT.bcase (fun hb15 => ?_) (fun hb15 => ?_)
    · skip
      replace hb15 := of_decide_eq_true hb15
      refine KT.skip rfl rfl ?_
      refine KT.skip rfl rfl ?_
      refine KT.step rfl rfl (K.pick rfl (fun _ => rfl) (fun h => by cases h)) ?_
      refine KT.nil ?_
      refine thenK_n ?_
      refine KC.cond rfl (fun hc18 => ?_) (fun hc18 => ?_)
      · skip
        refine KC.seq ?_
        refine KC.region ?_
        refine KT.step rfl rfl (K.assign rfl) ?_
        refine KT.nil ?_
        refine thenK_n ?_
        refine KC.ret ?_
        refine blockK_r ?_
        refine thenK_r ?_
        refine thenK_r ?_
        refine blockK_r ?_
        refine thenK_r ?_
        exact ⟨.inl rfl, _, rfl, fin_b (by
          unfold ptB
          rw [all_false hil (by first | (rw [decide_eq_false (show ¬ 0 ≤ p[i] by omega)]; rfl) | (rw [decide_eq_false (show ¬ p[i] ≤ 20000 by omega), Bool.and_false])), Bool.false_and])⟩
      · cases hc18
    · skip
      replace hb15 := of_decide_eq_false hb15
      refine KT.step rfl rfl (K.move rfl) ?_
      refine KT.step rfl rfl (K.gtr rfl rfl) ?_
      refine KT.step rfl rfl (K.pick rfl (fun h => by cases h) (fun _ => rfl)) ?_
      refine KT.nil ?_
      refine thenK_n ?_
      refine KC.cond rfl (fun hc18 => ?_) (fun hc18 => ?_)
      · skip
        replace hc18 := of_decide_eq_true hc18
        refine KC.seq ?_
        refine KC.region ?_
        refine KT.step rfl rfl (K.assign rfl) ?_
        refine KT.nil ?_
        refine thenK_n ?_
        refine KC.ret ?_
        refine blockK_r ?_
        refine thenK_r ?_
        refine thenK_r ?_
        refine blockK_r ?_
        refine thenK_r ?_
        exact ⟨.inl rfl, _, rfl, fin_b (by
          unfold ptB
          rw [all_false hil (by first | (rw [decide_eq_false (show ¬ 0 ≤ p[i] by omega)]; rfl) | (rw [decide_eq_false (show ¬ p[i] ≤ 20000 by omega), Bool.and_false])), Bool.false_and])⟩
      · skip
        replace hc18 := of_decide_eq_false hc18
        refine KC.skip ?_
        refine blockK_n ?_
        refine thenK_n ?_
        refine KC.region ?_
        refine KT.step rfl rfl (K.add rfl rfl (wrap_id (by omega))) ?_
        refine KT.step rfl rfl (K.move rfl) ?_
        refine KT.nil ?_
        refine thenK_n ?_
        refine ⟨i + 1, ⟨by omega, ?_⟩, by omega, rfl, by simp [Go.Vm.look, extK]⟩
        rw [all_take _ hil, hall, Bool.true_and, decide_eq_true (by omega), decide_eq_true (by omega)]; rfl
  · skip
    replace hc10 := of_decide_eq_false hc10
    refine KC.exit ?_
    refine thenK_x ?_
    refine thenK_x ?_
    refine blockK_e ?_
    refine thenK_n ?_
    refine KC.seq ?_
    refine KC.region ?_
    refine KT.step rfl rfl (K.move rfl) ?_
    refine KT.step rfl rfl (K.len rfl he Try.underlying23) ?_
    refine KT.step rfl rfl (K.move rfl) ?_
    refine KT.step rfl rfl (K.eql rfl rfl) ?_
    refine KT.step rfl rfl (K.assign rfl) ?_
    refine KT.nil ?_
    refine thenK_n ?_
    refine KC.ret ?_
    exact ⟨.inl rfl, _, rfl, fin_b (by
      unfold ptB
      rw [all_end (by omega) hall, Bool.true_and])⟩

def mxI : List Int → Int
  | [] => 0
  | [a] => a
  | a :: l => max a (mxI l)
def mxP (p : List Int) : Nat → Int
  | 0 => p.getD 0 0
  | i + 1 => max (mxP p i) (p.getD (i + 1) 0)
theorem mxP_ge {p : List Int} : ∀ i q, q ≤ i → p.getD q 0 ≤ mxP p i
  | 0, q, h => by rw [show q = 0 by omega]; exact Int.le_refl _
  | i + 1, q, h => by
    by_cases e : q = i + 1
    · subst e; exact Int.le_max_right _ _
    · exact Int.le_trans (mxP_ge i q (by omega)) (Int.le_max_left _ _)
theorem mxP_in {p : List Int} : ∀ i, i < p.length → mxP p i ∈ p
  | 0, h => by unfold mxP; rw [show p.getD 0 0 = p[0] by simp [h]]; exact List.getElem_mem h
  | i + 1, h => by
    have := mxP_in (p := p) i (by omega)
    unfold mxP
    rcases Int.le_total (mxP p i) (p.getD (i + 1) 0) with hm | hm
    · rw [Int.max_eq_right hm, show p.getD (i + 1) 0 = p[i + 1] by simp [h]]; exact List.getElem_mem h
    · rw [Int.max_eq_left hm]; exact this
set_option maxRecDepth 10000 in
theorem Max40 {e : DV} {p : List Int} (he : Ints e p) (hlp : p.length ≤ 9223372036854775807) (h0 : 0 < p.length) : DeepCall Try.prog 40 [e] (DI (mxP p (p.length - 1))) := by
  refine deepCall_K 5 Try.func40 rfl (Nat.le_of_ble_eq_true rfl) fun M W0 => ?_
  refine KC.seq ?_
  refine KC.region ?_
  refine KT.step rfl rfl (K.assign rfl) ?_
  refine KT.nil ?_
  refine thenK_n ?_
  refine KC.seq ?_
  refine KC.seq ?_
  refine KC.region ?_
  refine KT.step rfl rfl (K.move rfl) ?_
  refine KT.step rfl rfl (K.len rfl he Try.underlying23) ?_
  refine KT.step rfl rfl (K.lss rfl rfl) ?_
  refine KT.nil ?_
  refine thenK_n ?_
  refine KC.cond rfl (fun hc7 => ?_) (fun hc7 => ?_)
  · skip
    replace hc7 := of_decide_eq_true hc7
    omega
  · skip
    replace hc7 := of_decide_eq_false hc7
    refine KC.skip ?_
    refine thenK_n ?_
    refine KC.seq ?_
    refine KC.region ?_
    refine KT.step rfl rfl (K.move rfl) ?_
    refine KT.idxI (m := 0) rfl rfl rfl he rfl h0 Try.underlying23 Try.size3 fun cs10 => ?_
    refine KT.step rfl rfl (K.load rfl Try.agg3) ?_
    refine KT.step rfl rfl (K.assign rfl) ?_
    refine KT.nil ?_
    refine thenK_n ?_
    refine KC.seq ?_
    refine KC.seq ?_
    refine KC.region ?_
    refine KT.step rfl rfl (K.assign rfl) ?_
    refine KT.nil ?_
    refine thenK_n ?_
    refine KC.block ?_
    refine KC.loop (fun _ : Nat => []) (fun i => [(0, .d e), (3, .d (DI (mxP p i))), (4, .d (DI ((i + 1 : Nat) : Int)))]) (fun i => i + 1 ≤ p.length) (fun i => p.length - i) 0 (by omega) rfl (by simp [Go.Vm.look, extK, enterK, mxP, List.getD_eq_getElem?_getD, h0]) ?_
    intro i hi
    refine KC.seq ?_
    refine KC.seq ?_
    refine KC.region ?_
    refine KT.step rfl rfl (K.move rfl) ?_
    refine KT.step rfl rfl (K.move rfl) ?_
    refine KT.step rfl rfl (K.len rfl he Try.underlying23) ?_
    refine KT.step rfl rfl (K.lss rfl rfl) ?_
    refine KT.nil ?_
    refine thenK_n ?_
    refine KC.cond rfl (fun hc15 => ?_) (fun hc15 => ?_)
    · skip
      replace hc15 := of_decide_eq_true hc15
      have hil : i + 1 < p.length := by omega
      refine KC.skip ?_
      refine thenK_n ?_
      refine KC.seq ?_
      refine KC.block ?_
      refine KC.region ?_
      refine KT.step rfl rfl (K.move rfl) ?_
      refine KT.step rfl rfl (K.move rfl) ?_
      refine KT.step rfl rfl (K.move rfl) ?_
      refine KT.idxI rfl rfl rfl he rfl hil Try.underlying23 Try.size3 fun cs21 => ?_
      refine KT.step rfl rfl (K.load rfl Try.agg3) ?_
      refine KT.step rfl rfl (K.max2 rfl rfl) ?_
      refine KT.step rfl rfl (K.assign rfl) ?_
      refine KT.nil ?_
      refine blockK_n ?_
      refine thenK_n ?_
      refine KC.region ?_
      refine KT.step rfl rfl (K.move rfl) ?_
      refine KT.step rfl rfl (K.add rfl rfl (oneN (by omega))) ?_
      refine KT.step rfl rfl (K.assign rfl) ?_
      refine KT.nil ?_
      refine thenK_n ?_
      refine ⟨i + 1, by omega, by omega, rfl, by simp [Go.Vm.look, extK, mxP, List.getD_eq_getElem?_getD, hil]⟩
    · skip
      replace hc15 := of_decide_eq_false hc15
      refine KC.exit ?_
      refine thenK_x ?_
      refine thenK_x ?_
      refine blockK_e ?_
      refine thenK_n ?_
      refine KC.seq ?_
      refine KC.region ?_
      refine KT.step rfl rfl (K.move rfl) ?_
      refine KT.step rfl rfl (K.assign rfl) ?_
      refine KT.nil ?_
      refine thenK_n ?_
      refine KC.ret ?_
      rw [show p.length - 1 = i by omega]
      exact ⟨.inl rfl, _, rfl, fin_d rfl⟩
end Go.Proofs.Ytjfpeiioddfjcaa

