import Derived.Test.YthbnnffmhnjpjaaCyRi
import Derived.Test.YthbnnffmhnjpjaaCyEb
/-
  Times: the reference: Mean, Critical; the law CycleMeans.
-/
namespace Go.Proofs.Ythbnnffmhnjpjaa
open Go.Vm Go.Cy Go.RowKit
theorem plainTry_26 : plainFn Try.prog 26 = true := by kernel_rfl
theorem plainTry_28 : plainFn Try.prog 28 = true := by kernel_rfl
theorem plainTry_4 : plainFn Try.prog 4 = true := by kernel_rfl

theorem mean_parts {m : List (List Int)} (hv : validB 1000 m = true) : ((mFold (mf m) (cycsN m.length (mf m) m.length)).2.2 = [] → measE m = 5 ∧ measF m = (0, 0) ∧ crV m = []) ∧ ((mFold (mf m) (cycsN m.length (mf m) m.length)).2.2 ≠ [] → measE m = 0 ∧ measF m = lowI ((mFold (mf m) (cycsN m.length (mf m) m.length)).1, (mFold (mf m) (cycsN m.length (mf m) m.length)).2.1) ∧ crV m = cI (mFold (mf m) (cycsN m.length (mf m) m.length)).2.2) := by
  obtain ⟨sm, _⟩ := Cy.Small.of hv
  cases hm : meanI m.length (mf m) with
  | none =>
    obtain ⟨e1, e2, _⟩ := meas_none hv hm
    rw [sm.no_cycs hm]
    refine ⟨fun _ => ⟨e1, e2, ?_⟩, fun h => absurd rfl h⟩
    unfold crV; rw [e1]; rfl
  | some pq =>
    obtain ⟨p, q⟩ := pq
    obtain ⟨e1, e2, _⟩ := meas_some hv hm
    obtain ⟨c, c1, c2, c3, c4, c5, c6⟩ := sm.fold hm
    obtain ⟨_, g1, g2, _⟩ := sm.mean hm
    rw [c3]
    refine ⟨fun h => absurd h c1, fun _ => ⟨e1, ?_, ?_⟩⟩
    · have hl : 0 < c.length := List.length_pos_iff.2 c1
      obtain ⟨l1, l2, l3⟩ := low_spec (f := (wtS (mf m) (cI c) c.length, (c.length : Int))) (by simp only; omega)
      simp only at l1 l2 l3
      have key : p * (lowI (wtS (mf m) (cI c) c.length, (c.length : Int))).2 = (lowI (wtS (mf m) (cI c) c.length, (c.length : Int))).1 * q := by
        generalize lowI (wtS (mf m) (cI c) c.length, (c.length : Int)) = L at *
        have h1 : p * L.2 * (c.length : Int) = L.1 * q * (c.length : Int) := by
          rw [Int.mul_right_comm, ← c6, Int.mul_right_comm, l2, Int.mul_right_comm]
        exact Int.eq_of_mul_eq_mul_right (by omega) h1
      obtain ⟨u1, u2⟩ := low_uniq g2.1 l1 g1 l3 key
      rw [e2, u1, u2]
    · unfold crV gainM
      rw [e1, e2, if_pos rfl]; exact c4
noncomputable def rcD (m : List (List Int)) : DV := if validB 1000 m = true then bestD (mFold (mf m) (cycsN m.length (mf m) m.length)).2.2 else Dnil
theorem bestD_ints (b : List Nat) : Ints (bestD b) (cI b) := by
  unfold bestD
  split
  · rename_i h; subst h; exact .nil
  · exact wayD_ints b
theorem rcD_ints (m : List (List Int)) : Ints (rcD m) (crV m) := by
  unfold rcD
  by_cases hv : validB 1000 m = true
  · rw [if_pos hv]
    obtain ⟨a1, a2⟩ := mean_parts hv
    by_cases h : (mFold (mf m) (cycsN m.length (mf m) m.length)).2.2 = []
    · rw [(a1 h).2.2, h]; exact bestD_ints []
    · rw [(a2 h).2.2]; exact bestD_ints _
  · rw [if_neg hv]
    have e := (meas_no (Bool.eq_false_iff.2 hv)).1
    have : crV m = [] := by unfold crV; rw [e]; rfl
    rw [this]; exact .nil
set_option maxRecDepth 10000 in
theorem rMean26 {d : DV} {m : List (List Int)} (hd : Mat d m) (hl : m.length ≤ 9223372036854775807) (hr : ∀ r ∈ m, r.length ≤ 9223372036854775807) : DeepCall Try.prog 26 [d] (.tup [DI (measF m).1, DI (measF m).2, DI (measE m)]) := by
  refine deepCall_K 5 Try.func26 rfl (Nat.le_of_ble_eq_true rfl) fun M W0 => ?_
  refine KC.seq ?_
  refine KC.region ?_
  refine KT.step rfl rfl (K.assign rfl) ?_
  refine KT.step rfl rfl (K.assign rfl) ?_
  refine KT.step rfl rfl (K.assign rfl) ?_
  refine KT.nil ?_
  refine thenK_n ?_
  refine KC.seq ?_
  refine KC.seq ?_
  refine KC.region ?_
  refine KT.step rfl rfl (K.move rfl) ?_
  refine KT.step rfl rfl (K.call1 rfl plainTry_38 (small38 hd hl hr)) ?_
  refine KT.step rfl rfl (K.not rfl) ?_
  refine KT.nil ?_
  refine thenK_n ?_
  refine KC.cond rfl (fun hc10 => ?_) (fun hc10 => ?_)
  · skip
    have hv : validB 1000 m = false := by rw [Bool.not_eq_true'] at hc10; exact hc10
    obtain ⟨e1, e2, _⟩ := meas_no hv
    refine KC.seq ?_
    refine KC.region ?_
    refine KT.step rfl rfl (K.assign rfl) ?_
    refine KT.step rfl rfl (K.assign rfl) ?_
    refine KT.step rfl rfl (K.assign rfl) ?_
    refine KT.nil ?_
    refine thenK_n ?_
    refine KC.ret ?_
    refine thenK_r ?_
    exact ⟨.inl rfl, _, rfl, by rw [e1, e2]; rfl⟩
  · skip
    have hv : validB 1000 m = true := by rw [Bool.not_eq_false'] at hc10; exact hc10
    obtain ⟨sm, p3⟩ := Cy.Small.of hv
    have n1 := sm.n1
    have n6 := sm.n6
    have hd' : Mat d (genM m.length m.length (mf m)) := p3 ▸ hd
    obtain ⟨a1, a2⟩ := mean_parts hv
    refine KC.skip ?_
    refine thenK_n ?_
    refine KC.seq ?_
    refine KC.region ?_
    refine KT.step rfl rfl (K.move rfl) ?_
    refine KT.step rfl rfl (K.call1 rfl plainTry_57 (rmean57 (extended102 n6) hd' n1 n6 sm.ga)) ?_
    refine KT.step rfl rfl (K.move rfl) ?_
    refine KT.step rfl rfl (K.extract rfl rfl) ?_
    refine KT.step rfl rfl (K.extract rfl rfl) ?_
    refine KT.step rfl rfl (K.extract rfl rfl) ?_
    refine KT.step rfl rfl (K.assign rfl) ?_
    refine KT.step rfl rfl (K.assign rfl) ?_
    refine KT.step rfl rfl (K.assign rfl) ?_
    refine KT.nil ?_
    refine thenK_n ?_
    refine KC.seq ?_
    refine KC.seq ?_
    refine KC.region ?_
    refine KT.step rfl rfl (K.move rfl) ?_
    refine KT.step rfl rfl (K.eqBest rfl Try.underlying33) ?_
    refine KT.nil ?_
    refine thenK_n ?_
    refine KC.cond rfl (fun hc18 => ?_) (fun hc18 => ?_)
    · skip
      obtain ⟨b1, b2, _⟩ := a1 (of_decide_eq_true hc18)
      refine KC.seq ?_
      refine KC.region ?_
      refine KT.step rfl rfl (K.assign rfl) ?_
      refine KT.step rfl rfl (K.assign rfl) ?_
      refine KT.step rfl rfl (K.assign rfl) ?_
      refine KT.nil ?_
      refine thenK_n ?_
      refine KC.ret ?_
      refine thenK_r ?_
      exact ⟨.inl rfl, _, rfl, by rw [b1, b2]; rfl⟩
    · skip
      obtain ⟨b1, b2, _⟩ := a2 (of_decide_eq_false hc18)
      refine KC.skip ?_
      refine thenK_n ?_
      refine KC.seq ?_
      refine KC.region ?_
      refine KT.step rfl rfl (K.move rfl) ?_
      refine KT.step rfl rfl (K.move rfl) ?_
      refine KT.step rfl rfl (K.assign rfl) ?_
      refine KT.step rfl rfl (K.assign rfl) ?_
      refine KT.step rfl rfl (K.assign rfl) ?_
      refine KT.nil ?_
      refine thenK_n ?_
      refine KC.ret ?_
      exact ⟨.inl rfl, _, rfl, by rw [b1, b2]; rfl⟩
set_option maxRecDepth 10000 in
theorem rCrit28 {d : DV} {m : List (List Int)} (hd : Mat d m) (hl : m.length ≤ 9223372036854775807) (hr : ∀ r ∈ m, r.length ≤ 9223372036854775807) : DeepCall Try.prog 28 [d] (.tup [rcD m, DI (measE m)]) := by
  refine deepCall_K 5 Try.func28 rfl (Nat.le_of_ble_eq_true rfl) fun M W0 => ?_
  refine KC.seq ?_
  refine KC.region ?_
  refine KT.step rfl rfl (K.assign rfl) ?_
  refine KT.step rfl rfl (K.assign rfl) ?_
  refine KT.nil ?_
  refine thenK_n ?_
  refine KC.seq ?_
  refine KC.seq ?_
  refine KC.region ?_
  refine KT.step rfl rfl (K.move rfl) ?_
  refine KT.step rfl rfl (K.call1 rfl plainTry_38 (small38 hd hl hr)) ?_
  refine KT.step rfl rfl (K.not rfl) ?_
  refine KT.nil ?_
  refine thenK_n ?_
  refine KC.cond rfl (fun hc9 => ?_) (fun hc9 => ?_)
  · skip
    have hv : validB 1000 m = false := by rw [Bool.not_eq_true'] at hc9; exact hc9
    obtain ⟨e1, e2, _⟩ := meas_no hv
    refine KC.seq ?_
    refine KC.region ?_
    refine KT.step rfl rfl (K.assign rfl) ?_
    refine KT.step rfl rfl (K.assign rfl) ?_
    refine KT.nil ?_
    refine thenK_n ?_
    refine KC.ret ?_
    refine thenK_r ?_
    exact ⟨.inl rfl, _, rfl, by unfold rcD; rw [hv, e1]; rfl⟩
  · skip
    have hv : validB 1000 m = true := by rw [Bool.not_eq_false'] at hc9; exact hc9
    obtain ⟨sm, p3⟩ := Cy.Small.of hv
    have n1 := sm.n1
    have n6 := sm.n6
    have hd' : Mat d (genM m.length m.length (mf m)) := p3 ▸ hd
    obtain ⟨a1, a2⟩ := mean_parts hv
    refine KC.skip ?_
    refine thenK_n ?_
    refine KC.seq ?_
    refine KC.region ?_
    refine KT.step rfl rfl (K.move rfl) ?_
    refine KT.step rfl rfl (K.call1 rfl plainTry_57 (rmean57 (extended102 n6) hd' n1 n6 sm.ga)) ?_
    refine KT.step rfl rfl (K.move rfl) ?_
    refine KT.step rfl rfl (K.extract rfl rfl) ?_
    refine KT.step rfl rfl (K.extract rfl rfl) ?_
    refine KT.step rfl rfl (K.extract rfl rfl) ?_
    refine KT.step rfl rfl (K.assign rfl) ?_
    refine KT.step rfl rfl (K.assign rfl) ?_
    refine KT.step rfl rfl (K.assign rfl) ?_
    refine KT.nil ?_
    refine thenK_n ?_
    refine KC.seq ?_
    refine KC.seq ?_
    refine KC.region ?_
    refine KT.step rfl rfl (K.move rfl) ?_
    refine KT.step rfl rfl (K.eqBest rfl Try.underlying33) ?_
    refine KT.nil ?_
    refine thenK_n ?_
    refine KC.cond rfl (fun hc17 => ?_) (fun hc17 => ?_)
    · skip
      obtain ⟨b1, b2, _⟩ := a1 (of_decide_eq_true hc17)
      have hb := of_decide_eq_true hc17
      refine KC.seq ?_
      refine KC.region ?_
      refine KT.step rfl rfl (K.assign rfl) ?_
      refine KT.step rfl rfl (K.assign rfl) ?_
      refine KT.nil ?_
      refine thenK_n ?_
      refine KC.ret ?_
      refine thenK_r ?_
      exact ⟨.inl rfl, _, rfl, by unfold rcD; rw [if_pos hv, hb, b1]; rfl⟩
    · skip
      obtain ⟨b1, b2, _⟩ := a2 (of_decide_eq_false hc17)
      refine KC.skip ?_
      refine thenK_n ?_
      refine KC.seq ?_
      refine KC.region ?_
      refine KT.step rfl rfl (K.move rfl) ?_
      refine KT.step rfl rfl (K.assign rfl) ?_
      refine KT.step rfl rfl (K.assign rfl) ?_
      refine KT.nil ?_
      refine thenK_n ?_
      refine KC.ret ?_
      exact ⟨.inl rfl, _, rfl, by unfold rcD; rw [if_pos hv, b1]; rfl⟩
set_option maxHeartbeats 1600000 in
set_option maxRecDepth 10000 in
theorem law4 {d : DV} {m : List (List Int)} (hd : Mat d m) (hl : m.length ≤ 9223372036854775807) (hr : ∀ r ∈ m, r.length ≤ 9223372036854775807) : DeepCall Try.prog 4 [d] (DB true) := by
  have hcr : Ints (crD (fewM m)) (crV m) := by have := cr_ints (fewM m); rwa [few_crV] at this
  refine deepCall_K 5 Try.func4 rfl (Nat.le_of_ble_eq_true rfl) fun M W0 => ?_
  refine KC.seq ?_
  refine KC.region ?_
  refine KT.step rfl rfl (K.assign rfl) ?_
  refine KT.nil ?_
  refine thenK_n ?_
  refine KC.seq ?_
  refine KC.region ?_
  refine KT.step rfl rfl (K.move rfl) ?_
  refine KT.step rfl rfl (K.call1 rfl plainTry_19 (rows19 hd hl (fun i hi => by rw [show m.getD i [] = m[i] by simp [hi]]; exact hr _ (List.getElem_mem hi)))) ?_
  refine KT.step rfl rfl (K.call1 rfl plainTry_25 (MeanF hd hl hr)) ?_
  refine KT.step rfl rfl (K.move rfl) ?_
  refine KT.step rfl rfl (K.extract rfl rfl) ?_
  refine KT.step rfl rfl (K.extract rfl rfl) ?_
  refine KT.step rfl rfl (K.extract rfl rfl) ?_
  refine KT.step rfl rfl (K.assign rfl) ?_
  refine KT.step rfl rfl (K.assign rfl) ?_
  refine KT.step rfl rfl (K.assign rfl) ?_
  refine KT.nil ?_
  refine thenK_n ?_
  refine KC.seq ?_
  refine KC.region ?_
  refine KT.step rfl rfl (K.move rfl) ?_
  refine KT.step rfl rfl (K.call1 rfl plainTry_26 (rMean26 hd hl hr)) ?_
  refine KT.step rfl rfl (K.move rfl) ?_
  refine KT.step rfl rfl (K.extract rfl rfl) ?_
  refine KT.step rfl rfl (K.extract rfl rfl) ?_
  refine KT.step rfl rfl (K.extract rfl rfl) ?_
  refine KT.step rfl rfl (K.assign rfl) ?_
  refine KT.step rfl rfl (K.assign rfl) ?_
  refine KT.step rfl rfl (K.assign rfl) ?_
  refine KT.nil ?_
  refine thenK_n ?_
  refine KC.seq ?_
  refine KC.region ?_
  refine KT.step rfl rfl (K.move rfl) ?_
  refine KT.step rfl rfl (K.call1 rfl plainTry_19 (rows19 hd hl (fun i hi => by rw [show m.getD i [] = m[i] by simp [hi]]; exact hr _ (List.getElem_mem hi)))) ?_
  refine KT.step rfl rfl (K.call1 rfl plainTry_27 (CriticalF hd hl hr)) ?_
  refine KT.step rfl rfl (K.move rfl) ?_
  refine KT.step rfl rfl (K.extract rfl rfl) ?_
  refine KT.step rfl rfl (K.extract rfl rfl) ?_
  refine KT.step rfl rfl (K.assign rfl) ?_
  refine KT.step rfl rfl (K.assign rfl) ?_
  refine KT.nil ?_
  refine thenK_n ?_
  refine KC.seq ?_
  refine KC.region ?_
  refine KT.step rfl rfl (K.move rfl) ?_
  refine KT.step rfl rfl (K.call1 rfl plainTry_28 (rCrit28 hd hl hr)) ?_
  refine KT.step rfl rfl (K.move rfl) ?_
  refine KT.step rfl rfl (K.extract rfl rfl) ?_
  refine KT.step rfl rfl (K.extract rfl rfl) ?_
  refine KT.step rfl rfl (K.assign rfl) ?_
  refine KT.step rfl rfl (K.assign rfl) ?_
  refine KT.nil ?_
  refine thenK_n ?_
  refine KC.seq ?_
  refine KC.region ?_
  refine KT.step rfl rfl (K.move rfl) ?_
  refine KT.step rfl rfl (K.move rfl) ?_
  refine KT.step rfl rfl (K.eql rfl rfl) ?_
  refine KT.step rfl rfl (K.move rfl) ?_
  refine KT.bcase (fun hb40 => ?_) (fun hb40 => ?_)
  · skip
    replace hb40 := of_decide_eq_true hb40
    refine KT.step rfl rfl (K.move rfl) ?_
    refine KT.step rfl rfl (K.move rfl) ?_
    refine KT.step rfl rfl (K.eql rfl rfl) ?_
    refine KT.step rfl rfl (K.pick rfl (fun _ => rfl) (fun h => by cases h)) ?_
    refine KT.step rfl rfl (K.move rfl) ?_
    refine KT.bcase (fun hb45 => ?_) (fun hb45 => ?_)
    · skip
      replace hb45 := of_decide_eq_true hb45
      refine KT.step rfl rfl (K.move rfl) ?_
      refine KT.step rfl rfl (K.move rfl) ?_
      refine KT.step rfl rfl (K.eql rfl rfl) ?_
      refine KT.step rfl rfl (K.pick rfl (fun _ => rfl) (fun h => by cases h)) ?_
      refine KT.step rfl rfl (K.move rfl) ?_
      refine KT.bcase (fun hb50 => ?_) (fun hb50 => ?_)
      · skip
        replace hb50 := of_decide_eq_true hb50
        refine KT.step rfl rfl (K.move rfl) ?_
        refine KT.step rfl rfl (K.move rfl) ?_
        refine KT.step rfl rfl (K.call2 rfl rfl plainTry_29 (equal29 hcr (rcD_ints m) crV_len)) ?_
        refine KT.step rfl rfl (K.pick rfl (fun _ => rfl) (fun h => by cases h)) ?_
        refine KT.step rfl rfl (K.move rfl) ?_
        refine KT.bcase (fun hb55 => ?_) (fun hb55 => ?_)
        · skip
          refine KT.step rfl rfl (K.move rfl) ?_
          refine KT.step rfl rfl (K.move rfl) ?_
          refine KT.step rfl rfl (K.eql rfl rfl) ?_
          refine KT.step rfl rfl (K.pick rfl (fun _ => rfl) (fun h => by cases h)) ?_
          refine KT.step rfl rfl (K.move rfl) ?_
          refine KT.bcase (fun hb60 => ?_) (fun hb60 => ?_)
          · skip
            replace hb60 := of_decide_eq_true hb60
            refine KT.step rfl rfl (K.call0 plainTry_24 (awake24)) ?_
            refine KT.step rfl rfl (K.pick rfl (fun _ => rfl) (fun h => by cases h)) ?_
            refine KT.step rfl rfl (K.assign rfl) ?_
            refine KT.nil ?_
            refine thenK_n ?_
            refine KC.ret ?_
            exact ⟨.inl rfl, _, rfl, rfl⟩
          · skip
            exact absurd rfl (of_decide_eq_false hb60)
        · skip
          exact absurd rfl (of_decide_eq_false hb55)
      · skip
        exact absurd rfl (of_decide_eq_false hb50)
    · skip
      exact absurd rfl (of_decide_eq_false hb45)
  · skip
    exact absurd rfl (of_decide_eq_false hb40)
end Go.Proofs.Ythbnnffmhnjpjaa

