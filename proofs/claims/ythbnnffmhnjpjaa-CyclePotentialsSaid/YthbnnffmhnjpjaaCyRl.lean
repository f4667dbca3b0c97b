import Derived.Test.YthbnnffmhnjpjaaCyRj
/-
  Times: the law CyclePotentials.
-/
namespace Go.Proofs.Ythbnnffmhnjpjaa
open Go.Vm Go.Cy Go.RowKit
theorem plainTry_5 : plainFn Try.prog 5 = true := by kernel_rfl

theorem pot_holds {m : List (List Int)} (h0 : measE m = 0) : (wideB (measF m).1 (measF m).2 && potB m.length (mf m) (poV m) (measF m).1 (measF m).2) = true := by
  have h := check_self h0
  obtain ⟨hv, h1, h2, h3, _⟩ := check_parts h
  have hw : wideB (measF m).1 (measF m).2 = true := wideB_iff.2 ⟨h1, h2, h3⟩
  unfold checkB at h
  simp only [Bool.and_eq_true] at h
  rw [hw, Bool.true_and]
  simp_all
theorem po_nil {m : List (List Int)} (h0 : measE m ≠ 0) : poV m = [] := by unfold poV; rw [if_neg h0]
set_option maxHeartbeats 1600000 in
set_option maxRecDepth 10000 in
theorem law5 {d : DV} {m : List (List Int)} (hd : Mat d m) (hl : m.length ≤ 9223372036854775807) (hr : ∀ r ∈ m, r.length ≤ 9223372036854775807) : DeepCall Try.prog 5 [d] (DB true) := by
  have hpo : Ints (poD (fewM m)) (poV m) := by have := po_ints (fewM m); rwa [few_poV] at this
  refine deepCall_K 5 Try.func5 rfl (Nat.le_of_ble_eq_true rfl) fun M W0 => ?_
  refine KC.seq ?_
  refine KC.region ?_
  refine KT.step rfl rfl (K.assign rfl) ?_
  refine KT.nil ?_
  refine thenK_n ?_
  refine KC.seq ?_
  refine KC.region ?_
  refine KT.step rfl rfl (K.move rfl) ?_
  refine KT.step rfl rfl (K.call1 rfl plainTry_19 (rows19 hd hl (fun i hi => by rw [show m.getD i [] = m[i] by simp [hi]]; exact hr _ (List.getElem_mem hi)))) ?_
  refine KT.step rfl rfl (K.call1 rfl plainTry_30 (PotentialF hd hl hr)) ?_
  refine KT.step rfl rfl (K.move rfl) ?_
  refine KT.step rfl rfl (K.extract rfl rfl) ?_
  refine KT.step rfl rfl (K.extract rfl rfl) ?_
  refine KT.step rfl rfl (K.assign rfl) ?_
  refine KT.step rfl rfl (K.assign rfl) ?_
  refine KT.nil ?_
  refine thenK_n ?_
  refine KC.seq ?_
  refine KC.region ?_
  refine KT.step rfl rfl (K.move rfl) ?_
  refine KT.step rfl rfl (K.call1 rfl plainTry_26 (rMean26 hd hl hr)) ?_
  refine KT.step rfl rfl (K.move rfl) ?_
  refine KT.step rfl rfl (K.extract rfl rfl) ?_
  refine KT.step rfl rfl (K.extract rfl rfl) ?_
  refine KT.step rfl rfl (K.extract rfl rfl) ?_
  refine KT.step rfl rfl (K.assign rfl) ?_
  refine KT.step rfl rfl (K.assign rfl) ?_
  refine KT.step rfl rfl (K.assign rfl) ?_
  refine KT.nil ?_
  refine thenK_n ?_
  refine KC.seq ?_
  refine KC.seq ?_
  refine KC.region ?_
  refine KT.step rfl rfl (K.move rfl) ?_
  refine KT.step rfl rfl (K.neq rfl rfl) ?_
  refine KT.nil ?_
  refine thenK_n ?_
  refine KC.cond rfl (fun hc21 => ?_) (fun hc21 => ?_)
  · skip
    replace hc21 := of_decide_eq_true hc21
    have hz : measE m ≠ 0 := hc21
    refine KC.seq ?_
    refine KC.region ?_
    refine KT.step rfl rfl (K.move rfl) ?_
    refine KT.step rfl rfl (K.len rfl hpo Try.underlying33) ?_
    refine KT.step rfl rfl (K.eql rfl rfl) ?_
    refine KT.step rfl rfl (K.move rfl) ?_
    refine KT.bcase (fun hb25 => ?_) (fun hb25 => ?_)
    · skip
      replace hb25 := of_decide_eq_true hb25
      refine KT.step rfl rfl (K.move rfl) ?_
      refine KT.step rfl rfl (K.move rfl) ?_
      refine KT.step rfl rfl (K.eql rfl rfl) ?_
      refine KT.step rfl rfl (K.pick rfl (fun _ => rfl) (fun h => by cases h)) ?_
      refine KT.step rfl rfl (K.move rfl) ?_
      refine KT.bcase (fun hb30 => ?_) (fun hb30 => ?_)
      · skip
        replace hb30 := of_decide_eq_true hb30
        refine KT.step rfl rfl (K.call0 plainTry_24 (awake24)) ?_
        refine KT.step rfl rfl (K.pick rfl (fun _ => rfl) (fun h => by cases h)) ?_
        refine KT.step rfl rfl (K.assign rfl) ?_
        refine KT.nil ?_
        refine thenK_n ?_
        refine KC.ret ?_
        refine thenK_r ?_
        exact ⟨.inl rfl, _, rfl, rfl⟩
      · skip
        exact absurd rfl (of_decide_eq_false hb30)
    · skip
      exact absurd (by rw [po_nil hz]; rfl) (of_decide_eq_false hb25)
  · skip
    replace hc21 := of_decide_eq_false hc21
    have hz : measE m = 0 := by omega
    obtain ⟨hv, _⟩ := meas_inv hz
    obtain ⟨sm, p3⟩ := Cy.Small.of hv
    have hd' : Mat d (genM m.length m.length (mf m)) := p3 ▸ hd
    refine KC.skip ?_
    refine thenK_n ?_
    refine KC.seq ?_
    refine KC.region ?_
    refine KT.step rfl rfl (K.move rfl) ?_
    refine KT.step rfl rfl (K.eql rfl rfl) ?_
    refine KT.step rfl rfl (K.move rfl) ?_
    refine KT.bcase (fun hb35 => ?_) (fun hb35 => ?_)
    · skip
      replace hb35 := of_decide_eq_true hb35
      refine KT.step rfl rfl (K.move rfl) ?_
      refine KT.step rfl rfl (K.move rfl) ?_
      refine KT.step rfl rfl (K.move rfl) ?_
      refine KT.step rfl rfl (K.move rfl) ?_
      refine KT.step rfl rfl (K.call4 rfl rfl rfl rfl plainTry_31 (holds31 hd' hpo poV_len sm.n1 (by have := sm.n6; omega) (fun i j => (sm.ga i j).mono (by omega)))) ?_
      refine KT.step rfl rfl (K.pick rfl (fun _ => rfl) (fun h => by cases h)) ?_
      refine KT.step rfl rfl (K.move rfl) ?_
      refine KT.bcase (fun hb42 => ?_) (fun hb42 => ?_)
      · skip
        refine KT.step rfl rfl (K.call0 plainTry_24 (awake24)) ?_
        refine KT.step rfl rfl (K.pick rfl (fun _ => rfl) (fun h => by cases h)) ?_
        refine KT.step rfl rfl (K.assign rfl) ?_
        refine KT.nil ?_
        refine thenK_n ?_
        refine KC.ret ?_
        exact ⟨.inl rfl, _, rfl, rfl⟩
      · skip
        rw [pot_holds hz] at hb42
        cases hb42
    · skip
      exact absurd hz (of_decide_eq_false hb35)
end Go.Proofs.Ythbnnffmhnjpjaa

