import Derived.Test.YthbnnffmhnjpjaaCyRt
/-
  Times: the reference: Star; the law CycleStars.
-/
namespace Go.Proofs.Ythbnnffmhnjpjaa
open Go.Vm Go.Cy Go.RowKit
theorem K.neqBest {P : Program} {σ : List VObj} {kn : Kn} {dst : Option Tmp} {ty : TypeId} {pos : String} {af : Array Edge} {g : Option (Nat × Bool)} {x : Operand} {t u e : TypeId} {b : List Nat} (hx : evK kn x = some (.d (bestD b))) (ht : P.underlying t = some (.slice e)) :
    KEv P ⟨dst, .binOp .neq t x (.const (.slice none 0 0)) u, ty, pos, af, g⟩ σ kn (.d (DB (decide (b ≠ [])))) σ 0 := by
  by_cases h : b = []
  · subst h; exact K.neqNilNil9 hx ht
  · rw [decide_eq_true h]
    unfold bestD at hx
    rw [if_neg h] at hx
    exact K.neqSl9 hx ht
/-- The star as the reference has it. -/
def rstD (m : List (List Int)) : DV := if starE m = 0 then genS m.length (waysI m.length (mf m)) m.length else Dnil
theorem rstD_mat (m : List (List Int)) : Mat (rstD m) (starM m) := by unfold rstD starM; split; exact genS_mat; exact .nil
theorem starM_len (m : List (List Int)) (hl : m.length ≤ 9223372036854775807) : (starM m).length ≤ 9223372036854775807 ∧ ∀ r ∈ starM m, r.length ≤ 9223372036854775807 := by
  unfold starM; split
  · refine ⟨by simp [genM]; exact hl, fun r hr => ?_⟩
    obtain ⟨i, _, rfl⟩ := List.mem_map.1 hr
    simp; exact hl
  · exact ⟨by simp, fun r hr => by simp at hr⟩
theorem few_star (m : List (List Int)) : starE (fewM m) = starE m ∧ starM (fewM m) = starM m := by
  by_cases hv : validB 1000 m = true
  · rw [few_valid hv]; exact ⟨rfl, rfl⟩
  · have h1 : validB 1000 m = false := Bool.eq_false_iff.2 hv
    have h2 : validB 1000 (fewM m) = false := by rw [few_validB]; exact h1
    have e1 : starE m = 2 := by unfold starE; rw [h1]; rfl
    have e2 : starE (fewM m) = 2 := by unfold starE; rw [h2]; rfl
    refine ⟨by rw [e1, e2], ?_⟩
    unfold starM; rw [e1, e2]; rfl
theorem StarF2 {d : DV} {m : List (List Int)} (hd : Mat d m) (_ : m.length ≤ 9223372036854775807) (_ : ∀ r ∈ m, r.length ≤ 9223372036854775807) : DeepCall Try.prog 34 [rows8 m d] (.tup [starD (fewM m), DI (starE m)]) := by
  have h := Star34 (d := rows8 m d) (m := fewM m) (rows8_mat hd) (few_len m).1 (few_len m).2
  rw [(few_star m).1] at h
  exact h
set_option maxRecDepth 10000 in
theorem rStar35 {d : DV} {m : List (List Int)} (hd : Mat d m) (hl : m.length ≤ 9223372036854775807) (hr : ∀ r ∈ m, r.length ≤ 9223372036854775807) : DeepCall Try.prog 35 [d] (.tup [rstD m, DI (starE m)]) := by
  refine deepCall_K 5 Try.func35 rfl (Nat.le_of_ble_eq_true rfl) fun M W0 => ?_
  refine KC.seq ?_
  refine KC.region ?_
  refine KT.step rfl rfl (K.assign rfl) ?_
  refine KT.step rfl rfl (K.assign rfl) ?_
  refine KT.nil ?_
  refine thenK_n ?_
  refine KC.seq ?_
  refine KC.seq ?_
  refine KC.region ?_
  refine KT.step rfl rfl (K.move rfl) ?_
  refine KT.step rfl rfl (K.call1 rfl plainTry_38 (small38 hd hl hr)) ?_
  refine KT.step rfl rfl (K.not rfl) ?_
  refine KT.nil ?_
  refine thenK_n ?_
  refine KC.cond rfl (fun hc9 => ?_) (fun hc9 => ?_)
  · skip
    have hv : validB 1000 m = false := by rw [Bool.not_eq_true'] at hc9; exact hc9
    obtain ⟨e1, e2, _⟩ := meas_no hv
    refine KC.seq ?_
    refine KC.region ?_
    refine KT.step rfl rfl (K.assign rfl) ?_
    refine KT.step rfl rfl (K.assign rfl) ?_
    refine KT.nil ?_
    refine thenK_n ?_
    refine KC.ret ?_
    refine thenK_r ?_
    have e : starE m = 2 := by unfold starE; rw [hv]; rfl
    exact ⟨.inl rfl, _, rfl, by unfold rstD; rw [e]; rfl⟩
  · skip
    have hv : validB 1000 m = true := by rw [Bool.not_eq_false'] at hc9; exact hc9
    obtain ⟨sm, p3⟩ := Cy.Small.of hv
    have n1 := sm.n1
    have n6 := sm.n6
    have hd' : Mat d (genM m.length m.length (mf m)) := p3 ▸ hd
    obtain ⟨a1, a2⟩ := mean_parts hv
    refine KC.skip ?_
    refine thenK_n ?_
    refine KC.seq ?_
    refine KC.seq ?_
    refine KC.region ?_
    refine KT.step rfl rfl (K.move rfl) ?_
    refine KT.step rfl rfl (K.call1 rfl plainTry_57 (rmean57 (extended102 n6) hd' n1 n6 sm.ga)) ?_
    refine KT.step rfl rfl (K.move rfl) ?_
    refine KT.step rfl rfl (K.extract rfl rfl) ?_
    refine KT.step rfl rfl (K.extract rfl rfl) ?_
    refine KT.step rfl rfl (K.extract rfl rfl) ?_
    refine KT.step rfl rfl (K.assign rfl) ?_
    refine KT.step rfl rfl (K.assign rfl) ?_
    refine KT.step rfl rfl (K.assign rfl) ?_
    refine KT.nil ?_
    refine thenK_n ?_
    refine KC.seq ?_
    refine KC.region ?_
    refine KT.step rfl rfl (K.move rfl) ?_
    refine KT.step rfl rfl (K.neqBest rfl Try.underlying33) ?_
    refine KT.step rfl rfl (K.move rfl) ?_
    refine KT.bcase (fun hb18 => ?_) (fun hb18 => ?_)
    · skip
      refine KT.step rfl rfl (K.move rfl) ?_
      refine KT.step rfl rfl (K.gtr rfl rfl) ?_
      refine KT.step rfl rfl (K.pick rfl (fun _ => rfl) (fun h => by cases h)) ?_
      refine KT.nil ?_
      refine thenK_n ?_
      refine KC.cond rfl (fun hc21 => ?_) (fun hc21 => ?_)
      · skip
        replace hc21 := of_decide_eq_true hc21
        refine KC.seq ?_
        refine KC.region ?_
        refine KT.step rfl rfl (K.assign rfl) ?_
        refine KT.step rfl rfl (K.assign rfl) ?_
        refine KT.nil ?_
        refine thenK_n ?_
        refine KC.ret ?_
        refine thenK_r ?_
        obtain ⟨b1, b2, _⟩ := a2 (of_decide_eq_true hb18)
        have e : starE m = 8 := by unfold starE; rw [hv, if_pos rfl, b2, if_pos hc21]
        exact ⟨.inl rfl, _, rfl, by unfold rstD; rw [e]; rfl⟩
      · skip
        replace hc21 := of_decide_eq_false hc21
        refine KC.skip ?_
        refine thenK_n ?_
        refine KC.seq ?_
        refine KC.region ?_
        refine KT.step rfl rfl (K.move rfl) ?_
        refine KT.step rfl rfl (K.call1 rfl plainTry_67 ((by have h := rstar67 hd' n1 n6 sm.ga (by omega); rw [sm.cur_ways] at h; exact h))) ?_
        refine KT.step rfl rfl (K.assign rfl) ?_
        refine KT.step rfl rfl (K.assign rfl) ?_
        refine KT.nil ?_
        refine thenK_n ?_
        refine KC.ret ?_
        obtain ⟨b1, b2, _⟩ := a2 (of_decide_eq_true hb18)
        have e : starE m = 0 := by unfold starE; rw [hv, if_pos rfl, b2, if_neg hc21]
        exact ⟨.inl rfl, _, rfl, by unfold rstD; rw [e]; rfl⟩
    · skip
      refine KT.skip rfl rfl ?_
      refine KT.skip rfl rfl ?_
      refine KT.step rfl rfl (K.pick rfl (fun h => by cases h) (fun _ => rfl)) ?_
      refine KT.nil ?_
      refine thenK_n ?_
      refine KC.cond rfl (fun hc21 => ?_) (fun hc21 => ?_)
      · cases hc21
      · skip
        refine KC.skip ?_
        refine thenK_n ?_
        refine KC.seq ?_
        refine KC.region ?_
        refine KT.step rfl rfl (K.move rfl) ?_
        refine KT.step rfl rfl (K.call1 rfl plainTry_67 ((by have h := rstar67 hd' n1 n6 sm.ga (by omega); rw [sm.cur_ways] at h; exact h))) ?_
        refine KT.step rfl rfl (K.assign rfl) ?_
        refine KT.step rfl rfl (K.assign rfl) ?_
        refine KT.nil ?_
        refine thenK_n ?_
        refine KC.ret ?_
        obtain ⟨b1, b2, _⟩ := a1 (Classical.not_not.1 (of_decide_eq_false hb18))
        have e : starE m = 0 := by unfold starE; rw [hv, if_pos rfl, b2]; rfl
        exact ⟨.inl rfl, _, rfl, by unfold rstD; rw [e]; rfl⟩
set_option maxRecDepth 10000 in
theorem law8 {d : DV} {m : List (List Int)} (hd : Mat d m) (hl : m.length ≤ 9223372036854775807) (hr : ∀ r ∈ m, r.length ≤ 9223372036854775807) : DeepCall Try.prog 8 [d] (DB true) := by
  have hS : Mat (starD (fewM m)) (starM m) := by have h := starD_mat (fewM m); rwa [(few_star m).2] at h
  refine deepCall_K 5 Try.func8 rfl (Nat.le_of_ble_eq_true rfl) fun M W0 => ?_
  refine KC.seq ?_
  refine KC.region ?_
  refine KT.step rfl rfl (K.assign rfl) ?_
  refine KT.nil ?_
  refine thenK_n ?_
  refine KC.seq ?_
  refine KC.region ?_
  refine KT.step rfl rfl (K.move rfl) ?_
  refine KT.step rfl rfl (K.call1 rfl plainTry_19 (rows19 hd hl (fun i hi => by rw [show m.getD i [] = m[i] by simp [hi]]; exact hr _ (List.getElem_mem hi)))) ?_
  refine KT.step rfl rfl (K.call1 rfl plainTry_34 (StarF2 hd hl hr)) ?_
  refine KT.step rfl rfl (K.move rfl) ?_
  refine KT.step rfl rfl (K.extract rfl rfl) ?_
  refine KT.step rfl rfl (K.extract rfl rfl) ?_
  refine KT.step rfl rfl (K.assign rfl) ?_
  refine KT.step rfl rfl (K.assign rfl) ?_
  refine KT.nil ?_
  refine thenK_n ?_
  refine KC.seq ?_
  refine KC.region ?_
  refine KT.step rfl rfl (K.move rfl) ?_
  refine KT.step rfl rfl (K.call1 rfl plainTry_35 (rStar35 hd hl hr)) ?_
  refine KT.step rfl rfl (K.move rfl) ?_
  refine KT.step rfl rfl (K.extract rfl rfl) ?_
  refine KT.step rfl rfl (K.extract rfl rfl) ?_
  refine KT.step rfl rfl (K.assign rfl) ?_
  refine KT.step rfl rfl (K.assign rfl) ?_
  refine KT.nil ?_
  refine thenK_n ?_
  refine KC.seq ?_
  refine KC.region ?_
  refine KT.step rfl rfl (K.move rfl) ?_
  refine KT.step rfl rfl (K.move rfl) ?_
  refine KT.step rfl rfl (K.call2 rfl rfl plainTry_23 (same23 hS (rstD_mat m) (starM_len m hl).1 (starM_len m hl).2)) ?_
  refine KT.step rfl rfl (K.move rfl) ?_
  refine KT.bcase (fun hb21 => ?_) (fun hb21 => ?_)
  · skip
    refine KT.step rfl rfl (K.move rfl) ?_
    refine KT.step rfl rfl (K.move rfl) ?_
    refine KT.step rfl rfl (K.eql rfl rfl) ?_
    refine KT.step rfl rfl (K.pick rfl (fun _ => rfl) (fun h => by cases h)) ?_
    refine KT.step rfl rfl (K.move rfl) ?_
    refine KT.bcase (fun hb26 => ?_) (fun hb26 => ?_)
    · skip
      replace hb26 := of_decide_eq_true hb26
      refine KT.step rfl rfl (K.call0 plainTry_24 (awake24)) ?_
      refine KT.step rfl rfl (K.pick rfl (fun _ => rfl) (fun h => by cases h)) ?_
      refine KT.step rfl rfl (K.assign rfl) ?_
      refine KT.nil ?_
      refine thenK_n ?_
      refine KC.ret ?_
      exact ⟨.inl rfl, _, rfl, fin_d rfl⟩
    · skip
      exact absurd rfl (of_decide_eq_false hb26)
  · skip
    exact absurd rfl (of_decide_eq_false hb21)
end Go.Proofs.Ythbnnffmhnjpjaa

