/-
  The law CycleMuls.
-/
import Derived.Test.YthbnnffmhnjpjaaCyE
namespace Go.Proofs.Ythbnnffmhnjpjaa
open Go.Vm Go.Cy
set_option maxRecDepth 10000 in
theorem law3 {d e : DV} {m m2 : List (List Int)} {k : Int} (hd : Mat d m) (hl : m.length ≤ 9223372036854775807) (hr : ∀ r ∈ m, r.length ≤ 9223372036854775807) (he : Mat e m2) (hl2 : m2.length ≤ 9223372036854775807) (hr2 : ∀ r ∈ m2, r.length ≤ 9223372036854775807) : DeepCall Try.prog 3 [d, e, DI k] (DB true) := by
  obtain ⟨f1, f2⟩ := few_mulM m m2
  obtain ⟨g1, g2⟩ := few_powM m k
  refine deepCall_K 5 Try.func3 rfl (Nat.le_of_ble_eq_true rfl) fun M W0 => ?_
  refine KC.seq ?_
  refine KC.region ?_
  refine KT.step rfl rfl (K.assign rfl) ?_
  refine KT.nil ?_
  refine thenK_n ?_
  refine KC.seq ?_
  refine KC.region ?_
  refine KT.step rfl rfl (K.move rfl) ?_
  refine KT.step rfl rfl (K.call1 rfl plainTry_19 (rows19 hd hl (fun i hi => by rw [show m.getD i [] = m[i] by simp [hi]]; exact hr _ (List.getElem_mem hi)))) ?_
  refine KT.step rfl rfl (K.move rfl) ?_
  refine KT.step rfl rfl (K.call1 rfl plainTry_19 (rows19 he hl2 (fun i hi => by rw [show m2.getD i [] = m2[i] by simp [hi]]; exact hr2 _ (List.getElem_mem hi)))) ?_
  refine KT.step rfl rfl (K.call2 rfl rfl plainTry_18 (mul18 (show Mat (rows8 m d) (fewM m) from rows8_mat hd) (few_len m).1 (few_len m).2 (show Mat (rows8 m2 e) (fewM m2) from rows8_mat he) (few_len m2).1 (few_len m2).2)) ?_
  refine KT.step rfl rfl (K.move rfl) ?_
  refine KT.step rfl rfl (K.extract rfl rfl) ?_
  refine KT.step rfl rfl (K.extract rfl rfl) ?_
  refine KT.step rfl rfl (K.assign rfl) ?_
  refine KT.step rfl rfl (K.assign rfl) ?_
  refine KT.nil ?_
  refine thenK_n ?_
  refine KC.seq ?_
  refine KC.region ?_
  refine KT.step rfl rfl (K.move rfl) ?_
  refine KT.step rfl rfl (K.move rfl) ?_
  refine KT.step rfl rfl (K.call2 rfl rfl plainTry_20 (rmul20 hd hl hr he hl2 hr2)) ?_
  refine KT.step rfl rfl (K.move rfl) ?_
  refine KT.step rfl rfl (K.extract rfl rfl) ?_
  refine KT.step rfl rfl (K.extract rfl rfl) ?_
  refine KT.step rfl rfl (K.assign rfl) ?_
  refine KT.step rfl rfl (K.assign rfl) ?_
  refine KT.nil ?_
  refine thenK_n ?_
  refine KC.seq ?_
  refine KC.region ?_
  refine KT.step rfl rfl (K.move rfl) ?_
  refine KT.step rfl rfl (K.call1 rfl plainTry_19 (rows19 hd hl (fun i hi => by rw [show m.getD i [] = m[i] by simp [hi]]; exact hr _ (List.getElem_mem hi)))) ?_
  refine KT.step rfl rfl (K.move rfl) ?_
  refine KT.step rfl rfl (K.call2 rfl rfl plainTry_21 (pow21 (show Mat (rows8 m d) (fewM m) from rows8_mat hd) (few_len m).1 (few_len m).2)) ?_
  refine KT.step rfl rfl (K.move rfl) ?_
  refine KT.step rfl rfl (K.extract rfl rfl) ?_
  refine KT.step rfl rfl (K.extract rfl rfl) ?_
  refine KT.step rfl rfl (K.assign rfl) ?_
  refine KT.step rfl rfl (K.assign rfl) ?_
  refine KT.nil ?_
  refine thenK_n ?_
  refine KC.seq ?_
  refine KC.region ?_
  refine KT.step rfl rfl (K.move rfl) ?_
  refine KT.step rfl rfl (K.move rfl) ?_
  refine KT.step rfl rfl (K.call2 rfl rfl plainTry_22 (rpw22 hd hl hr)) ?_
  refine KT.step rfl rfl (K.move rfl) ?_
  refine KT.step rfl rfl (K.extract rfl rfl) ?_
  refine KT.step rfl rfl (K.extract rfl rfl) ?_
  refine KT.step rfl rfl (K.assign rfl) ?_
  refine KT.step rfl rfl (K.assign rfl) ?_
  refine KT.nil ?_
  refine thenK_n ?_
  refine KC.seq ?_
  refine KC.region ?_
  refine KT.step rfl rfl (K.move rfl) ?_
  refine KT.step rfl rfl (K.move rfl) ?_
  refine KT.step rfl rfl (K.call2 rfl rfl plainTry_23 (same23 (mulD_mat _ _) (mulR_mat _ _) (mulM_len _ _).1 (mulM_len _ _).2)) ?_
  refine KT.step rfl rfl (K.move rfl) ?_
  refine KT.bcase (fun hb45 => ?_) (fun hb45 => ?_)
  · skip
    refine KT.step rfl rfl (K.move rfl) ?_
    refine KT.step rfl rfl (K.move rfl) ?_
    refine KT.step rfl rfl (K.eql rfl rfl) ?_
    refine KT.step rfl rfl (K.pick rfl (fun _ => rfl) (fun h => by cases h)) ?_
    refine KT.step rfl rfl (K.move rfl) ?_
    refine KT.bcase (fun hb50 => ?_) (fun hb50 => ?_)
    · skip
      replace hb50 := of_decide_eq_true hb50
      refine KT.step rfl rfl (K.move rfl) ?_
      refine KT.step rfl rfl (K.move rfl) ?_
      refine KT.step rfl rfl (K.call2 rfl rfl plainTry_23 (same23 (powD_mat _ _) (powR_mat _ _) (powM_len _ _).1 (powM_len _ _).2)) ?_
      refine KT.step rfl rfl (K.pick rfl (fun _ => rfl) (fun h => by cases h)) ?_
      refine KT.step rfl rfl (K.move rfl) ?_
      refine KT.bcase (fun hb55 => ?_) (fun hb55 => ?_)
      · skip
        refine KT.step rfl rfl (K.move rfl) ?_
        refine KT.step rfl rfl (K.move rfl) ?_
        refine KT.step rfl rfl (K.eql rfl rfl) ?_
        refine KT.step rfl rfl (K.pick rfl (fun _ => rfl) (fun h => by cases h)) ?_
        refine KT.step rfl rfl (K.move rfl) ?_
        refine KT.bcase (fun hb60 => ?_) (fun hb60 => ?_)
        · skip
          replace hb60 := of_decide_eq_true hb60
          refine KT.step rfl rfl (K.call0 plainTry_24 (awake24)) ?_
          refine KT.step rfl rfl (K.pick rfl (fun _ => rfl) (fun h => by cases h)) ?_
          refine KT.step rfl rfl (K.assign rfl) ?_
          refine KT.nil ?_
          refine thenK_n ?_
          refine KC.ret ?_
          exact ⟨.inl rfl, _, rfl, rfl⟩
        · skip
          exact absurd g2 (of_decide_eq_false hb60)
      · skip
        exact absurd g1 (of_decide_eq_false hb55)
    · skip
      exact absurd f2 (of_decide_eq_false hb50)
  · skip
    exact absurd f1 (of_decide_eq_false hb45)
end Go.Proofs.Ythbnnffmhnjpjaa
