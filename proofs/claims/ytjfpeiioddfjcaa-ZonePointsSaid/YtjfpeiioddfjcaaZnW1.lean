import Derived.Test.YtjfpeiioddfjcaaZnWe
/-
  Zones: the law ZonePoints.
-/
namespace Go.Proofs.Ytjfpeiioddfjcaa
open Go.Vm Go.Zn
theorem plainTry_5 : plainFn Try.prog 5 = true := by kernel_rfl

theorem neq_no {a b : Bool} (h : a = b) (h2 : (!(a == b)) = true) : False := by subst h; cases a <;> cases h2
theorem few_in {z w : List (List Int)} : inE (fewZ z) (fewZ w) = inE z w ∧ inB (fewZ z) (fewZ w) = inB z w := by
  cases hz : validZ z with
  | true => cases hw : validZ w with
    | true => rw [few_id hz, few_id hw]; exact ⟨rfl, rfl⟩
    | false =>
      have h1 : inOk z w = false := by unfold inOk; rw [hw, Bool.and_false]; rfl
      have h2 : inOk (fewZ z) (fewZ w) = false := by unfold inOk; rw [few_bad hw, Bool.and_false]; rfl
      unfold inE inB
      rw [h1, h2]; exact ⟨rfl, rfl⟩
  | false =>
    have h1 : inOk z w = false := by unfold inOk; rw [hz]; rfl
    have h2 : inOk (fewZ z) (fewZ w) = false := by unfold inOk; rw [few_bad hz]; rfl
    unfold inE inB
    rw [h1, h2]; exact ⟨rfl, rfl⟩
theorem few_has {z : List (List Int)} {p : List Int} : hasE (fewZ z) p = hasE z p ∧ hasB (fewZ z) p = hasB z p := by
  cases hz : validZ z with
  | true => rw [few_id hz]; exact ⟨rfl, rfl⟩
  | false =>
    have h1 : hasOk z p = false := by unfold hasOk; rw [hz]; rfl
    have h2 : hasOk (fewZ z) p = false := by unfold hasOk; rw [few_bad hz]; rfl
    unfold hasE hasB
    rw [h1, h2]; exact ⟨rfl, rfl⟩
theorem few_pt {z : List (List Int)} : tgE (fewZ z) = tgE z ∧ ptL (fewZ z) = ptL z := by
  cases hz : validZ z with
  | true => rw [few_id hz]; exact ⟨rfl, rfl⟩
  | false =>
    have h1 := tgE_bad (bad_of hz)
    have h2 := tgE_bad (bad_of (few_bad hz))
    unfold ptL
    rw [h1, h2]; exact ⟨rfl, rfl⟩
set_option maxRecDepth 10000 in
theorem law5 {d e f : DV} {z w : List (List Int)} {p : List Int} (hd : Mat d z) (hl : z.length ≤ 9223372036854775807) (hr : ∀ r ∈ z, r.length ≤ 9223372036854775807) (he : Mat e w) (hl2 : w.length ≤ 9223372036854775807) (hr2 : ∀ r ∈ w, r.length ≤ 9223372036854775807) (hf : Ints f p) (hlp : p.length ≤ 9223372036854775807) : DeepCall Try.prog 5 [d, e, f] (DB true) := by
  have fz := few_len z
  have fw := few_len w
  have kz := fewZ_len z
  have hmz := few_mat hd
  have hmw := few_mat he
  obtain ⟨a1, a2⟩ := few_in (z := z) (w := w)
  obtain ⟨b1, b2⟩ := few_has (z := z) (p := p)
  obtain ⟨c1, c2⟩ := few_pt (z := z)
  generalize hZ : fewZ z = Z at *
  generalize hW : fewZ w = W at *
  refine deepCall_K 5 Try.func5 rfl (Nat.le_of_ble_eq_true rfl) fun M W0 => ?_
  refine KC.seq ?_
  refine KC.region ?_
  refine KT.step rfl rfl (K.assign rfl) ?_
  refine KT.nil ?_
  refine thenK_n ?_
  refine KC.seq ?_
  refine KC.region ?_
  refine KT.step rfl rfl (K.move rfl) ?_
  refine KT.step rfl rfl (K.call1 rfl plainTry_16 (few16 hd hl hr)) ?_
  refine KT.step rfl rfl (K.move rfl) ?_
  refine KT.step rfl rfl (K.call1 rfl plainTry_16 (few16 he hl2 hr2)) ?_
  refine KT.step rfl rfl (K.call2 rfl rfl plainTry_29 (Includes29 hmz fz.1 fz.2 hmw fw.1 fw.2)) ?_
  refine KT.step rfl rfl (K.move rfl) ?_
  refine KT.step rfl rfl (K.extract rfl rfl) ?_
  refine KT.step rfl rfl (K.extract rfl rfl) ?_
  refine KT.step rfl rfl (K.assign rfl) ?_
  refine KT.step rfl rfl (K.assign rfl) ?_
  refine KT.nil ?_
  refine thenK_n ?_
  refine KC.seq ?_
  refine KC.region ?_
  refine KT.step rfl rfl (K.move rfl) ?_
  refine KT.step rfl rfl (K.move rfl) ?_
  refine KT.step rfl rfl (K.call2 rfl rfl plainTry_30 (rIncludes30 hd hl hr he hl2 hr2)) ?_
  refine KT.step rfl rfl (K.move rfl) ?_
  refine KT.step rfl rfl (K.extract rfl rfl) ?_
  refine KT.step rfl rfl (K.extract rfl rfl) ?_
  refine KT.step rfl rfl (K.assign rfl) ?_
  refine KT.step rfl rfl (K.assign rfl) ?_
  refine KT.nil ?_
  refine thenK_n ?_
  refine KC.seq ?_
  refine KC.seq ?_
  refine KC.region ?_
  refine KT.step rfl rfl (K.move rfl) ?_
  refine KT.step rfl rfl (K.move rfl) ?_
  refine KT.step rfl rfl (K.neqB Try.underlying4 rfl rfl) ?_
  refine KT.step rfl rfl (K.move rfl) ?_
  refine KT.bcase (fun hb32 => ?_) (fun hb32 => ?_)
  · skip
    exact (neq_no a2 hb32).elim
  · skip
    refine KT.step rfl rfl (K.move rfl) ?_
    refine KT.step rfl rfl (K.move rfl) ?_
    refine KT.step rfl rfl (K.neq rfl rfl) ?_
    refine KT.step rfl rfl (K.pick rfl (fun h => by cases h) (fun _ => rfl)) ?_
    refine KT.step rfl rfl (K.move rfl) ?_
    refine KT.bcase (fun hb37 => ?_) (fun hb37 => ?_)
    · skip
      exact absurd a1 (of_decide_eq_true hb37)
    · skip
      replace hb37 := of_decide_eq_false hb37
      refine KT.step rfl rfl (K.call0 plainTry_21 (awake21)) ?_
      refine KT.step rfl rfl (K.not rfl) ?_
      refine KT.step rfl rfl (K.pick rfl (fun h => by cases h) (fun _ => rfl)) ?_
      refine KT.nil ?_
      refine thenK_n ?_
      refine KC.cond rfl (fun hc40 => ?_) (fun hc40 => ?_)
      · skip
        cases hc40
      · skip
        refine KC.skip ?_
        refine thenK_n ?_
        refine KC.seq ?_
        refine KC.region ?_
        refine KT.step rfl rfl (K.move rfl) ?_
        refine KT.step rfl rfl (K.call1 rfl plainTry_16 (few16 hd hl hr)) ?_
        refine KT.step rfl rfl (K.move rfl) ?_
        refine KT.step rfl rfl (K.call2 rfl rfl plainTry_31 (Has31 hmz fz.1 fz.2 hf hlp)) ?_
        refine KT.step rfl rfl (K.move rfl) ?_
        refine KT.step rfl rfl (K.extract rfl rfl) ?_
        refine KT.step rfl rfl (K.extract rfl rfl) ?_
        refine KT.step rfl rfl (K.assign rfl) ?_
        refine KT.step rfl rfl (K.assign rfl) ?_
        refine KT.nil ?_
        refine thenK_n ?_
        refine KC.seq ?_
        refine KC.region ?_
        refine KT.step rfl rfl (K.move rfl) ?_
        refine KT.step rfl rfl (K.move rfl) ?_
        refine KT.step rfl rfl (K.call2 rfl rfl plainTry_32 (rHas32 hd hl hr hf hlp)) ?_
        refine KT.step rfl rfl (K.move rfl) ?_
        refine KT.step rfl rfl (K.extract rfl rfl) ?_
        refine KT.step rfl rfl (K.extract rfl rfl) ?_
        refine KT.step rfl rfl (K.assign rfl) ?_
        refine KT.step rfl rfl (K.assign rfl) ?_
        refine KT.nil ?_
        refine thenK_n ?_
        refine KC.seq ?_
        refine KC.region ?_
        refine KT.step rfl rfl (K.move rfl) ?_
        refine KT.step rfl rfl (K.call1 rfl plainTry_16 (few16 hd hl hr)) ?_
        refine KT.step rfl rfl (K.call1 rfl plainTry_33 (Point33 hmz fz.1 fz.2)) ?_
        refine KT.step rfl rfl (K.move rfl) ?_
        refine KT.step rfl rfl (K.extract rfl rfl) ?_
        refine KT.step rfl rfl (K.extract rfl rfl) ?_
        refine KT.step rfl rfl (K.assign rfl) ?_
        refine KT.step rfl rfl (K.assign rfl) ?_
        refine KT.nil ?_
        refine thenK_n ?_
        refine KC.seq ?_
        refine KC.region ?_
        refine KT.step rfl rfl (K.move rfl) ?_
        refine KT.step rfl rfl (K.call1 rfl plainTry_34 (First34 hd hl hr)) ?_
        refine KT.step rfl rfl (K.move rfl) ?_
        refine KT.step rfl rfl (K.extract rfl rfl) ?_
        refine KT.step rfl rfl (K.extract rfl rfl) ?_
        refine KT.step rfl rfl (K.assign rfl) ?_
        refine KT.step rfl rfl (K.assign rfl) ?_
        refine KT.nil ?_
        refine thenK_n ?_
        refine KC.seq ?_
        refine KC.region ?_
        refine KT.step rfl rfl (K.move rfl) ?_
        refine KT.step rfl rfl (K.move rfl) ?_
        refine KT.step rfl rfl (K.eqB Try.underlying4 rfl rfl) ?_
        refine KT.step rfl rfl (K.move rfl) ?_
        refine KT.bcase (fun hb68 => ?_) (fun hb68 => ?_)
        · skip
          refine KT.step rfl rfl (K.move rfl) ?_
          refine KT.step rfl rfl (K.move rfl) ?_
          refine KT.step rfl rfl (K.eql rfl rfl) ?_
          refine KT.step rfl rfl (K.pick rfl (fun _ => rfl) (fun h => by cases h)) ?_
          refine KT.step rfl rfl (K.move rfl) ?_
          refine KT.bcase (fun hb73 => ?_) (fun hb73 => ?_)
          · skip
            replace hb73 := of_decide_eq_true hb73
            refine KT.step rfl rfl (K.move rfl) ?_
            refine KT.step rfl rfl (K.move rfl) ?_
            refine KT.step rfl rfl (K.call2 rfl rfl plainTry_35 (equal35 (ptD_ints Z) (ptD_ints z) (by have := ptL_len (z := Z); omega))) ?_
            refine KT.step rfl rfl (K.pick rfl (fun _ => rfl) (fun h => by cases h)) ?_
            refine KT.step rfl rfl (K.move rfl) ?_
            refine KT.bcase (fun hb78 => ?_) (fun hb78 => ?_)
            · skip
              refine KT.step rfl rfl (K.move rfl) ?_
              refine KT.step rfl rfl (K.move rfl) ?_
              refine KT.step rfl rfl (K.eql rfl rfl) ?_
              refine KT.step rfl rfl (K.pick rfl (fun _ => rfl) (fun h => by cases h)) ?_
              refine KT.step rfl rfl (K.assign rfl) ?_
              refine KT.nil ?_
              refine thenK_n ?_
              refine KC.ret ?_
              exact ⟨.inl rfl, _, rfl, fin_b (decide_eq_true c1).symm⟩
            · skip
              exact absurd c2 (of_decide_eq_false hb78)
          · skip
            exact absurd b1 (of_decide_eq_false hb73)
        · skip
          rw [b2, beq_self_eq_true] at hb68
          cases hb68
end Go.Proofs.Ytjfpeiioddfjcaa

