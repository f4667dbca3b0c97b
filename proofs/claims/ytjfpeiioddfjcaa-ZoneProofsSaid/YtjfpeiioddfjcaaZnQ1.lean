import Derived.Test.YtjfpeiioddfjcaaZnP1
/-
  Zones: the law ZoneProofs.
-/
namespace Go.Proofs.Ytjfpeiioddfjcaa
open Go.Vm Go.Zn
theorem plainTry_7 : plainFn Try.prog 7 = true := by kernel_rfl

theorem rf_nil {z : List (List Int)} (hv : validZ z = true) : isNilD (rfD z) = !emptyB z.length (tightM z.length (zf z)) := by
  have hn := (validZ_rows hv).2.1
  have ha := Go.Zn.lim5 (n := z.length) (zf_lim hv)
  cases he : emptyB z.length (tightM z.length (zf z)) with
  | true =>
    obtain ⟨q, hq⟩ := (empty_iff hn ha).1 he
    exact dfs_complete (z.length + 1) [] q (by simp) (by rw [List.nil_append]; exact hq)
  | false =>
    cases hr : isNilD (rfD z) with
    | true => rfl
    | false =>
      obtain ⟨r, _, h2⟩ := dfs_sound _ _ hr
      rw [(empty_iff hn ha).2 ⟨r, h2⟩] at he; cases he
theorem rfE_eq {z : List (List Int)} (hv : validZ z = true) : (tgE z = 0 ∧ rfE z = 5) ∨ (tgE z = 5 ∧ rfE z = 0) := by
  have h1 := tgE_ok hv
  have h2 : rfE z = if isNilD (rfD z) then 5 else 0 := by unfold rfE; rw [if_pos hv]
  rw [rf_nil hv] at h2
  cases he : emptyB z.length (tightM z.length (zf z)) with
  | true => rw [he] at h1 h2; exact .inr ⟨h1, h2⟩
  | false => rw [he] at h1 h2; exact .inl ⟨h1, h2⟩
theorem rf_bad {z : List (List Int)} (hv : validZ z = false) : tgE z = 2 ∧ rfE z = 2 ∧ crE z = 2 := ⟨tgE_bad (by rw [hv]; decide), by unfold rfE; rw [hv]; rfl, by unfold crE; rw [hv]; rfl⟩
theorem tgE_v {z : List (List Int)} : tgE z ≠ 2 → validZ z = true := fun h => by
  cases hv : validZ z with
  | true => rfl
  | false => exact absurd (rf_bad hv).1 h
theorem rf_ok {z : List (List Int)} (hv : validZ z = true) (h : rfE z = 0) : ∃ r : List Nat, rfR z = wd0 r ∧ crB z (zl r) = true := by
  have h2 : rfE z = if isNilD (rfD z) then 5 else 0 := by unfold rfE; rw [if_pos hv]
  rw [h2] at h
  split at h
  · cases h
  · rename_i hn
    obtain ⟨r, h3, h4⟩ := dfs_sound _ _ (Bool.eq_false_iff.2 hn)
    exact ⟨r, (if_pos hv).trans h3, by unfold crB; rw [hv, h4]; rfl⟩
theorem crB_empty {z : List (List Int)} {l : List Int} (hv : validZ z = true) (h : crB z l = true) : tgE z = 5 := by
  unfold crB at h
  rw [hv, Bool.true_and] at h
  obtain ⟨q, rfl⟩ := nat_of (difB_iff.1 (rfB_dif h)).1
  rw [tgE_ok hv, (empty_iff (validZ_rows hv).2.1 (Go.Zn.lim5 (zf_lim hv))).2 ⟨q, h⟩]; rfl
theorem crE_ok {z : List (List Int)} (hv : validZ z = true) : crE z = 0 := if_pos hv
set_option maxHeartbeats 1000000 in
set_option maxRecDepth 10000 in
theorem law7 {d e f : DV} {z : List (List Int)} {l p : List Int} (hd : Mat d z) (hl : z.length ≤ 9223372036854775807) (hr : ∀ r ∈ z, r.length ≤ 9223372036854775807) (he : Ints e l) (hll : l.length ≤ 9223372036854775807) (hf : Ints f p) (hlp : p.length ≤ 9223372036854775807) : DeepCall Try.prog 7 [d, e, f] (DB true) := by
  have fz := few_len z
  have kz := fewZ_len z
  have hmz := few_mat hd
  generalize hZ : fewZ z = Z at *
  refine deepCall_K 5 Try.func7 rfl (Nat.le_of_ble_eq_true rfl) fun M W0 => ?_
  refine KC.seq ?_
  refine KC.region ?_
  refine KT.step rfl rfl (K.assign rfl) ?_
  refine KT.nil ?_
  refine thenK_n ?_
  refine KC.seq ?_
  refine KC.region ?_
  refine KT.step rfl rfl (K.move rfl) ?_
  refine KT.step rfl rfl (K.call1 rfl plainTry_16 (few16 hd hl hr)) ?_
  refine KT.step rfl rfl (K.call1 rfl plainTry_15 (Tight15 hmz fz.1 fz.2)) ?_
  refine KT.step rfl rfl (K.move rfl) ?_
  refine KT.step rfl rfl (K.extract rfl rfl) ?_
  refine KT.step rfl rfl (K.extract rfl rfl) ?_
  refine KT.step rfl rfl (K.assign rfl) ?_
  refine KT.step rfl rfl (K.assign rfl) ?_
  refine KT.nil ?_
  refine thenK_n ?_
  refine KC.seq ?_
  refine KC.region ?_
  refine KT.step rfl rfl (K.move rfl) ?_
  refine KT.step rfl rfl (K.call1 rfl plainTry_16 (few16 hd hl hr)) ?_
  refine KT.step rfl rfl (K.call1 rfl plainTry_18 (Refute18 hmz fz.1 fz.2)) ?_
  refine KT.step rfl rfl (K.move rfl) ?_
  refine KT.step rfl rfl (K.extract rfl rfl) ?_
  refine KT.step rfl rfl (K.extract rfl rfl) ?_
  refine KT.step rfl rfl (K.assign rfl) ?_
  refine KT.step rfl rfl (K.assign rfl) ?_
  refine KT.nil ?_
  refine thenK_n ?_
  refine KC.seq ?_
  refine KC.region ?_
  refine KT.step rfl rfl (K.move rfl) ?_
  refine KT.step rfl rfl (K.call1 rfl plainTry_16 (few16 hd hl hr)) ?_
  refine KT.step rfl rfl (K.move rfl) ?_
  refine KT.step rfl rfl (K.call2 rfl rfl plainTry_19 (CheckRefute19 hmz fz.1 fz.2 he hll)) ?_
  refine KT.step rfl rfl (K.move rfl) ?_
  refine KT.step rfl rfl (K.extract rfl rfl) ?_
  refine KT.step rfl rfl (K.extract rfl rfl) ?_
  refine KT.step rfl rfl (K.assign rfl) ?_
  refine KT.step rfl rfl (K.assign rfl) ?_
  refine KT.nil ?_
  refine thenK_n ?_
  refine KC.seq ?_
  refine KC.seq ?_
  refine KC.region ?_
  refine KT.step rfl rfl (K.move rfl) ?_
  refine KT.step rfl rfl (K.eql rfl rfl) ?_
  refine KT.nil ?_
  refine thenK_n ?_
  refine KC.cond rfl (fun hc37 => ?_) (fun hc37 => ?_)
  · skip
    replace hc37 := of_decide_eq_true hc37
    have hv : validZ Z = false := Bool.eq_false_iff.2 fun hv => by
      have := tgE_five hv
      omega
    have hbad := rf_bad hv
    refine KC.seq ?_
    refine KC.region ?_
    refine KT.step rfl rfl (K.move rfl) ?_
    refine KT.step rfl rfl (K.eql rfl rfl) ?_
    refine KT.step rfl rfl (K.move rfl) ?_
    refine KT.bcase (fun hb40 => ?_) (fun hb40 => ?_)
    · skip
      replace hb40 := of_decide_eq_true hb40
      refine KT.step rfl rfl (K.move rfl) ?_
      refine KT.step rfl rfl (K.eql rfl rfl) ?_
      refine KT.step rfl rfl (K.pick rfl (fun _ => rfl) (fun h => by cases h)) ?_
      refine KT.step rfl rfl (K.move rfl) ?_
      refine KT.bcase (fun hb44 => ?_) (fun hb44 => ?_)
      · skip
        replace hb44 := of_decide_eq_true hb44
        refine KT.step rfl rfl (K.call0 plainTry_21 (awake21)) ?_
        refine KT.step rfl rfl (K.pick rfl (fun _ => rfl) (fun h => by cases h)) ?_
        refine KT.step rfl rfl (K.assign rfl) ?_
        refine KT.nil ?_
        refine thenK_n ?_
        refine KC.ret ?_
        refine thenK_r ?_
        exact ⟨.inl rfl, _, rfl, rfl⟩
      · skip
        exact absurd hbad.2.2 (of_decide_eq_false hb44)
    · skip
      exact absurd hbad.2.1 (of_decide_eq_false hb40)
  · skip
    replace hc37 := of_decide_eq_false hc37
    have hv := tgE_v hc37
    have hk := rfE_eq hv
    have hc0 := crE_ok hv
    refine KC.skip ?_
    refine thenK_n ?_
    refine KC.seq ?_
    refine KC.seq ?_
    refine KC.region ?_
    refine KT.step rfl rfl (K.move rfl) ?_
    refine KT.step rfl rfl (K.eql rfl rfl) ?_
    refine KT.step rfl rfl (K.move rfl) ?_
    refine KT.step rfl rfl (K.eql rfl rfl) ?_
    refine KT.step rfl rfl (K.eqB Try.underlying4 rfl rfl) ?_
    refine KT.step rfl rfl (K.move rfl) ?_
    refine KT.bcase (fun hb52 => ?_) (fun hb52 => ?_)
    · skip
      rcases hk with ⟨k1, k2⟩ | ⟨k1, k2⟩
      · rw [k1, k2] at hb52; cases hb52
      · rw [k1, k2] at hb52; cases hb52
    · skip
      refine KT.step rfl rfl (K.move rfl) ?_
      refine KT.step rfl rfl (K.neq rfl rfl) ?_
      refine KT.step rfl rfl (K.pick rfl (fun h => by cases h) (fun _ => rfl)) ?_
      refine KT.step rfl rfl (K.move rfl) ?_
      refine KT.bcase (fun hb56 => ?_) (fun hb56 => ?_)
      · skip
        exact absurd hc0 (of_decide_eq_true hb56)
      · skip
        replace hb56 := of_decide_eq_false hb56
        refine KT.step rfl rfl (K.move rfl) ?_
        refine KT.step rfl rfl (K.move rfl) ?_
        refine KT.bcase (fun hb58 => ?_) (fun hb58 => ?_)
        · skip
          refine KT.step rfl rfl (K.move rfl) ?_
          refine KT.step rfl rfl (K.eql rfl rfl) ?_
          refine KT.step rfl rfl (K.pick rfl (fun _ => rfl) (fun h => by cases h)) ?_
          refine KT.step rfl rfl (K.pick rfl (fun h => by cases h) (fun _ => rfl)) ?_
          refine KT.nil ?_
          refine thenK_n ?_
          refine KC.cond rfl (fun hc62 => ?_) (fun hc62 => ?_)
          · skip
            have := crB_empty hv hb58
            replace hc62 := of_decide_eq_true hc62
            omega
          · skip
            replace hc62 := of_decide_eq_false hc62
            refine KC.skip ?_
            refine thenK_n ?_
            refine KC.seq ?_
            refine KC.seq ?_
            refine KC.region ?_
            refine KT.step rfl rfl (K.move rfl) ?_
            refine KT.step rfl rfl (K.eql rfl rfl) ?_
            refine KT.nil ?_
            refine thenK_n ?_
            refine KC.cond rfl (fun hc64 => ?_) (fun hc64 => ?_)
            · skip
              replace hc64 := of_decide_eq_true hc64
              obtain ⟨r, hr1, hr2⟩ := rf_ok hv hc64
              have hrl : r.length ≤ 1000 := by
                have h3 := hr2
                unfold crB at h3
                rw [hv, Bool.true_and] at h3
                obtain ⟨h4, h5⟩ := zl_dif.1 (rfB_dif h3)
                have := dif_len h4 h5
                have := (validZ_rows hv).2.1
                omega
              refine KC.seq ?_
              refine KC.region ?_
              refine KT.step rfl rfl (K.move rfl) ?_
              refine KT.step rfl rfl (K.call1 rfl plainTry_16 (few16 hd hl hr)) ?_
              refine KT.step rfl rfl (K.move rfl) ?_
              refine KT.step rfl rfl (K.call2 rfl rfl plainTry_19 (CheckRefute19 hmz fz.1 fz.2 (l := zl r) (show Ints (rfR Z) (zl r) from hr1 ▸ wd0_ints r) (wd0_len hrl))) ?_
              refine KT.step rfl rfl (K.move rfl) ?_
              refine KT.step rfl rfl (K.extract rfl rfl) ?_
              refine KT.step rfl rfl (K.extract rfl rfl) ?_
              refine KT.step rfl rfl (K.assign rfl) ?_
              refine KT.step rfl rfl (K.assign rfl) ?_
              refine KT.nil ?_
              refine thenK_n ?_
              refine KC.seq ?_
              refine KC.region ?_
              refine KT.step rfl rfl (K.move rfl) ?_
              refine KT.step rfl rfl (K.not rfl) ?_
              refine KT.step rfl rfl (K.move rfl) ?_
              refine KT.bcase (fun hb74 => ?_) (fun hb74 => ?_)
              · skip
                rw [Bool.not_eq_true'] at hb74
                exact Bool.noConfusion (hb74.symm.trans hr2)
              · skip
                refine KT.step rfl rfl (K.move rfl) ?_
                refine KT.step rfl rfl (K.neq rfl rfl) ?_
                refine KT.step rfl rfl (K.pick rfl (fun h => by cases h) (fun _ => rfl)) ?_
                refine KT.nil ?_
                refine thenK_n ?_
                refine KC.cond rfl (fun hc77 => ?_) (fun hc77 => ?_)
                · skip
                  exact absurd hc0 (of_decide_eq_true hc77)
                · skip
                  replace hc77 := of_decide_eq_false hc77
                  refine KC.skip ?_
                  refine thenK_n ?_
                  refine KC.seq ?_
                  refine KC.region ?_
                  refine KT.step rfl rfl (K.move rfl) ?_
                  refine KT.step rfl rfl (K.call1 rfl plainTry_16 (few16 hd hl hr)) ?_
                  refine KT.step rfl rfl (K.move rfl) ?_
                  refine KT.step rfl rfl (K.call2 rfl rfl plainTry_31 (Has31 hmz fz.1 fz.2 hf hlp)) ?_
                  refine KT.step rfl rfl (K.move rfl) ?_
                  refine KT.step rfl rfl (K.extract rfl rfl) ?_
                  refine KT.step rfl rfl (K.extract rfl rfl) ?_
                  refine KT.step rfl rfl (K.assign rfl) ?_
                  refine KT.step rfl rfl (K.assign rfl) ?_
                  refine KT.nil ?_
                  refine thenK_n ?_
                  refine KC.seq ?_
                  refine KC.region ?_
                  refine KT.step rfl rfl (K.move rfl) ?_
                  refine KT.step rfl rfl (K.neq rfl rfl) ?_
                  refine KT.step rfl rfl (K.move rfl) ?_
                  refine KT.bcase (fun hb87 => ?_) (fun hb87 => ?_)
                  · skip
                    replace hb87 := of_decide_eq_true hb87
                    refine KT.skip rfl rfl ?_
                    refine KT.skip rfl rfl ?_
                    refine KT.step rfl rfl (K.pick rfl (fun _ => rfl) (fun h => by cases h)) ?_
                    refine KT.step rfl rfl (K.move rfl) ?_
                    refine KT.skip rfl rfl ?_
                    refine KT.skip rfl rfl ?_
                    refine KT.skip rfl rfl ?_
                    refine KT.skip rfl rfl ?_
                    refine KT.skip rfl rfl ?_
                    refine KT.skip rfl rfl ?_
                    refine KT.step rfl rfl (K.pick rfl (fun _ => rfl) (fun h => by cases h)) ?_
                    refine KT.step rfl rfl (K.move rfl) ?_
                    refine KT.step rfl rfl (K.call0 plainTry_21 (awake21)) ?_
                    refine KT.step rfl rfl (K.pick rfl (fun _ => rfl) (fun h => by cases h)) ?_
                    refine KT.step rfl rfl (K.assign rfl) ?_
                    refine KT.nil ?_
                    refine thenK_n ?_
                    refine KC.ret ?_
                    exact ⟨.inl rfl, _, rfl, rfl⟩
                  · skip
                    replace hb87 := of_decide_eq_false hb87
                    refine KT.step rfl rfl (K.move rfl) ?_
                    refine KT.step rfl rfl (K.not rfl) ?_
                    refine KT.step rfl rfl (K.pick rfl (fun h => by cases h) (fun _ => rfl)) ?_
                    refine KT.step rfl rfl (K.move rfl) ?_
                    refine KT.bcase (fun hb91 => ?_) (fun hb91 => ?_)
                    · skip
                      refine KT.skip rfl rfl ?_
                      refine KT.skip rfl rfl ?_
                      refine KT.skip rfl rfl ?_
                      refine KT.skip rfl rfl ?_
                      refine KT.skip rfl rfl ?_
                      refine KT.skip rfl rfl ?_
                      refine KT.step rfl rfl (K.pick rfl (fun _ => rfl) (fun h => by cases h)) ?_
                      refine KT.step rfl rfl (K.move rfl) ?_
                      refine KT.step rfl rfl (K.call0 plainTry_21 (awake21)) ?_
                      refine KT.step rfl rfl (K.pick rfl (fun _ => rfl) (fun h => by cases h)) ?_
                      refine KT.step rfl rfl (K.assign rfl) ?_
                      refine KT.nil ?_
                      refine thenK_n ?_
                      refine KC.ret ?_
                      exact ⟨.inl rfl, _, rfl, rfl⟩
                    · skip
                      refine KT.step rfl rfl (K.move rfl) ?_
                      refine KT.step rfl rfl (K.not rfl) ?_
                      refine KT.step rfl rfl (K.move rfl) ?_
                      refine KT.bcase (fun hb94 => ?_) (fun hb94 => ?_)
                      · skip
                        refine KT.step rfl rfl (K.move rfl) ?_
                        refine KT.step rfl rfl (K.eql rfl rfl) ?_
                        refine KT.step rfl rfl (K.pick rfl (fun _ => rfl) (fun h => by cases h)) ?_
                        refine KT.step rfl rfl (K.pick rfl (fun h => by cases h) (fun _ => rfl)) ?_
                        refine KT.step rfl rfl (K.move rfl) ?_
                        refine KT.bcase (fun hb99 => ?_) (fun hb99 => ?_)
                        · skip
                          replace hb99 := of_decide_eq_true hb99
                          refine KT.step rfl rfl (K.call0 plainTry_21 (awake21)) ?_
                          refine KT.step rfl rfl (K.pick rfl (fun _ => rfl) (fun h => by cases h)) ?_
                          refine KT.step rfl rfl (K.assign rfl) ?_
                          refine KT.nil ?_
                          refine thenK_n ?_
                          refine KC.ret ?_
                          exact ⟨.inl rfl, _, rfl, rfl⟩
                        · skip
                          rw [Bool.not_eq_false'] at hb91
                          exact absurd (mv_zero hb91).2.1 (of_decide_eq_false hb99)
                      · skip
                        rw [Bool.not_eq_false'] at hb91 hb94
                        have h1 := (mv_zero hb91).2.1
                        have := crB_empty hv hb94
                        omega
            · skip
              replace hc64 := of_decide_eq_false hc64
              refine KC.skip ?_
              refine thenK_n ?_
              refine KC.seq ?_
              refine KC.region ?_
              refine KT.step rfl rfl (K.move rfl) ?_
              refine KT.step rfl rfl (K.call1 rfl plainTry_16 (few16 hd hl hr)) ?_
              refine KT.step rfl rfl (K.move rfl) ?_
              refine KT.step rfl rfl (K.call2 rfl rfl plainTry_31 (Has31 hmz fz.1 fz.2 hf hlp)) ?_
              refine KT.step rfl rfl (K.move rfl) ?_
              refine KT.step rfl rfl (K.extract rfl rfl) ?_
              refine KT.step rfl rfl (K.extract rfl rfl) ?_
              refine KT.step rfl rfl (K.assign rfl) ?_
              refine KT.step rfl rfl (K.assign rfl) ?_
              refine KT.nil ?_
              refine thenK_n ?_
              refine KC.seq ?_
              refine KC.region ?_
              refine KT.step rfl rfl (K.move rfl) ?_
              refine KT.step rfl rfl (K.neq rfl rfl) ?_
              refine KT.step rfl rfl (K.move rfl) ?_
              refine KT.bcase (fun hb87 => ?_) (fun hb87 => ?_)
              · skip
                replace hb87 := of_decide_eq_true hb87
                refine KT.skip rfl rfl ?_
                refine KT.skip rfl rfl ?_
                refine KT.step rfl rfl (K.pick rfl (fun _ => rfl) (fun h => by cases h)) ?_
                refine KT.step rfl rfl (K.move rfl) ?_
                refine KT.skip rfl rfl ?_
                refine KT.skip rfl rfl ?_
                refine KT.skip rfl rfl ?_
                refine KT.skip rfl rfl ?_
                refine KT.skip rfl rfl ?_
                refine KT.skip rfl rfl ?_
                refine KT.step rfl rfl (K.pick rfl (fun _ => rfl) (fun h => by cases h)) ?_
                refine KT.step rfl rfl (K.move rfl) ?_
                refine KT.step rfl rfl (K.call0 plainTry_21 (awake21)) ?_
                refine KT.step rfl rfl (K.pick rfl (fun _ => rfl) (fun h => by cases h)) ?_
                refine KT.step rfl rfl (K.assign rfl) ?_
                refine KT.nil ?_
                refine thenK_n ?_
                refine KC.ret ?_
                exact ⟨.inl rfl, _, rfl, rfl⟩
              · skip
                replace hb87 := of_decide_eq_false hb87
                refine KT.step rfl rfl (K.move rfl) ?_
                refine KT.step rfl rfl (K.not rfl) ?_
                refine KT.step rfl rfl (K.pick rfl (fun h => by cases h) (fun _ => rfl)) ?_
                refine KT.step rfl rfl (K.move rfl) ?_
                refine KT.bcase (fun hb91 => ?_) (fun hb91 => ?_)
                · skip
                  refine KT.skip rfl rfl ?_
                  refine KT.skip rfl rfl ?_
                  refine KT.skip rfl rfl ?_
                  refine KT.skip rfl rfl ?_
                  refine KT.skip rfl rfl ?_
                  refine KT.skip rfl rfl ?_
                  refine KT.step rfl rfl (K.pick rfl (fun _ => rfl) (fun h => by cases h)) ?_
                  refine KT.step rfl rfl (K.move rfl) ?_
                  refine KT.step rfl rfl (K.call0 plainTry_21 (awake21)) ?_
                  refine KT.step rfl rfl (K.pick rfl (fun _ => rfl) (fun h => by cases h)) ?_
                  refine KT.step rfl rfl (K.assign rfl) ?_
                  refine KT.nil ?_
                  refine thenK_n ?_
                  refine KC.ret ?_
                  exact ⟨.inl rfl, _, rfl, rfl⟩
                · skip
                  refine KT.step rfl rfl (K.move rfl) ?_
                  refine KT.step rfl rfl (K.not rfl) ?_
                  refine KT.step rfl rfl (K.move rfl) ?_
                  refine KT.bcase (fun hb94 => ?_) (fun hb94 => ?_)
                  · skip
                    refine KT.step rfl rfl (K.move rfl) ?_
                    refine KT.step rfl rfl (K.eql rfl rfl) ?_
                    refine KT.step rfl rfl (K.pick rfl (fun _ => rfl) (fun h => by cases h)) ?_
                    refine KT.step rfl rfl (K.pick rfl (fun h => by cases h) (fun _ => rfl)) ?_
                    refine KT.step rfl rfl (K.move rfl) ?_
                    refine KT.bcase (fun hb99 => ?_) (fun hb99 => ?_)
                    · skip
                      replace hb99 := of_decide_eq_true hb99
                      refine KT.step rfl rfl (K.call0 plainTry_21 (awake21)) ?_
                      refine KT.step rfl rfl (K.pick rfl (fun _ => rfl) (fun h => by cases h)) ?_
                      refine KT.step rfl rfl (K.assign rfl) ?_
                      refine KT.nil ?_
                      refine thenK_n ?_
                      refine KC.ret ?_
                      exact ⟨.inl rfl, _, rfl, rfl⟩
                    · skip
                      rw [Bool.not_eq_false'] at hb91
                      exact absurd (mv_zero hb91).2.1 (of_decide_eq_false hb99)
                  · skip
                    rw [Bool.not_eq_false'] at hb91 hb94
                    have h1 := (mv_zero hb91).2.1
                    have := crB_empty hv hb94
                    omega
        · skip
          refine KT.skip rfl rfl ?_
          refine KT.skip rfl rfl ?_
          refine KT.step rfl rfl (K.pick rfl (fun h => by cases h) (fun _ => rfl)) ?_
          refine KT.step rfl rfl (K.pick rfl (fun h => by cases h) (fun _ => rfl)) ?_
          refine KT.nil ?_
          refine thenK_n ?_
          refine KC.cond rfl (fun hc62 => ?_) (fun hc62 => ?_)
          · cases hc62
          · skip
            refine KC.skip ?_
            refine thenK_n ?_
            refine KC.seq ?_
            refine KC.seq ?_
            refine KC.region ?_
            refine KT.step rfl rfl (K.move rfl) ?_
            refine KT.step rfl rfl (K.eql rfl rfl) ?_
            refine KT.nil ?_
            refine thenK_n ?_
            refine KC.cond rfl (fun hc64 => ?_) (fun hc64 => ?_)
            · skip
              replace hc64 := of_decide_eq_true hc64
              obtain ⟨r, hr1, hr2⟩ := rf_ok hv hc64
              have hrl : r.length ≤ 1000 := by
                have h3 := hr2
                unfold crB at h3
                rw [hv, Bool.true_and] at h3
                obtain ⟨h4, h5⟩ := zl_dif.1 (rfB_dif h3)
                have := dif_len h4 h5
                have := (validZ_rows hv).2.1
                omega
              refine KC.seq ?_
              refine KC.region ?_
              refine KT.step rfl rfl (K.move rfl) ?_
              refine KT.step rfl rfl (K.call1 rfl plainTry_16 (few16 hd hl hr)) ?_
              refine KT.step rfl rfl (K.move rfl) ?_
              refine KT.step rfl rfl (K.call2 rfl rfl plainTry_19 (CheckRefute19 hmz fz.1 fz.2 (l := zl r) (show Ints (rfR Z) (zl r) from hr1 ▸ wd0_ints r) (wd0_len hrl))) ?_
              refine KT.step rfl rfl (K.move rfl) ?_
              refine KT.step rfl rfl (K.extract rfl rfl) ?_
              refine KT.step rfl rfl (K.extract rfl rfl) ?_
              refine KT.step rfl rfl (K.assign rfl) ?_
              refine KT.step rfl rfl (K.assign rfl) ?_
              refine KT.nil ?_
              refine thenK_n ?_
              refine KC.seq ?_
              refine KC.region ?_
              refine KT.step rfl rfl (K.move rfl) ?_
              refine KT.step rfl rfl (K.not rfl) ?_
              refine KT.step rfl rfl (K.move rfl) ?_
              refine KT.bcase (fun hb74 => ?_) (fun hb74 => ?_)
              · skip
                rw [Bool.not_eq_true'] at hb74
                exact Bool.noConfusion (hb74.symm.trans hr2)
              · skip
                refine KT.step rfl rfl (K.move rfl) ?_
                refine KT.step rfl rfl (K.neq rfl rfl) ?_
                refine KT.step rfl rfl (K.pick rfl (fun h => by cases h) (fun _ => rfl)) ?_
                refine KT.nil ?_
                refine thenK_n ?_
                refine KC.cond rfl (fun hc77 => ?_) (fun hc77 => ?_)
                · skip
                  exact absurd hc0 (of_decide_eq_true hc77)
                · skip
                  replace hc77 := of_decide_eq_false hc77
                  refine KC.skip ?_
                  refine thenK_n ?_
                  refine KC.seq ?_
                  refine KC.region ?_
                  refine KT.step rfl rfl (K.move rfl) ?_
                  refine KT.step rfl rfl (K.call1 rfl plainTry_16 (few16 hd hl hr)) ?_
                  refine KT.step rfl rfl (K.move rfl) ?_
                  refine KT.step rfl rfl (K.call2 rfl rfl plainTry_31 (Has31 hmz fz.1 fz.2 hf hlp)) ?_
                  refine KT.step rfl rfl (K.move rfl) ?_
                  refine KT.step rfl rfl (K.extract rfl rfl) ?_
                  refine KT.step rfl rfl (K.extract rfl rfl) ?_
                  refine KT.step rfl rfl (K.assign rfl) ?_
                  refine KT.step rfl rfl (K.assign rfl) ?_
                  refine KT.nil ?_
                  refine thenK_n ?_
                  refine KC.seq ?_
                  refine KC.region ?_
                  refine KT.step rfl rfl (K.move rfl) ?_
                  refine KT.step rfl rfl (K.neq rfl rfl) ?_
                  refine KT.step rfl rfl (K.move rfl) ?_
                  refine KT.bcase (fun hb87 => ?_) (fun hb87 => ?_)
                  · skip
                    replace hb87 := of_decide_eq_true hb87
                    refine KT.skip rfl rfl ?_
                    refine KT.skip rfl rfl ?_
                    refine KT.step rfl rfl (K.pick rfl (fun _ => rfl) (fun h => by cases h)) ?_
                    refine KT.step rfl rfl (K.move rfl) ?_
                    refine KT.skip rfl rfl ?_
                    refine KT.skip rfl rfl ?_
                    refine KT.skip rfl rfl ?_
                    refine KT.skip rfl rfl ?_
                    refine KT.skip rfl rfl ?_
                    refine KT.skip rfl rfl ?_
                    refine KT.step rfl rfl (K.pick rfl (fun _ => rfl) (fun h => by cases h)) ?_
                    refine KT.step rfl rfl (K.move rfl) ?_
                    refine KT.step rfl rfl (K.call0 plainTry_21 (awake21)) ?_
                    refine KT.step rfl rfl (K.pick rfl (fun _ => rfl) (fun h => by cases h)) ?_
                    refine KT.step rfl rfl (K.assign rfl) ?_
                    refine KT.nil ?_
                    refine thenK_n ?_
                    refine KC.ret ?_
                    exact ⟨.inl rfl, _, rfl, rfl⟩
                  · skip
                    replace hb87 := of_decide_eq_false hb87
                    refine KT.step rfl rfl (K.move rfl) ?_
                    refine KT.step rfl rfl (K.not rfl) ?_
                    refine KT.step rfl rfl (K.pick rfl (fun h => by cases h) (fun _ => rfl)) ?_
                    refine KT.step rfl rfl (K.move rfl) ?_
                    refine KT.bcase (fun hb91 => ?_) (fun hb91 => ?_)
                    · skip
                      refine KT.skip rfl rfl ?_
                      refine KT.skip rfl rfl ?_
                      refine KT.skip rfl rfl ?_
                      refine KT.skip rfl rfl ?_
                      refine KT.skip rfl rfl ?_
                      refine KT.skip rfl rfl ?_
                      refine KT.step rfl rfl (K.pick rfl (fun _ => rfl) (fun h => by cases h)) ?_
                      refine KT.step rfl rfl (K.move rfl) ?_
                      refine KT.step rfl rfl (K.call0 plainTry_21 (awake21)) ?_
                      refine KT.step rfl rfl (K.pick rfl (fun _ => rfl) (fun h => by cases h)) ?_
                      refine KT.step rfl rfl (K.assign rfl) ?_
                      refine KT.nil ?_
                      refine thenK_n ?_
                      refine KC.ret ?_
                      exact ⟨.inl rfl, _, rfl, rfl⟩
                    · skip
                      refine KT.step rfl rfl (K.move rfl) ?_
                      refine KT.step rfl rfl (K.not rfl) ?_
                      refine KT.step rfl rfl (K.move rfl) ?_
                      refine KT.bcase (fun hb94 => ?_) (fun hb94 => ?_)
                      · skip
                        refine KT.step rfl rfl (K.move rfl) ?_
                        refine KT.step rfl rfl (K.eql rfl rfl) ?_
                        refine KT.step rfl rfl (K.pick rfl (fun _ => rfl) (fun h => by cases h)) ?_
                        refine KT.step rfl rfl (K.pick rfl (fun h => by cases h) (fun _ => rfl)) ?_
                        refine KT.step rfl rfl (K.move rfl) ?_
                        refine KT.bcase (fun hb99 => ?_) (fun hb99 => ?_)
                        · skip
                          replace hb99 := of_decide_eq_true hb99
                          refine KT.step rfl rfl (K.call0 plainTry_21 (awake21)) ?_
                          refine KT.step rfl rfl (K.pick rfl (fun _ => rfl) (fun h => by cases h)) ?_
                          refine KT.step rfl rfl (K.assign rfl) ?_
                          refine KT.nil ?_
                          refine thenK_n ?_
                          refine KC.ret ?_
                          exact ⟨.inl rfl, _, rfl, rfl⟩
                        · skip
                          rw [Bool.not_eq_false'] at hb91
                          exact absurd (mv_zero hb91).2.1 (of_decide_eq_false hb99)
                      · skip
                        rw [Bool.not_eq_false'] at hb91 hb94
                        have h1 := (mv_zero hb91).2.1
                        have := crB_empty hv hb94
                        omega
            · skip
              replace hc64 := of_decide_eq_false hc64
              refine KC.skip ?_
              refine thenK_n ?_
              refine KC.seq ?_
              refine KC.region ?_
              refine KT.step rfl rfl (K.move rfl) ?_
              refine KT.step rfl rfl (K.call1 rfl plainTry_16 (few16 hd hl hr)) ?_
              refine KT.step rfl rfl (K.move rfl) ?_
              refine KT.step rfl rfl (K.call2 rfl rfl plainTry_31 (Has31 hmz fz.1 fz.2 hf hlp)) ?_
              refine KT.step rfl rfl (K.move rfl) ?_
              refine KT.step rfl rfl (K.extract rfl rfl) ?_
              refine KT.step rfl rfl (K.extract rfl rfl) ?_
              refine KT.step rfl rfl (K.assign rfl) ?_
              refine KT.step rfl rfl (K.assign rfl) ?_
              refine KT.nil ?_
              refine thenK_n ?_
              refine KC.seq ?_
              refine KC.region ?_
              refine KT.step rfl rfl (K.move rfl) ?_
              refine KT.step rfl rfl (K.neq rfl rfl) ?_
              refine KT.step rfl rfl (K.move rfl) ?_
              refine KT.bcase (fun hb87 => ?_) (fun hb87 => ?_)
              · skip
                replace hb87 := of_decide_eq_true hb87
                refine KT.skip rfl rfl ?_
                refine KT.skip rfl rfl ?_
                refine KT.step rfl rfl (K.pick rfl (fun _ => rfl) (fun h => by cases h)) ?_
                refine KT.step rfl rfl (K.move rfl) ?_
                refine KT.skip rfl rfl ?_
                refine KT.skip rfl rfl ?_
                refine KT.skip rfl rfl ?_
                refine KT.skip rfl rfl ?_
                refine KT.skip rfl rfl ?_
                refine KT.skip rfl rfl ?_
                refine KT.step rfl rfl (K.pick rfl (fun _ => rfl) (fun h => by cases h)) ?_
                refine KT.step rfl rfl (K.move rfl) ?_
                refine KT.step rfl rfl (K.call0 plainTry_21 (awake21)) ?_
                refine KT.step rfl rfl (K.pick rfl (fun _ => rfl) (fun h => by cases h)) ?_
                refine KT.step rfl rfl (K.assign rfl) ?_
                refine KT.nil ?_
                refine thenK_n ?_
                refine KC.ret ?_
                exact ⟨.inl rfl, _, rfl, rfl⟩
              · skip
                replace hb87 := of_decide_eq_false hb87
                refine KT.step rfl rfl (K.move rfl) ?_
                refine KT.step rfl rfl (K.not rfl) ?_
                refine KT.step rfl rfl (K.pick rfl (fun h => by cases h) (fun _ => rfl)) ?_
                refine KT.step rfl rfl (K.move rfl) ?_
                refine KT.bcase (fun hb91 => ?_) (fun hb91 => ?_)
                · skip
                  refine KT.skip rfl rfl ?_
                  refine KT.skip rfl rfl ?_
                  refine KT.skip rfl rfl ?_
                  refine KT.skip rfl rfl ?_
                  refine KT.skip rfl rfl ?_
                  refine KT.skip rfl rfl ?_
                  refine KT.step rfl rfl (K.pick rfl (fun _ => rfl) (fun h => by cases h)) ?_
                  refine KT.step rfl rfl (K.move rfl) ?_
                  refine KT.step rfl rfl (K.call0 plainTry_21 (awake21)) ?_
                  refine KT.step rfl rfl (K.pick rfl (fun _ => rfl) (fun h => by cases h)) ?_
                  refine KT.step rfl rfl (K.assign rfl) ?_
                  refine KT.nil ?_
                  refine thenK_n ?_
                  refine KC.ret ?_
                  exact ⟨.inl rfl, _, rfl, rfl⟩
                · skip
                  refine KT.step rfl rfl (K.move rfl) ?_
                  refine KT.step rfl rfl (K.not rfl) ?_
                  refine KT.step rfl rfl (K.move rfl) ?_
                  refine KT.bcase (fun hb94 => ?_) (fun hb94 => ?_)
                  · skip
                    refine KT.step rfl rfl (K.move rfl) ?_
                    refine KT.step rfl rfl (K.eql rfl rfl) ?_
                    refine KT.step rfl rfl (K.pick rfl (fun _ => rfl) (fun h => by cases h)) ?_
                    refine KT.step rfl rfl (K.pick rfl (fun h => by cases h) (fun _ => rfl)) ?_
                    refine KT.step rfl rfl (K.move rfl) ?_
                    refine KT.bcase (fun hb99 => ?_) (fun hb99 => ?_)
                    · skip
                      replace hb99 := of_decide_eq_true hb99
                      refine KT.step rfl rfl (K.call0 plainTry_21 (awake21)) ?_
                      refine KT.step rfl rfl (K.pick rfl (fun _ => rfl) (fun h => by cases h)) ?_
                      refine KT.step rfl rfl (K.assign rfl) ?_
                      refine KT.nil ?_
                      refine thenK_n ?_
                      refine KC.ret ?_
                      exact ⟨.inl rfl, _, rfl, rfl⟩
                    · skip
                      rw [Bool.not_eq_false'] at hb91
                      exact absurd (mv_zero hb91).2.1 (of_decide_eq_false hb99)
                  · skip
                    rw [Bool.not_eq_false'] at hb91 hb94
                    have h1 := (mv_zero hb91).2.1
                    have := crB_empty hv hb94
                    omega
end Go.Proofs.Ytjfpeiioddfjcaa

