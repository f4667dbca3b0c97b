import Derived.Test.YtjfpeiioddfjcaaZnRh
import Derived.Test.YtjfpeiioddfjcaaZnQ0
/-
  Zones: the law ZoneTight.
-/
namespace Go.Proofs.Ytjfpeiioddfjcaa
open Go.Vm Go.Zn
theorem plainTry_3 : plainFn Try.prog 3 = true := by kernel_rfl

theorem neq_false2 {a b : Bool} (h : a = b) (h2 : (!(a == b)) = true) : False := by subst h; cases a <;> cases h2
theorem few_tg (z : List (List Int)) : tgE (fewZ z) = tgE z ∧ tgZ (fewZ z) = tgZ z := by
  cases hv : validZ z with
  | true => rw [few_id hv]; exact ⟨rfl, rfl⟩
  | false =>
    have h1 := tgE_bad (z := z) (by rw [hv]; decide)
    have h2 := tgE_bad (z := fewZ z) (by rw [few_valid, hv]; decide)
    refine ⟨by rw [h1, h2], ?_⟩
    unfold tgZ resZ
    rw [h1, h2]; rfl
theorem rr_cr {z : List (List Int)} (hv : validZ z = true) (l : List Int) : crB z l = rrB z.length (zf z) l := by
  unfold crB
  rw [hv, Bool.true_and, rr_rf (validZ_rows hv).2.1 (zf5 hv)]
set_option maxHeartbeats 1000000 in
set_option maxRecDepth 10000 in
theorem law3 {d e : DV} {z : List (List Int)} {l : List Int} (hd : Mat d z) (hl : z.length ≤ 9223372036854775807) (hr : ∀ r ∈ z, r.length ≤ 9223372036854775807) (he : Ints e l) (hll : l.length ≤ 9223372036854775807) : DeepCall Try.prog 3 [d, e] (DB true) := by
  have fz := few_len z
  have kz := fewZ_len z
  have hmz := few_mat hd
  have hfv := few_valid (z := z)
  have hfi := few_id (z := z)
  obtain ⟨t1, t2⟩ := few_tg z
  obtain ⟨r1, r2⟩ := rT_tg (z := z)
  generalize hZ : fewZ z = Z at *
  refine deepCall_K 5 Try.func3 rfl (Nat.le_of_ble_eq_true rfl) fun M W0 => ?_
  refine KC.seq ?_
  refine KC.region ?_
  refine KT.step rfl rfl (K.assign rfl) ?_
  refine KT.nil ?_
  refine thenK_n ?_
  refine KC.seq ?_
  refine KC.region ?_
  refine KT.step rfl rfl (K.move rfl) ?_
  refine KT.step rfl rfl (K.call1 rfl plainTry_16 (few16 hd hl hr)) ?_
  refine KT.step rfl rfl (K.call1 rfl plainTry_15 (Tight15 hmz fz.1 fz.2)) ?_
  refine KT.step rfl rfl (K.move rfl) ?_
  refine KT.step rfl rfl (K.extract rfl rfl) ?_
  refine KT.step rfl rfl (K.extract rfl rfl) ?_
  refine KT.step rfl rfl (K.assign rfl) ?_
  refine KT.step rfl rfl (K.assign rfl) ?_
  refine KT.nil ?_
  refine thenK_n ?_
  refine KC.seq ?_
  refine KC.region ?_
  refine KT.step rfl rfl (K.move rfl) ?_
  refine KT.step rfl rfl (K.call1 rfl plainTry_17 (rTight17 hd hl hr)) ?_
  refine KT.step rfl rfl (K.move rfl) ?_
  refine KT.step rfl rfl (K.extract rfl rfl) ?_
  refine KT.step rfl rfl (K.extract rfl rfl) ?_
  refine KT.step rfl rfl (K.assign rfl) ?_
  refine KT.step rfl rfl (K.assign rfl) ?_
  refine KT.nil ?_
  refine thenK_n ?_
  refine KC.seq ?_
  refine KC.region ?_
  refine KT.step rfl rfl (K.move rfl) ?_
  refine KT.step rfl rfl (K.call1 rfl plainTry_16 (few16 hd hl hr)) ?_
  refine KT.step rfl rfl (K.call1 rfl plainTry_18 (Refute18 hmz fz.1 fz.2)) ?_
  refine KT.step rfl rfl (K.move rfl) ?_
  refine KT.step rfl rfl (K.extract rfl rfl) ?_
  refine KT.step rfl rfl (K.extract rfl rfl) ?_
  refine KT.step rfl rfl (K.assign rfl) ?_
  refine KT.step rfl rfl (K.assign rfl) ?_
  refine KT.nil ?_
  refine thenK_n ?_
  refine KC.seq ?_
  refine KC.region ?_
  refine KT.step rfl rfl (K.move rfl) ?_
  refine KT.step rfl rfl (K.call1 rfl plainTry_16 (few16 hd hl hr)) ?_
  refine KT.step rfl rfl (K.move rfl) ?_
  refine KT.step rfl rfl (K.call2 rfl rfl plainTry_19 (CheckRefute19 hmz fz.1 fz.2 he hll)) ?_
  refine KT.step rfl rfl (K.move rfl) ?_
  refine KT.step rfl rfl (K.extract rfl rfl) ?_
  refine KT.step rfl rfl (K.extract rfl rfl) ?_
  refine KT.step rfl rfl (K.assign rfl) ?_
  refine KT.step rfl rfl (K.assign rfl) ?_
  refine KT.nil ?_
  refine thenK_n ?_
  refine KC.seq ?_
  refine KC.seq ?_
  refine KC.region ?_
  refine KT.step rfl rfl (K.move rfl) ?_
  refine KT.step rfl rfl (K.move rfl) ?_
  refine KT.step rfl rfl (K.call2 rfl rfl plainTry_20 (same20 (resD_mat (e := tgE Z) (n := Z.length) (a := tightM Z.length (zf Z))) (rTD_mat z) (resZ_len (kz.1) _).1 (resZ_len (kz.1) _).2)) ?_
  refine KT.step rfl rfl (K.not rfl) ?_
  refine KT.step rfl rfl (K.move rfl) ?_
  refine KT.bcase (fun hb41 => ?_) (fun hb41 => ?_)
  · skip
    rw [Bool.not_eq_true'] at hb41
    exact absurd (t2.trans r2.symm) (of_decide_eq_false hb41)
  · skip
    refine KT.step rfl rfl (K.move rfl) ?_
    refine KT.step rfl rfl (K.move rfl) ?_
    refine KT.step rfl rfl (K.neq rfl rfl) ?_
    refine KT.step rfl rfl (K.pick rfl (fun h => by cases h) (fun _ => rfl)) ?_
    refine KT.step rfl rfl (K.move rfl) ?_
    refine KT.bcase (fun hb46 => ?_) (fun hb46 => ?_)
    · skip
      exact absurd (t1.trans r1.symm) (of_decide_eq_true hb46)
    · skip
      replace hb46 := of_decide_eq_false hb46
      refine KT.step rfl rfl (K.call0 plainTry_21 (awake21)) ?_
      refine KT.step rfl rfl (K.not rfl) ?_
      refine KT.step rfl rfl (K.pick rfl (fun h => by cases h) (fun _ => rfl)) ?_
      refine KT.nil ?_
      refine thenK_n ?_
      refine KC.cond rfl (fun hc49 => ?_) (fun hc49 => ?_)
      · skip
        cases hc49
      · skip
        refine KC.skip ?_
        refine thenK_n ?_
        refine KC.seq ?_
        refine KC.seq ?_
        refine KC.region ?_
        refine KT.step rfl rfl (K.move rfl) ?_
        refine KT.step rfl rfl (K.eql rfl rfl) ?_
        refine KT.nil ?_
        refine thenK_n ?_
        refine KC.cond rfl (fun hc51 => ?_) (fun hc51 => ?_)
        · skip
          replace hc51 := of_decide_eq_true hc51
          have hv : validZ Z = false := Bool.eq_false_iff.2 fun hv => by
            have := tgE_five hv
            omega
          have hbad := rf_bad hv
          have hrn : Ints (rfR Z) [] := by unfold rfR; rw [hv]; exact .nil
          have hcf : crB Z l = false := by unfold crB; rw [hv]; rfl
          refine KC.seq ?_
          refine KC.region ?_
          refine KT.step rfl rfl (K.move rfl) ?_
          refine KT.step rfl rfl (K.len (R := IsI) (l := []) rfl hrn Try.underlying23) ?_
          refine KT.step rfl rfl (K.eql rfl rfl) ?_
          refine KT.step rfl rfl (K.move rfl) ?_
          refine KT.bcase (fun hb55 => ?_) (fun hb55 => ?_)
          · skip
            replace hb55 := of_decide_eq_true hb55
            refine KT.step rfl rfl (K.move rfl) ?_
            refine KT.step rfl rfl (K.eql rfl rfl) ?_
            refine KT.step rfl rfl (K.pick rfl (fun _ => rfl) (fun h => by cases h)) ?_
            refine KT.step rfl rfl (K.move rfl) ?_
            refine KT.bcase (fun hb59 => ?_) (fun hb59 => ?_)
            · skip
              replace hb59 := of_decide_eq_true hb59
              refine KT.step rfl rfl (K.move rfl) ?_
              refine KT.step rfl rfl (K.not rfl) ?_
              refine KT.step rfl rfl (K.pick rfl (fun _ => rfl) (fun h => by cases h)) ?_
              refine KT.step rfl rfl (K.move rfl) ?_
              refine KT.bcase (fun hb63 => ?_) (fun hb63 => ?_)
              · skip
                refine KT.step rfl rfl (K.move rfl) ?_
                refine KT.step rfl rfl (K.eql rfl rfl) ?_
                refine KT.step rfl rfl (K.pick rfl (fun _ => rfl) (fun h => by cases h)) ?_
                refine KT.step rfl rfl (K.assign rfl) ?_
                refine KT.nil ?_
                refine thenK_n ?_
                refine KC.ret ?_
                refine thenK_r ?_
                exact ⟨.inl rfl, _, rfl, fin_b (decide_eq_true hbad.2.2).symm⟩
              · skip
                rw [Bool.not_eq_false'] at hb63
                exact Bool.noConfusion (hcf.symm.trans hb63)
            · skip
              exact absurd hbad.2.1 (of_decide_eq_false hb59)
          · skip
            cases hb55
        · skip
          replace hc51 := of_decide_eq_false hc51
          have hv : validZ Z = true := tgE_v (by omega)
          have hzZ : Z = z := hfi (hfv ▸ hv)
          have hvz : validZ z = true := hfv ▸ hv
          have hk := rfE_eq hv
          have hc0 := crE_ok hv
          refine KC.skip ?_
          refine thenK_n ?_
          refine KC.seq ?_
          refine KC.seq ?_
          refine KC.region ?_
          refine KT.step rfl rfl (K.move rfl) ?_
          refine KT.step rfl rfl (K.move rfl) ?_
          refine KT.step rfl rfl (K.move rfl) ?_
          refine KT.step rfl rfl (K.call2 rfl rfl plainTry_22 (Refutes22 hd (sq_of hvz) he hll)) ?_
          refine KT.step rfl rfl (K.neqB Try.underlying4 rfl rfl) ?_
          refine KT.step rfl rfl (K.move rfl) ?_
          refine KT.bcase (fun hb72 => ?_) (fun hb72 => ?_)
          · skip
            exact (neq_false2 (hzZ ▸ rr_cr hv l) hb72).elim
          · skip
            refine KT.step rfl rfl (K.move rfl) ?_
            refine KT.step rfl rfl (K.neq rfl rfl) ?_
            refine KT.step rfl rfl (K.pick rfl (fun h => by cases h) (fun _ => rfl)) ?_
            refine KT.nil ?_
            refine thenK_n ?_
            refine KC.cond rfl (fun hc75 => ?_) (fun hc75 => ?_)
            · skip
              exact absurd hc0 (of_decide_eq_true hc75)
            · skip
              replace hc75 := of_decide_eq_false hc75
              refine KC.skip ?_
              refine thenK_n ?_
              refine KC.seq ?_
              refine KC.seq ?_
              refine KC.region ?_
              refine KT.step rfl rfl (K.move rfl) ?_
              refine KT.step rfl rfl (K.eql rfl rfl) ?_
              refine KT.nil ?_
              refine thenK_n ?_
              refine KC.cond rfl (fun hc77 => ?_) (fun hc77 => ?_)
              · skip
                replace hc77 := of_decide_eq_true hc77
                have h5 : rfE Z = 5 := by omega
                have hrn : Ints (rfR Z) [] := by
                  have e : isNilD (rfD Z) = true := by
                    have h2 : rfE Z = if isNilD (rfD Z) then 5 else 0 := by unfold rfE; rw [if_pos hv]
                    cases hn : isNilD (rfD Z) with
                    | true => rfl
                    | false => rw [hn] at h2; rw [h2] at h5; cases h5
                  rw [show rfR Z = rfD Z from if_pos hv, show rfD Z = Dnil from (dfs_sl _ _).nil_of e]; exact .nil
                refine KC.seq ?_
                refine KC.region ?_
                refine KT.step rfl rfl (K.move rfl) ?_
                refine KT.step rfl rfl (K.len (R := IsI) (l := []) rfl hrn Try.underlying23) ?_
                refine KT.step rfl rfl (K.eql rfl rfl) ?_
                refine KT.step rfl rfl (K.move rfl) ?_
                refine KT.bcase (fun hb81 => ?_) (fun hb81 => ?_)
                · skip
                  replace hb81 := of_decide_eq_true hb81
                  refine KT.step rfl rfl (K.move rfl) ?_
                  refine KT.step rfl rfl (K.eql rfl rfl) ?_
                  refine KT.step rfl rfl (K.pick rfl (fun _ => rfl) (fun h => by cases h)) ?_
                  refine KT.step rfl rfl (K.assign rfl) ?_
                  refine KT.nil ?_
                  refine thenK_n ?_
                  refine KC.ret ?_
                  refine thenK_r ?_
                  exact ⟨.inl rfl, _, rfl, fin_b (decide_eq_true h5).symm⟩
                · skip
                  cases hb81
              · skip
                replace hc77 := of_decide_eq_false hc77
                have h0 : rfE Z = 0 := by omega
                obtain ⟨r, hr1, hr2⟩ := rf_ok hv h0
                have hrl : r.length ≤ 1000 := by
                  have h3 := hr2
                  unfold crB at h3
                  rw [hv, Bool.true_and] at h3
                  obtain ⟨h4, h5⟩ := zl_dif.1 (rfB_dif h3)
                  have := dif_len h4 h5
                  have := (validZ_rows hv).2.1
                  omega
                refine KC.skip ?_
                refine thenK_n ?_
                refine KC.seq ?_
                refine KC.region ?_
                refine KT.step rfl rfl (K.move rfl) ?_
                refine KT.step rfl rfl (K.eql rfl rfl) ?_
                refine KT.step rfl rfl (K.move rfl) ?_
                refine KT.bcase (fun hb87 => ?_) (fun hb87 => ?_)
                · skip
                  replace hb87 := of_decide_eq_true hb87
                  refine KT.step rfl rfl (K.move rfl) ?_
                  refine KT.step rfl rfl (K.move rfl) ?_
                  refine KT.step rfl rfl (K.call2 rfl rfl plainTry_22 (Refutes22 hd (sq_of hvz) (show Ints (rfR Z) (zl r) from hr1 ▸ wd0_ints r) (wd0_len hrl))) ?_
                  refine KT.step rfl rfl (K.pick rfl (fun _ => rfl) (fun h => by cases h)) ?_
                  refine KT.step rfl rfl (K.assign rfl) ?_
                  refine KT.nil ?_
                  refine thenK_n ?_
                  refine KC.ret ?_
                  exact ⟨.inl rfl, _, rfl, fin_b (by rw [← hzZ, ← rr_cr hv, hr2])⟩
                · skip
                  exact absurd h0 (of_decide_eq_false hb87)
end Go.Proofs.Ytjfpeiioddfjcaa

