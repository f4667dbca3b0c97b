import Derived.Test.YtcjcchceeidgkaaLgW
/-
  The law LogicSat.
-/
namespace Go.Proofs.Ytcjcchceeidgkaa
open Go.Vm Go.Lg
theorem plainTry_3 : plainFn Try.prog 3 = true := by kernel_rfl

theorem tot_of2 {N L : List Int} (h : validS N L = true) : Tot (toN N) := fun i hi => by
  obtain ⟨h1, h2, h3, h4⟩ := validS_all h
  have hi' : i < N.length := by simpa using hi
  have := h4 i hi'
  rw [toN_get]
  have e : (toN N).length = N.length := by simp
  rw [e]
  have := Nat.two_pow_pos N.length
  omega
theorem fo_eta (f : Fo) : Fo.mk f.op f.ks = f := by cases f; rfl
theorem valid_take {N L : List Int} : validS (N.take 18) (L.take 18) = validS N L := by
  by_cases h1 : N.length ≤ 16
  · have e1 : N.take 18 = N := List.take_of_length_le (by omega)
    by_cases h2 : L.length ≤ 18
    · have e2 : L.take 18 = L := List.take_of_length_le (by omega)
      rw [e1, e2]
    · rw [e1]
      unfold validS
      rw [decide_eq_false (show ¬ (L.take 18).length = N.length by simp; omega), decide_eq_false (show ¬ L.length = N.length by omega)]
      simp only [Bool.and_false, Bool.false_and]
  · unfold validS
    rw [decide_eq_false (show ¬ (N.take 18).length ≤ 16 by simp; omega), decide_eq_false h1]
    simp
theorem take_valid {N L : List Int} (h : validS N L = true) : N.take 18 = N ∧ L.take 18 = L := by
  obtain ⟨h1, h2, h3, _⟩ := validS_all h
  exact ⟨List.take_of_length_le (by omega), List.take_of_length_le (by omega)⟩
theorem sat_no {N L : List Int} {f : Fo} (h : (validS N L && rightB f) = false) : satB (N.take 18) (L.take 18) (cvF f 63 210).1 = false := by
  unfold satB
  rw [valid_take, (cv_right f).1, h]
theorem sat_yes {N L : List Int} {f : Fo} (hv : validS N L = true) (hr : rightB f = true) : satB (N.take 18) (L.take 18) (cvF f 63 210).1 = true ∧ satV (N.take 18) (L.take 18) (cvF f 63 210).1 = satF (toN N) (toN L) f := by
  have hb : satB (N.take 18) (L.take 18) (cvF f 63 210).1 = true := by
    unfold satB
    rw [valid_take, (cv_right f).1, hv, hr]; rfl
  refine ⟨hb, ?_⟩
  unfold satV
  rw [hb, (cv_right f).2 hr, (take_valid hv).1, (take_valid hv).2]
  rfl
theorem Sat_no {dN dL : DV} {N L : List Int} {op : ByteArray} {ks : List Fo} (hN : Ints dN N) (hL : Ints dL L) (h : (validS N L && rightB (.mk op ks)) = false) : DeepCall Try.prog 9 [.agg [l18 N dN, l18 L dL], foV (cvF (.mk op ks) 63 210).1] (.tup [DI 0, DI 2]) := by
  have hc := Sat9 (op := (cvF (.mk op ks) 63 210).1.op) (ks := (cvF (.mk op ks) 63 210).1.ks) (l18_ints hN) (l18_ints hL) ⟨by simp; omega, by simp; omega⟩ (kidsV_ok _)
  rw [fo_eta] at hc
  have hb := sat_no h
  rw [show satV (N.take 18) (L.take 18) (cvF (.mk op ks) 63 210).1 = 0 from by unfold satV; rw [hb]; rfl, show satE (N.take 18) (L.take 18) (cvF (.mk op ks) 63 210).1 = 2 from by unfold satE; rw [hb]; rfl] at hc
  exact hc
theorem Sat_yes {dN dL : DV} {N L : List Int} {op : ByteArray} {ks : List Fo} (hN : Ints dN N) (hL : Ints dL L) (hv : validS N L = true) (hr : rightB (.mk op ks) = true) : DeepCall Try.prog 9 [.agg [l18 N dN, l18 L dL], foV (cvF (.mk op ks) 63 210).1] (.tup [DI (satF (toN N) (toN L) (.mk op ks) : Nat), DI 0]) := by
  have hc := Sat9 (op := (cvF (.mk op ks) 63 210).1.op) (ks := (cvF (.mk op ks) 63 210).1.ks) (l18_ints hN) (l18_ints hL) ⟨by simp; omega, by simp; omega⟩ (kidsV_ok _)
  rw [fo_eta] at hc
  obtain ⟨hb, he⟩ := sat_yes hv hr
  rw [he, show satE (N.take 18) (L.take 18) (cvF (.mk op ks) 63 210).1 = 0 from by unfold satE; rw [hb]; rfl] at hc
  exact hc
theorem right_wf {f : Fo} (h : rightB f = true) : wfF f = true := by rw [right_fit, fit_iff] at h; exact h.1
set_option maxRecDepth 10000 in
theorem law_sat_no {dN dL kd : DV} {N L : List Int} {op : ByteArray} {ks : List Fo} (hN : Ints dN N) (hL : Ints dL L) (hNl : N.length ≤ 9223372036854775807) (hLl : L.length ≤ 9223372036854775807) (hk : KidsD kd ks) (h : (validS N L && rightB (.mk op ks)) = false) : DeepCall Try.prog 3 [.agg [dN, dL], .agg [.lit (.string op), kd]] (DB true) := by
  refine deepCall_K 5 Try.func3 rfl (Nat.le_of_ble_eq_true rfl) fun M W0 => ?_
  refine KC.seq ?_
  refine KC.region ?_
  refine KT.step rfl rfl (K.box rfl) ?_
  refine KT.step rfl rfl (K.box rfl) ?_
  refine KT.step rfl rfl (K.assign rfl) ?_
  refine KT.nil ?_
  refine thenK_n ?_
  refine KC.seq ?_
  refine KC.draw Try.mixed ?_
  refine KT.step rfl rfl (K.loadOA ([dN, dL]) rfl rfl (by decide) Try.agg24 Try.size24 rfl) ?_
  refine KT.step rfl rfl (K.call1 rfl plainTry_10 (of10 hN hL)) ?_
  refine KT.step rfl rfl (K.loadOA ([.lit (.string op), kd]) rfl rfl (by decide) Try.agg27 Try.size27 rfl) ?_
  refine KT.step rfl rfl (K.call2 rfl rfl plainTry_11 (formula11 (left := 63) hk (by decide))) ?_
  refine KT.step rfl rfl (K.call2 rfl rfl plainTry_9 (Sat_no hN hL h)) ?_
  refine KT.step rfl rfl (K.move rfl) ?_
  refine KT.step rfl rfl (K.extract rfl rfl) ?_
  refine KT.step rfl rfl (K.extract rfl rfl) ?_
  refine KT.step rfl rfl (K.assign rfl) ?_
  refine KT.step rfl rfl (K.assign rfl) ?_
  refine KT.nil ?_
  refine ⟨by kernel_rfl, ?_⟩
  refine thenK_n ?_
  refine KC.seq ?_
  refine KC.seq ?_
  refine KC.region ?_
  refine KT.step rfl rfl (K.loadOA ([dN, dL]) rfl rfl (by decide) Try.agg24 Try.size24 rfl) ?_
  refine KT.step rfl rfl (K.call1 rfl plainTry_12 (rvalid12 hN hL ⟨hNl, hLl⟩)) ?_
  refine KT.step rfl rfl (K.not rfl) ?_
  refine KT.step rfl rfl (K.move rfl) ?_
  refine KT.bcase (fun hb18 => ?_) (fun hb18 => ?_)
  · skip
    refine KT.skip rfl rfl ?_
    refine KT.skip rfl rfl ?_
    refine KT.skip rfl rfl ?_
    refine KT.step rfl rfl (K.pick rfl (fun _ => rfl) (fun h => by cases h)) ?_
    refine KT.nil ?_
    refine thenK_n ?_
    refine KC.cond rfl (fun hc22 => ?_) (fun hc22 => ?_)
    · skip
      refine KC.seq ?_
      refine KC.region ?_
      refine KT.step rfl rfl (K.move rfl) ?_
      refine KT.step rfl rfl (K.eql rfl rfl) ?_
      refine KT.step rfl rfl (K.move rfl) ?_
      refine KT.step rfl rfl (K.move rfl) ?_
      refine KT.step rfl rfl (K.eql rfl rfl) ?_
      refine KT.step rfl rfl (K.pick rfl (fun _ => rfl) (fun h => by cases h)) ?_
      refine KT.step rfl rfl (K.move rfl) ?_
      refine KT.step rfl rfl (K.call0 plainTry_14 (awake14)) ?_
      refine KT.step rfl rfl (K.pick rfl (fun _ => rfl) (fun h => by cases h)) ?_
      refine KT.step rfl rfl (K.assign rfl) ?_
      refine KT.nil ?_
      refine thenK_n ?_
      refine KC.ret ?_
      refine thenK_r ?_
      exact ⟨.inl rfl, _, rfl, fin_b rfl⟩
    · cases hc22
  · skip
    refine KT.step rfl rfl (K.loadOA ([.lit (.string op), kd]) rfl rfl (by decide) Try.agg27 Try.size27 rfl) ?_
    refine KT.step rfl rfl (K.call1 rfl plainTry_13 (right13 hk)) ?_
    refine KT.step rfl rfl (K.not rfl) ?_
    refine KT.step rfl rfl (K.pick rfl (fun h => by cases h) (fun _ => rfl)) ?_
    refine KT.nil ?_
    refine thenK_n ?_
    refine KC.cond rfl (fun hc22 => ?_) (fun hc22 => ?_)
    · skip
      refine KC.seq ?_
      refine KC.region ?_
      refine KT.step rfl rfl (K.move rfl) ?_
      refine KT.step rfl rfl (K.eql rfl rfl) ?_
      refine KT.step rfl rfl (K.move rfl) ?_
      refine KT.step rfl rfl (K.move rfl) ?_
      refine KT.step rfl rfl (K.eql rfl rfl) ?_
      refine KT.step rfl rfl (K.pick rfl (fun _ => rfl) (fun h => by cases h)) ?_
      refine KT.step rfl rfl (K.move rfl) ?_
      refine KT.step rfl rfl (K.call0 plainTry_14 (awake14)) ?_
      refine KT.step rfl rfl (K.pick rfl (fun _ => rfl) (fun h => by cases h)) ?_
      refine KT.step rfl rfl (K.assign rfl) ?_
      refine KT.nil ?_
      refine thenK_n ?_
      refine KC.ret ?_
      refine thenK_r ?_
      exact ⟨.inl rfl, _, rfl, fin_b rfl⟩
    · skip
      rw [Bool.not_eq_false'] at hb18 hc22
      rw [hb18, hc22] at h
      exact absurd h (by decide)
set_option maxRecDepth 10000 in
theorem law_sat_yes {dN dL kd : DV} {N L : List Int} {op : ByteArray} {ks : List Fo} (hN : Ints dN N) (hL : Ints dL L) (hNl : N.length ≤ 9223372036854775807) (hLl : L.length ≤ 9223372036854775807) (hk : KidsD kd ks) (hv : validS N L = true) (hr : rightB (.mk op ks) = true) : DeepCall Try.prog 3 [.agg [dN, dL], .agg [.lit (.string op), kd]] (DB true) := by
  refine deepCall_K 5 Try.func3 rfl (Nat.le_of_ble_eq_true rfl) fun M W0 => ?_
  refine KC.seq ?_
  refine KC.region ?_
  refine KT.step rfl rfl (K.box rfl) ?_
  refine KT.step rfl rfl (K.box rfl) ?_
  refine KT.step rfl rfl (K.assign rfl) ?_
  refine KT.nil ?_
  refine thenK_n ?_
  refine KC.seq ?_
  refine KC.draw Try.mixed ?_
  refine KT.step rfl rfl (K.loadOA ([dN, dL]) rfl rfl (by decide) Try.agg24 Try.size24 rfl) ?_
  refine KT.step rfl rfl (K.call1 rfl plainTry_10 (of10 hN hL)) ?_
  refine KT.step rfl rfl (K.loadOA ([.lit (.string op), kd]) rfl rfl (by decide) Try.agg27 Try.size27 rfl) ?_
  refine KT.step rfl rfl (K.call2 rfl rfl plainTry_11 (formula11 (left := 63) hk (by decide))) ?_
  refine KT.step rfl rfl (K.call2 rfl rfl plainTry_9 (Sat_yes hN hL hv hr)) ?_
  refine KT.step rfl rfl (K.move rfl) ?_
  refine KT.step rfl rfl (K.extract rfl rfl) ?_
  refine KT.step rfl rfl (K.extract rfl rfl) ?_
  refine KT.step rfl rfl (K.assign rfl) ?_
  refine KT.step rfl rfl (K.assign rfl) ?_
  refine KT.nil ?_
  refine ⟨by kernel_rfl, ?_⟩
  refine thenK_n ?_
  refine KC.seq ?_
  refine KC.seq ?_
  refine KC.region ?_
  refine KT.step rfl rfl (K.loadOA ([dN, dL]) rfl rfl (by decide) Try.agg24 Try.size24 rfl) ?_
  refine KT.step rfl rfl (K.call1 rfl plainTry_12 (rvalid12 hN hL ⟨hNl, hLl⟩)) ?_
  refine KT.step rfl rfl (K.not rfl) ?_
  refine KT.step rfl rfl (K.move rfl) ?_
  refine KT.bcase (fun hb18 => ?_) (fun hb18 => ?_)
  · skip
    rw [Bool.not_eq_true', hv] at hb18
    cases hb18
  · skip
    refine KT.step rfl rfl (K.loadOA ([.lit (.string op), kd]) rfl rfl (by decide) Try.agg27 Try.size27 rfl) ?_
    refine KT.step rfl rfl (K.call1 rfl plainTry_13 (right13 hk)) ?_
    refine KT.step rfl rfl (K.not rfl) ?_
    refine KT.step rfl rfl (K.pick rfl (fun h => by cases h) (fun _ => rfl)) ?_
    refine KT.nil ?_
    refine thenK_n ?_
    refine KC.cond rfl (fun hc22 => ?_) (fun hc22 => ?_)
    · skip
      rw [Bool.not_eq_true', hr] at hc22
      cases hc22
    · skip
      refine KC.skip ?_
      refine thenK_n ?_
      refine KC.seq ?_
      refine KC.region ?_
      refine KT.step rfl rfl (K.move rfl) ?_
      refine KT.step rfl rfl (K.loadOA ([dN, dL]) rfl rfl (by decide) Try.agg24 Try.size24 rfl) ?_
      refine KT.step rfl rfl (K.loadOA ([.lit (.string op), kd]) rfl rfl (by decide) Try.agg27 Try.size27 rfl) ?_
      refine KT.step rfl rfl (K.call2 rfl rfl plainTry_15 (rsat15 (str_of hN hL hv) (tot_of2 hv) op ks kd (right_wf hr) hk)) ?_
      refine KT.step rfl rfl (K.eql rfl rfl) ?_
      refine KT.step rfl rfl (K.move rfl) ?_
      refine KT.bcase (fun hb37 => ?_) (fun hb37 => ?_)
      · skip
        replace hb37 := of_decide_eq_true hb37
        refine KT.step rfl rfl (K.move rfl) ?_
        refine KT.step rfl rfl (K.eql rfl rfl) ?_
        refine KT.step rfl rfl (K.pick rfl (fun _ => rfl) (fun h => by cases h)) ?_
        refine KT.step rfl rfl (K.move rfl) ?_
        refine KT.step rfl rfl (K.call0 plainTry_14 (awake14)) ?_
        refine KT.step rfl rfl (K.pick rfl (fun _ => rfl) (fun h => by cases h)) ?_
        refine KT.step rfl rfl (K.assign rfl) ?_
        refine KT.nil ?_
        refine thenK_n ?_
        refine KC.ret ?_
        exact ⟨.inl rfl, _, rfl, fin_b rfl⟩
      · skip
        exact absurd rfl (of_decide_eq_false hb37)
theorem law_sat {dN dL kd : DV} {N L : List Int} {op : ByteArray} {ks : List Fo} (hN : Ints dN N) (hL : Ints dL L) (hNl : N.length ≤ 9223372036854775807) (hLl : L.length ≤ 9223372036854775807) (hk : KidsD kd ks) : DeepCall Try.prog 3 [.agg [dN, dL], .agg [.lit (.string op), kd]] (DB true) := by
  cases hv : validS N L with
  | false => exact law_sat_no hN hL hNl hLl hk (by rw [hv]; rfl)
  | true => cases hr : rightB (.mk op ks) with
    | false => exact law_sat_no hN hL hNl hLl hk (by rw [hr, Bool.and_false])
    | true => exact law_sat_yes hN hL hNl hLl hk hv hr
end Go.Proofs.Ytcjcchceeidgkaa

