import Derived.Test.YtcjcchceeidgkaaLgPe
import Derived.Test.YtcjcchceeidgkaaLgPc
import Derived.Test.YtcjcchceeidgkaaLgY
import Derived.Test.YtcjcchceeidgkaaLgO
/-
  The law LogicPaths.
-/
namespace Go.Proofs.Ytcjcchceeidgkaa
open Go.Vm Go.Lg
theorem plainTry_4 : plainFn Try.prog 4 = true := by kernel_rfl
theorem cw_eq {N L : List Int} {f : Fo} : cwB (N.take 18) (L.take 18) (cvF f 63 210).1 = ((validS N L && rightB f) && shownB f.op) := by
  unfold cwB
  rw [valid_take, (cv_right f).1, cvF_op]
theorem CW_no {dN dL dQ : DV} {N L Q : List Int} {lp : Int} {op : ByteArray} {ks : List Fo} (hN : Ints dN N) (hL : Ints dL L) (hQ : Ints dQ Q) (h : ((validS N L && rightB (.mk op ks)) && shownB op) = false) : DeepCall Try.prog 16 [.agg [l18 N dN, l18 L dL], foV (cvF (.mk op ks) 63 210).1, .agg [l70 Q dQ, DI lp]] (.tup [DB false, DI 2]) := by
  have hc := CheckWitness16 (op := (cvF (.mk op ks) 63 210).1.op) (ks := (cvF (.mk op ks) 63 210).1.ks) (lp := lp) (l18_ints hN) (l18_ints hL) ⟨by simp; omega, by simp; omega⟩ (kidsV_ok _) (l70_ints hQ) (by simp; omega)
  rw [fo_eta] at hc
  have hb : cwB (N.take 18) (L.take 18) (cvF (.mk op ks) 63 210).1 = false := cw_eq.trans h
  rw [show cwV (N.take 18) (L.take 18) (cvF (.mk op ks) 63 210).1 (Q.take 70) lp = false from by unfold cwV; rw [hb]; rfl, show cwE (N.take 18) (L.take 18) (cvF (.mk op ks) 63 210).1 = 2 from by unfold cwE; rw [hb]; rfl] at hc
  exact hc
theorem CW_yes {dN dL dQ : DV} {N L Q : List Int} {lp : Int} {op : ByteArray} {ks : List Fo} (hN : Ints dN N) (hL : Ints dL L) (hQ : Ints dQ Q) (hv : validS N L = true) (hr : rightB (.mk op ks) = true) (hs : shownB op = true) : DeepCall Try.prog 16 [.agg [l18 N dN, l18 L dL], foV (cvF (.mk op ks) 63 210).1, .agg [l70 Q dQ, DI lp]] (.tup [DB (fitsB (toN N) Q lp && showB op (Q.take 70) lp ((satL (toN N) (toN L) ks).getD 0 0) ((satL (toN N) (toN L) ks).getD 1 0)), DI 0]) := by
  have hc := CheckWitness16 (op := (cvF (.mk op ks) 63 210).1.op) (ks := (cvF (.mk op ks) 63 210).1.ks) (lp := lp) (l18_ints hN) (l18_ints hL) ⟨by simp; omega, by simp; omega⟩ (kidsV_ok _) (l70_ints hQ) (by simp; omega)
  rw [fo_eta] at hc
  have hb : cwB (N.take 18) (L.take 18) (cvF (.mk op ks) 63 210).1 = true := cw_eq.trans (by rw [hv, hr, show shownB (Fo.mk op ks).op = true from hs]; rfl)
  rw [show cwE (N.take 18) (L.take 18) (cvF (.mk op ks) 63 210).1 = 0 from by unfold cwE; rw [hb]; rfl, show cwV (N.take 18) (L.take 18) (cvF (.mk op ks) 63 210).1 (Q.take 70) lp = (fitsB (toN N) Q lp && showB op (Q.take 70) lp ((satL (toN N) (toN L) ks).getD 0 0) ((satL (toN N) (toN L) ks).getD 1 0)) from by
    unfold cwV; rw [hb, (cv_right _).2 hr, (take_valid hv).1, (take_valid hv).2, fits_take]; rfl] at hc
  exact hc
/-- The reference's answer. -/
def witV (N L : List Int) (op : ByteArray) (ks : List Fo) (Q : List Int) (lp : Int) : Bool := fitsB (toN N) Q lp && showB op (Q.take 70) lp ((satL (toN N) (toN L) ks).getD 0 0) ((satL (toN N) (toN L) ks).getD 1 0)
theorem wit_ok {dN dL kd dQ : DV} {N L Q : List Int} {lp : Int} {op : ByteArray} {ks : List Fo} (hN : Ints dN N) (hL : Ints dL L) (hQ : Ints dQ Q) (hNl : N.length ≤ 9223372036854775807) (hLl : L.length ≤ 9223372036854775807) (hQl : Q.length ≤ 9223372036854775807) (hk : KidsD kd ks) (hv : validS N L = true) (hr : rightB (.mk op ks) = true) (hs : shownB op = true) : DeepCall Try.prog 19 [.agg [dN, dL], .agg [.lit (.string op), kd], .agg [dQ, DI lp]] (DB (witV N L op ks Q lp)) := by
  have hS := str_of hN hL hv
  obtain ⟨_, _, ha, hw⟩ := wfF_mk (right_wf hr)
  obtain ⟨a0, a1⟩ := ar1 ha hs
  unfold witV
  cases hf : fitsB (toN N) Q lp with
  | false => exact rwit_no (ks := ks) hS hQ hQl hf
  | true =>
    obtain ⟨g1, g2, g3, g4⟩ := headB_iff.1 (fits_all hf).1
    rw [Bool.true_and, List.take_of_length_le (show Q.length ≤ 70 by omega)]
    cases hQ with
    | nil => exact absurd g1 (by decide)
    | @sl cs _ cap hn h => exact rwit_yes hS (tot_of2 hv) hk (.sl hn h) hn hQl hf hw a0 a1 rfl rfl
set_option maxRecDepth 10000 in
theorem law_paths_no {dN dL kd dQ : DV} {N L Q : List Int} {lp : Int} {op : ByteArray} {ks : List Fo} (hN : Ints dN N) (hL : Ints dL L) (hQ : Ints dQ Q) (hNl : N.length ≤ 9223372036854775807) (hLl : L.length ≤ 9223372036854775807) (hQl : Q.length ≤ 9223372036854775807) (hk : KidsD kd ks) (h : ((validS N L && rightB (.mk op ks)) && shownB op) = false) : DeepCall Try.prog 4 [.agg [dN, dL], .agg [.lit (.string op), kd], .agg [dQ, DI lp]] (DB true) := by
  refine deepCall_K 5 Try.func4 rfl (Nat.le_of_ble_eq_true rfl) fun M W0 => ?_
  refine KC.seq ?_
  refine KC.region ?_
  refine KT.step rfl rfl (K.box rfl) ?_
  refine KT.step rfl rfl (K.box rfl) ?_
  refine KT.step rfl rfl (K.box rfl) ?_
  refine KT.step rfl rfl (K.assign rfl) ?_
  refine KT.nil ?_
  refine thenK_n ?_
  refine KC.seq ?_
  refine KC.draw Try.mixed ?_
  refine KT.step rfl rfl (K.loadOA ([dN, dL]) rfl rfl (by decide) Try.agg24 Try.size24 rfl) ?_
  refine KT.step rfl rfl (K.call1 rfl plainTry_10 (of10 hN hL)) ?_
  refine KT.step rfl rfl (K.loadOA ([.lit (.string op), kd]) rfl rfl (by decide) Try.agg27 Try.size27 rfl) ?_
  refine KT.step rfl rfl (K.call2 rfl rfl plainTry_11 (formula11 (left := 63) hk (by decide))) ?_
  refine KT.step rfl rfl (K.loadOA ([dQ, DI lp]) rfl rfl (by decide) Try.agg43 Try.size43 rfl) ?_
  refine KT.step rfl rfl (K.call1 rfl plainTry_17 (path17 hQ)) ?_
  refine KT.step rfl rfl (K.call3 rfl rfl rfl plainTry_16 (CW_no hN hL hQ h)) ?_
  refine KT.step rfl rfl (K.move rfl) ?_
  refine KT.step rfl rfl (K.extract rfl rfl) ?_
  refine KT.step rfl rfl (K.extract rfl rfl) ?_
  refine KT.step rfl rfl (K.assign rfl) ?_
  refine KT.step rfl rfl (K.assign rfl) ?_
  refine KT.nil ?_
  refine ⟨by kernel_rfl, ?_⟩
  refine thenK_n ?_
  refine KC.seq ?_
  refine KC.seq ?_
  refine KC.region ?_
  refine KT.step rfl rfl (K.loadOA ([dN, dL]) rfl rfl (by decide) Try.agg24 Try.size24 rfl) ?_
  refine KT.step rfl rfl (K.call1 rfl plainTry_12 (rvalid12 hN hL ⟨hNl, hLl⟩)) ?_
  refine KT.step rfl rfl (K.not rfl) ?_
  refine KT.step rfl rfl (K.move rfl) ?_
  refine KT.bcase (fun hb22 => ?_) (fun hb22 => ?_)
  · skip
    refine KT.skip rfl rfl ?_
    refine KT.skip rfl rfl ?_
    refine KT.skip rfl rfl ?_
    refine KT.step rfl rfl (K.pick rfl (fun _ => rfl) (fun h => by cases h)) ?_
    refine KT.step rfl rfl (K.move rfl) ?_
    refine KT.skip rfl rfl ?_
    refine KT.skip rfl rfl ?_
    refine KT.skip rfl rfl ?_
    refine KT.step rfl rfl (K.pick rfl (fun _ => rfl) (fun h => by cases h)) ?_
    refine KT.nil ?_
    refine thenK_n ?_
    refine KC.cond rfl (fun hc31 => ?_) (fun hc31 => ?_)
    · skip
      refine KC.seq ?_
      refine KC.region ?_
      refine KT.step rfl rfl (K.move rfl) ?_
      refine KT.step rfl rfl (K.not rfl) ?_
      refine KT.step rfl rfl (K.move rfl) ?_
      refine KT.step rfl rfl (K.move rfl) ?_
      refine KT.step rfl rfl (K.eql rfl rfl) ?_
      refine KT.step rfl rfl (K.pick rfl (fun _ => rfl) (fun h => by cases h)) ?_
      refine KT.step rfl rfl (K.move rfl) ?_
      refine KT.step rfl rfl (K.call0 plainTry_14 (awake14)) ?_
      refine KT.step rfl rfl (K.pick rfl (fun _ => rfl) (fun h => by cases h)) ?_
      refine KT.step rfl rfl (K.assign rfl) ?_
      refine KT.nil ?_
      refine thenK_n ?_
      refine KC.ret ?_
      refine thenK_r ?_
      exact ⟨.inl rfl, _, rfl, fin_b rfl⟩
    · cases hc31
  · skip
    refine KT.step rfl rfl (K.loadOA ([.lit (.string op), kd]) rfl rfl (by decide) Try.agg27 Try.size27 rfl) ?_
    refine KT.step rfl rfl (K.call1 rfl plainTry_13 (right13 hk)) ?_
    refine KT.step rfl rfl (K.not rfl) ?_
    refine KT.step rfl rfl (K.pick rfl (fun h => by cases h) (fun _ => rfl)) ?_
    refine KT.step rfl rfl (K.move rfl) ?_
    refine KT.bcase (fun hb27 => ?_) (fun hb27 => ?_)
    · skip
      refine KT.skip rfl rfl ?_
      refine KT.skip rfl rfl ?_
      refine KT.skip rfl rfl ?_
      refine KT.step rfl rfl (K.pick rfl (fun _ => rfl) (fun h => by cases h)) ?_
      refine KT.nil ?_
      refine thenK_n ?_
      refine KC.cond rfl (fun hc31 => ?_) (fun hc31 => ?_)
      · skip
        refine KC.seq ?_
        refine KC.region ?_
        refine KT.step rfl rfl (K.move rfl) ?_
        refine KT.step rfl rfl (K.not rfl) ?_
        refine KT.step rfl rfl (K.move rfl) ?_
        refine KT.step rfl rfl (K.move rfl) ?_
        refine KT.step rfl rfl (K.eql rfl rfl) ?_
        refine KT.step rfl rfl (K.pick rfl (fun _ => rfl) (fun h => by cases h)) ?_
        refine KT.step rfl rfl (K.move rfl) ?_
        refine KT.step rfl rfl (K.call0 plainTry_14 (awake14)) ?_
        refine KT.step rfl rfl (K.pick rfl (fun _ => rfl) (fun h => by cases h)) ?_
        refine KT.step rfl rfl (K.assign rfl) ?_
        refine KT.nil ?_
        refine thenK_n ?_
        refine KC.ret ?_
        refine thenK_r ?_
        exact ⟨.inl rfl, _, rfl, fin_b rfl⟩
      · cases hc31
    · skip
      refine KT.step rfl rfl (K.loadOA ([.lit (.string op), kd]) rfl rfl (by decide) Try.agg27 Try.size27 rfl) ?_
      refine KT.step rfl rfl (K.call1 rfl plainTry_18 (rshows18 hk)) ?_
      refine KT.step rfl rfl (K.not rfl) ?_
      refine KT.step rfl rfl (K.pick rfl (fun h => by cases h) (fun _ => rfl)) ?_
      refine KT.nil ?_
      refine thenK_n ?_
      refine KC.cond rfl (fun hc31 => ?_) (fun hc31 => ?_)
      · skip
        refine KC.seq ?_
        refine KC.region ?_
        refine KT.step rfl rfl (K.move rfl) ?_
        refine KT.step rfl rfl (K.not rfl) ?_
        refine KT.step rfl rfl (K.move rfl) ?_
        refine KT.step rfl rfl (K.move rfl) ?_
        refine KT.step rfl rfl (K.eql rfl rfl) ?_
        refine KT.step rfl rfl (K.pick rfl (fun _ => rfl) (fun h => by cases h)) ?_
        refine KT.step rfl rfl (K.move rfl) ?_
        refine KT.step rfl rfl (K.call0 plainTry_14 (awake14)) ?_
        refine KT.step rfl rfl (K.pick rfl (fun _ => rfl) (fun h => by cases h)) ?_
        refine KT.step rfl rfl (K.assign rfl) ?_
        refine KT.nil ?_
        refine thenK_n ?_
        refine KC.ret ?_
        refine thenK_r ?_
        exact ⟨.inl rfl, _, rfl, fin_b rfl⟩
      · skip
        rw [Bool.not_eq_false'] at hb22 hb27 hc31
        rw [hb22, hb27, hc31] at h
        exact absurd h (by decide)
set_option maxRecDepth 10000 in
theorem law_paths_yes {dN dL kd dQ : DV} {N L Q : List Int} {lp : Int} {op : ByteArray} {ks : List Fo} (hN : Ints dN N) (hL : Ints dL L) (hQ : Ints dQ Q) (hNl : N.length ≤ 9223372036854775807) (hLl : L.length ≤ 9223372036854775807) (hQl : Q.length ≤ 9223372036854775807) (hk : KidsD kd ks) (hv : validS N L = true) (hr : rightB (.mk op ks) = true) (hs : shownB op = true) : DeepCall Try.prog 4 [.agg [dN, dL], .agg [.lit (.string op), kd], .agg [dQ, DI lp]] (DB true) := by
  refine deepCall_K 5 Try.func4 rfl (Nat.le_of_ble_eq_true rfl) fun M W0 => ?_
  refine KC.seq ?_
  refine KC.region ?_
  refine KT.step rfl rfl (K.box rfl) ?_
  refine KT.step rfl rfl (K.box rfl) ?_
  refine KT.step rfl rfl (K.box rfl) ?_
  refine KT.step rfl rfl (K.assign rfl) ?_
  refine KT.nil ?_
  refine thenK_n ?_
  refine KC.seq ?_
  refine KC.draw Try.mixed ?_
  refine KT.step rfl rfl (K.loadOA ([dN, dL]) rfl rfl (by decide) Try.agg24 Try.size24 rfl) ?_
  refine KT.step rfl rfl (K.call1 rfl plainTry_10 (of10 hN hL)) ?_
  refine KT.step rfl rfl (K.loadOA ([.lit (.string op), kd]) rfl rfl (by decide) Try.agg27 Try.size27 rfl) ?_
  refine KT.step rfl rfl (K.call2 rfl rfl plainTry_11 (formula11 (left := 63) hk (by decide))) ?_
  refine KT.step rfl rfl (K.loadOA ([dQ, DI lp]) rfl rfl (by decide) Try.agg43 Try.size43 rfl) ?_
  refine KT.step rfl rfl (K.call1 rfl plainTry_17 (path17 hQ)) ?_
  refine KT.step rfl rfl (K.call3 rfl rfl rfl plainTry_16 (CW_yes hN hL hQ hv hr hs)) ?_
  refine KT.step rfl rfl (K.move rfl) ?_
  refine KT.step rfl rfl (K.extract rfl rfl) ?_
  refine KT.step rfl rfl (K.extract rfl rfl) ?_
  refine KT.step rfl rfl (K.assign rfl) ?_
  refine KT.step rfl rfl (K.assign rfl) ?_
  refine KT.nil ?_
  refine ⟨by kernel_rfl, ?_⟩
  refine thenK_n ?_
  refine KC.seq ?_
  refine KC.seq ?_
  refine KC.region ?_
  refine KT.step rfl rfl (K.loadOA ([dN, dL]) rfl rfl (by decide) Try.agg24 Try.size24 rfl) ?_
  refine KT.step rfl rfl (K.call1 rfl plainTry_12 (rvalid12 hN hL ⟨hNl, hLl⟩)) ?_
  refine KT.step rfl rfl (K.not rfl) ?_
  refine KT.step rfl rfl (K.move rfl) ?_
  refine KT.bcase (fun hb22 => ?_) (fun hb22 => ?_)
  · skip
    rw [Bool.not_eq_true', hv] at hb22
    cases hb22
  · skip
    refine KT.step rfl rfl (K.loadOA ([.lit (.string op), kd]) rfl rfl (by decide) Try.agg27 Try.size27 rfl) ?_
    refine KT.step rfl rfl (K.call1 rfl plainTry_13 (right13 hk)) ?_
    refine KT.step rfl rfl (K.not rfl) ?_
    refine KT.step rfl rfl (K.pick rfl (fun h => by cases h) (fun _ => rfl)) ?_
    refine KT.step rfl rfl (K.move rfl) ?_
    refine KT.bcase (fun hb27 => ?_) (fun hb27 => ?_)
    · skip
      rw [Bool.not_eq_true', hr] at hb27
      cases hb27
    · skip
      refine KT.step rfl rfl (K.loadOA ([.lit (.string op), kd]) rfl rfl (by decide) Try.agg27 Try.size27 rfl) ?_
      refine KT.step rfl rfl (K.call1 rfl plainTry_18 (rshows18 hk)) ?_
      refine KT.step rfl rfl (K.not rfl) ?_
      refine KT.step rfl rfl (K.pick rfl (fun h => by cases h) (fun _ => rfl)) ?_
      refine KT.nil ?_
      refine thenK_n ?_
      refine KC.cond rfl (fun hc31 => ?_) (fun hc31 => ?_)
      · skip
        rw [Bool.not_eq_true', hs] at hc31
        cases hc31
      · skip
        refine KC.skip ?_
        refine thenK_n ?_
        refine KC.seq ?_
        refine KC.region ?_
        refine KT.step rfl rfl (K.move rfl) ?_
        refine KT.step rfl rfl (K.loadOA ([dN, dL]) rfl rfl (by decide) Try.agg24 Try.size24 rfl) ?_
        refine KT.step rfl rfl (K.loadOA ([.lit (.string op), kd]) rfl rfl (by decide) Try.agg27 Try.size27 rfl) ?_
        refine KT.step rfl rfl (K.loadOA ([dQ, DI lp]) rfl rfl (by decide) Try.agg43 Try.size43 rfl) ?_
        refine KT.step rfl rfl (K.call3 rfl rfl rfl plainTry_19 (wit_ok hN hL hQ hNl hLl hQl hk hv hr hs)) ?_
        refine KT.step rfl rfl (K.eqB Try.underlying4 rfl rfl) ?_
        refine KT.step rfl rfl (K.move rfl) ?_
        refine KT.bcase (fun hb47 => ?_) (fun hb47 => ?_)
        · skip
          refine KT.step rfl rfl (K.move rfl) ?_
          refine KT.step rfl rfl (K.eql rfl rfl) ?_
          refine KT.step rfl rfl (K.pick rfl (fun _ => rfl) (fun h => by cases h)) ?_
          refine KT.step rfl rfl (K.move rfl) ?_
          refine KT.step rfl rfl (K.call0 plainTry_14 (awake14)) ?_
          refine KT.step rfl rfl (K.pick rfl (fun _ => rfl) (fun h => by cases h)) ?_
          refine KT.step rfl rfl (K.assign rfl) ?_
          refine KT.nil ?_
          refine thenK_n ?_
          refine KC.ret ?_
          exact ⟨.inl rfl, _, rfl, fin_b rfl⟩
        · skip
          exact absurd rfl (of_decide_eq_false hb47)
theorem law_paths {dN dL kd dQ : DV} {N L Q : List Int} {lp : Int} {op : ByteArray} {ks : List Fo} (hN : Ints dN N) (hL : Ints dL L) (hQ : Ints dQ Q) (hNl : N.length ≤ 9223372036854775807) (hLl : L.length ≤ 9223372036854775807) (hQl : Q.length ≤ 9223372036854775807) (hk : KidsD kd ks) : DeepCall Try.prog 4 [.agg [dN, dL], .agg [.lit (.string op), kd], .agg [dQ, DI lp]] (DB true) := by
  cases h : ((validS N L && rightB (.mk op ks)) && shownB op) with
  | false => exact law_paths_no hN hL hQ hNl hLl hQl hk h
  | true =>
    simp only [Bool.and_eq_true] at h
    exact law_paths_yes hN hL hQ hNl hLl hQl hk h.1.1 h.1.2 h.2
def PaP (ds : List DV) : Prop := ∃ dQ Q lp, ds = [dQ, DI lp] ∧ Ints dQ Q ∧ Q.length ≤ 9223372036854775807
theorem open_path : Opn Try.prog 43 PaP := by
  refine (Opn.struct Try.underlying43 [(1, (One fun d => ∃ l, Ints d l ∧ l.length ≤ 9223372036854775807)), (1, (One fun d => ∃ n, IsI d n))] (fun i => i) rfl rfl (by kernel_rfl) fun i f q hf hq => ?_).mono fun ds h => ?_
  · match i with
    | 0 => simp at hf hq; subst hf hq; exact ⟨rfl, by kernel_rfl, rfl, open_ints⟩
    | 1 => simp at hf hq; subst hf hq; exact ⟨rfl, by kernel_rfl, rfl, open_i⟩
    | i + 2 => simp at hf
  · obtain ⟨_, _, rfl, _, ⟨a, rfl, N, h1, h2⟩, _, _, rfl, _, ⟨b, rfl, n, rfl⟩, rfl⟩ := h
    exact ⟨a, N, n, rfl, h1, h2⟩
end Go.Proofs.Ytcjcchceeidgkaa

