import Derived.Test.YtcjcchceeidgkaaLgPb
import Derived.Test.YtcjcchceeidgkaaLgK
/-
  Logic: CheckWitness.
-/
namespace Go.Proofs.Ytcjcchceeidgkaa
open Go.Vm Go.Lg
theorem plainTry_16 : plainFn Try.prog 16 = true := by kernel_rfl
theorem plainTry_17 : plainFn Try.prog 17 = true := by kernel_rfl

def l70 (l : List Int) (d : DV) : DV := cloneD (takeV (min l.length 70) d)
theorem l70_ints {d : DV} {l : List Int} (hd : Ints d l) : Ints (l70 l d) (l.take 70) := by
  have h := takeV_vec hd (Nat.min_le_left l.length 70)
  have e : l.take (min l.length 70) = l.take 70 := by
    rcases Nat.le_total l.length 70 with h | h
    · rw [Nat.min_eq_left h, List.take_of_length_le (Nat.le_refl _), List.take_of_length_le h]
    · rw [Nat.min_eq_right h]
  rw [e] at h
  exact cloneD_vec h
/-- Whether CheckWitness has an answer, and which. -/
def cwB (N L : List Int) (f : Fo) : Bool := (validS N L && (fitF f 60 200).1) && shownB f.op
def cwV (N L : List Int) (f : Fo) (Q : List Int) (lp : Int) : Bool := cwB N L f && (fitsB (toN N) Q lp && showB f.op Q lp ((satL (toN N) (toN L) f.ks).getD 0 0) ((satL (toN N) (toN L) f.ks).getD 1 0))
def cwE (N L : List Int) (f : Fo) : Int := if cwB N L f then 0 else 2
set_option maxRecDepth 10000 in
theorem CheckWitness16 {dn dl kd : DV} {N L : List Int} {op : ByteArray} {ks : List Fo} (hN : Ints dn N) (hL : Ints dl L) (hl : N.length ≤ 9223372036854775807 ∧ L.length ≤ 9223372036854775807) (hk : KidsD kd ks) {dQ : DV} {Q : List Int} {lp : Int} (hQ : Ints dQ Q) (hQl : Q.length ≤ 9223372036854775807) : DeepCall Try.prog 16 [.agg [dn, dl], .agg [.lit (.string op), kd], .agg [dQ, DI lp]] (.tup [DB (cwV N L (.mk op ks) Q lp), DI (cwE N L (.mk op ks))]) := by
  refine deepCall_K 5 Try.func16 rfl (Nat.le_of_ble_eq_true rfl) fun M W0 => ?_
  refine KC.seq ?_
  refine KC.region ?_
  refine KT.step rfl rfl (K.box rfl) ?_
  refine KT.step rfl rfl (K.box rfl) ?_
  refine KT.step rfl rfl (K.box rfl) ?_
  refine KT.step rfl rfl (K.assign rfl) ?_
  refine KT.step rfl rfl (K.assign rfl) ?_
  refine KT.nil ?_
  refine thenK_n ?_
  refine KC.seq ?_
  refine KC.seq ?_
  refine KC.region ?_
  refine KT.step rfl rfl (K.loadOA ([dn, dl]) rfl rfl (by decide) Try.agg31 Try.size31 rfl) ?_
  refine KT.step rfl rfl (K.call1 rfl plainTry_27 (valid27 hN hL hl)) ?_
  refine KT.step rfl rfl (K.not rfl) ?_
  refine KT.step rfl rfl (K.move rfl) ?_
  refine KT.bcase (fun hb13 => ?_) (fun hb13 => ?_)
  · skip
    refine KT.skip rfl rfl ?_
    refine KT.skip rfl rfl ?_
    refine KT.skip rfl rfl ?_
    refine KT.step rfl rfl (K.pick rfl (fun _ => rfl) (fun h => by cases h)) ?_
    refine KT.step rfl rfl (K.move rfl) ?_
    refine KT.skip rfl rfl ?_
    refine KT.skip rfl rfl ?_
    refine KT.skip rfl rfl ?_
    refine KT.skip rfl rfl ?_
    refine KT.step rfl rfl (K.pick rfl (fun _ => rfl) (fun h => by cases h)) ?_
    refine KT.nil ?_
    refine thenK_n ?_
    refine KC.cond rfl (fun hc23 => ?_) (fun hc23 => ?_)
    · skip
      refine KC.seq ?_
      refine KC.region ?_
      refine KT.step rfl rfl (K.assign rfl) ?_
      refine KT.step rfl rfl (K.assign rfl) ?_
      refine KT.nil ?_
      refine thenK_n ?_
      refine KC.ret ?_
      refine thenK_r ?_
      have ecw : cwB N L (.mk op ks) = false := by
        unfold cwB
        first
          | (rw [Bool.not_eq_true'] at hb13; rw [hb13]; rfl)
          | (rw [Bool.not_eq_true'] at hb18; rw [hb18, Bool.and_false]; rfl)
          | (rw [Bool.not_eq_true'] at hc23; rw [show shownB (Fo.mk op ks).op = false from hc23, Bool.and_false])
      exact ⟨.inl rfl, _, rfl, by unfold cwV cwE; rw [ecw]; rfl⟩
    · cases hc23
  · skip
    refine KT.step rfl rfl (K.loadOA ([.lit (.string op), kd]) rfl rfl (by decide) Try.agg35 Try.size35 rfl) ?_
    refine KT.step rfl rfl (K.call1 rfl plainTry_28 (isFormula28 hk)) ?_
    refine KT.step rfl rfl (K.not rfl) ?_
    refine KT.step rfl rfl (K.pick rfl (fun h => by cases h) (fun _ => rfl)) ?_
    refine KT.step rfl rfl (K.move rfl) ?_
    refine KT.bcase (fun hb18 => ?_) (fun hb18 => ?_)
    · skip
      refine KT.skip rfl rfl ?_
      refine KT.skip rfl rfl ?_
      refine KT.skip rfl rfl ?_
      refine KT.skip rfl rfl ?_
      refine KT.step rfl rfl (K.pick rfl (fun _ => rfl) (fun h => by cases h)) ?_
      refine KT.nil ?_
      refine thenK_n ?_
      refine KC.cond rfl (fun hc23 => ?_) (fun hc23 => ?_)
      · skip
        refine KC.seq ?_
        refine KC.region ?_
        refine KT.step rfl rfl (K.assign rfl) ?_
        refine KT.step rfl rfl (K.assign rfl) ?_
        refine KT.nil ?_
        refine thenK_n ?_
        refine KC.ret ?_
        refine thenK_r ?_
        have ecw : cwB N L (.mk op ks) = false := by
          unfold cwB
          first
            | (rw [Bool.not_eq_true'] at hb13; rw [hb13]; rfl)
            | (rw [Bool.not_eq_true'] at hb18; rw [hb18, Bool.and_false]; rfl)
            | (rw [Bool.not_eq_true'] at hc23; rw [show shownB (Fo.mk op ks).op = false from hc23, Bool.and_false])
        exact ⟨.inl rfl, _, rfl, by unfold cwV cwE; rw [ecw]; rfl⟩
      · cases hc23
    · skip
      refine KT.step rfl rfl (K.fieldAddrO rfl Try.fld35_0 Try.size9) ?_
      refine KT.step rfl rfl (K.loadO rfl rfl (by simp) rfl Try.agg9) ?_
      refine KT.step rfl rfl (K.call1 rfl plainTry_38 (isShown38)) ?_
      refine KT.step rfl rfl (K.not rfl) ?_
      refine KT.step rfl rfl (K.pick rfl (fun h => by cases h) (fun _ => rfl)) ?_
      refine KT.nil ?_
      refine thenK_n ?_
      refine KC.cond rfl (fun hc23 => ?_) (fun hc23 => ?_)
      · skip
        refine KC.seq ?_
        refine KC.region ?_
        refine KT.step rfl rfl (K.assign rfl) ?_
        refine KT.step rfl rfl (K.assign rfl) ?_
        refine KT.nil ?_
        refine thenK_n ?_
        refine KC.ret ?_
        refine thenK_r ?_
        have ecw : cwB N L (.mk op ks) = false := by
          unfold cwB
          first
            | (rw [Bool.not_eq_true'] at hb13; rw [hb13]; rfl)
            | (rw [Bool.not_eq_true'] at hb18; rw [hb18, Bool.and_false]; rfl)
            | (rw [Bool.not_eq_true'] at hc23; rw [show shownB (Fo.mk op ks).op = false from hc23, Bool.and_false])
        exact ⟨.inl rfl, _, rfl, by unfold cwV cwE; rw [ecw]; rfl⟩
      · skip
        have hv : validS N L = true := by rw [Bool.not_eq_false'] at hb13; exact hb13
        have hf : (fitF (.mk op ks) 60 200).1 = true := by rw [Bool.not_eq_false'] at hb18; exact hb18
        have hs : shownB op = true := by rw [Bool.not_eq_false'] at hc23; exact hc23
        have ecw : cwB N L (.mk op ks) = true := by
          unfold cwB
          rw [hv, hf, show shownB (Fo.mk op ks).op = true from hs]; rfl
        have hS := str_of hN hL hv
        refine KC.skip ?_
        refine thenK_n ?_
        refine KC.seq ?_
        refine KC.draw Try.mixed ?_
        refine KT.step rfl rfl (K.loadOA ([dn, dl]) rfl rfl (by decide) Try.agg31 Try.size31 rfl) ?_
        refine KT.step rfl rfl (K.call1 rfl plainTry_29 (operators29)) ?_
        refine KT.step rfl rfl (K.loadOA ([.lit (.string op), kd]) rfl rfl (by decide) Try.agg35 Try.size35 rfl) ?_
        refine KT.step rfl rfl (K.call2 rfl rfl plainTry_39 (kidsOf39 hS (fitF_wf _ _ _ hf) hk)) ?_
        refine KT.step rfl rfl (K.move rfl) ?_
        refine KT.step rfl rfl (K.extract rfl rfl) ?_
        refine KT.step rfl rfl (K.extract rfl rfl) ?_
        refine KT.step rfl rfl (K.assign rfl) ?_
        refine KT.step rfl rfl (K.assign rfl) ?_
        refine KT.nil ?_
        refine ⟨by kernel_rfl, ?_⟩
        refine thenK_n ?_
        refine KC.seq ?_
        refine KC.region ?_
        refine KT.step rfl rfl (K.loadOA ([dn, dl]) rfl rfl (by decide) Try.agg31 Try.size31 rfl) ?_
        refine KT.step rfl rfl (K.loadOA ([dQ, DI lp]) rfl rfl (by decide) Try.agg46 Try.size46 rfl) ?_
        refine KT.step rfl rfl (K.call2 rfl rfl plainTry_40 (fits40 hS hQ hQl)) ?_
        refine KT.step rfl rfl (K.move rfl) ?_
        refine KT.bcase (fun hb34 => ?_) (fun hb34 => ?_)
        · skip
          refine KT.step rfl rfl (K.loadOA ([dQ, DI lp]) rfl rfl (by decide) Try.agg46 Try.size46 rfl) ?_
          refine KT.step rfl rfl (K.fieldAddrO rfl Try.fld35_0 Try.size9) ?_
          refine KT.step rfl rfl (K.loadO rfl rfl (by simp) rfl Try.agg9) ?_
          refine KT.step rfl rfl (K.move rfl) ?_
          refine KT.step rfl rfl (K.move rfl) ?_
          refine KT.step rfl rfl (K.call4 rfl rfl rfl rfl plainTry_41 (shows41 hQ (pow16 hS.n16 (satL_lt hS.len ks 0)) (pow16 hS.n16 (satL_lt hS.len ks 1)) (fits_all hb34).1 (fun k hk => by have := fits_in hb34 k hk; have := hS.n16; omega))) ?_
          refine KT.step rfl rfl (K.pick rfl (fun _ => rfl) (fun h => by cases h)) ?_
          refine KT.step rfl rfl (K.assign rfl) ?_
          refine KT.step rfl rfl (K.assign rfl) ?_
          refine KT.nil ?_
          refine thenK_n ?_
          refine KC.ret ?_
          exact ⟨.inl rfl, _, rfl, by unfold cwV cwE; rw [ecw, hb34]; rfl⟩
        · skip
          refine KT.skip rfl rfl ?_
          refine KT.skip rfl rfl ?_
          refine KT.skip rfl rfl ?_
          refine KT.skip rfl rfl ?_
          refine KT.skip rfl rfl ?_
          refine KT.skip rfl rfl ?_
          refine KT.step rfl rfl (K.pick rfl (fun h => by cases h) (fun _ => rfl)) ?_
          refine KT.step rfl rfl (K.assign rfl) ?_
          refine KT.step rfl rfl (K.assign rfl) ?_
          refine KT.nil ?_
          refine thenK_n ?_
          refine KC.ret ?_
          exact ⟨.inl rfl, _, rfl, by unfold cwV cwE; rw [ecw, hb34]; rfl⟩
set_option maxRecDepth 10000 in
theorem path17 {dQ : DV} {Q : List Int} {lp : Int} (hQ : Ints dQ Q) : DeepCall Try.prog 17 [.agg [dQ, DI lp]] (.agg [l70 Q dQ, DI lp]) := by
  refine deepCall_K 5 Try.func17 rfl (Nat.le_of_ble_eq_true rfl) fun M W0 => ?_
  refine KC.seq ?_
  refine KC.region ?_
  refine KT.step rfl rfl (K.box rfl) ?_
  refine KT.step rfl rfl (K.alloc Try.zero46) ?_
  refine KT.nil ?_
  refine thenK_n ?_
  refine KC.seq ?_
  refine KC.draw Try.mixed ?_
  refine KT.step rfl rfl (K.fieldAddrO rfl Try.fld43_0 Try.size22) ?_
  refine KT.step rfl rfl (K.loadO rfl rfl (by simp) rfl Try.agg22) ?_
  refine KT.step rfl rfl (K.fieldAddrO rfl Try.fld43_0 Try.size22) ?_
  refine KT.step rfl rfl (K.loadO rfl rfl (by simp) rfl Try.agg22) ?_
  refine KT.step rfl rfl (K.len rfl hQ Try.underlying22) ?_
  refine KT.step rfl rfl (K.minN (b := 70) rfl rfl) ?_
  refine KT.step rfl rfl (K.takeV rfl hQ rfl (by omega) Try.underlying22 Try.size3) ?_
  refine KT.step rfl rfl (K.call1 rfl plainTry_31 (clone31 (takeV_vec hQ (by omega)) (by simp; omega))) ?_
  refine KT.step rfl rfl (K.fieldAddrO rfl Try.fld43_1 Try.size3) ?_
  refine KT.step rfl rfl (K.loadO rfl rfl (by simp) rfl Try.agg3) ?_
  refine KT.step rfl rfl (K.build2X rfl rfl (vec_cell (l70_ints hQ)).1 rfl Try.zero46 Try.underlying46 Try.places46) ?_
  refine KT.storeL (cs := [.d (l70 Q dQ), .d (DI lp)]) rfl rfl rfl rfl rfl rfl (by rw [List.all_cons, List.all_cons, (vec_cell (l70_ints hQ)).2]; rfl) Try.size46 ?_
  refine KT.nil ?_
  refine ⟨by kernel_rfl, ?_⟩
  refine thenK_n ?_
  refine KC.ret ?_
  exact ⟨.inl rfl, _, resK_c [l70 Q dQ, DI lp] rfl rfl rfl (by simp) Try.agg46 Try.size46 rfl, rfl⟩
end Go.Proofs.Ytcjcchceeidgkaa

