import Derived.Test.YtcjcchceeidgkaaLgL
import Derived.Test.YtcjcchceeidgkaaFlV
/-
  The law LogicFixpoints.
-/
namespace Go.Proofs.Ytcjcchceeidgkaa
open Go.Vm Go.Lg
theorem plainTry_7 : plainFn Try.prog 7 = true := by kernel_rfl
set_option maxRecDepth 10000 in
theorem law_fixpoints {dN dL kd kd2 : DV} {N L : List Int} {op op2 : ByteArray} {ks ks2 : List Fo} (hN : Ints dN N) (hL : Ints dL L) (hk : KidsD kd ks) (hk2 : KidsD kd2 ks2) : DeepCall Try.prog 7 [.agg [dN, dL], .agg [.lit (.string op), kd], .agg [.lit (.string op2), kd2]] (DB true) := by
  refine deepCall_K 5 Try.func7 rfl (Nat.le_of_ble_eq_true rfl) fun M W0 => ?_
  refine KC.seq ?_
  refine KC.region ?_
  refine KT.step rfl rfl (K.box rfl) ?_
  refine KT.step rfl rfl (K.box rfl) ?_
  refine KT.step rfl rfl (K.box rfl) ?_
  refine KT.step rfl rfl (K.assign rfl) ?_
  refine KT.nil ?_
  refine thenK_n ?_
  refine KC.seq ?_
  have y0 : ([⟨[.d dN, .d dL], 0⟩, ⟨[.d (.lit (.string op)), .d kd], 0⟩, ⟨[.d (.lit (.string op2)), .d kd2], 0⟩] : List VObj)[0]? = some ⟨[.d dN, .d dL], 0⟩ := rfl
  have y1 : ([⟨[.d dN, .d dL], 0⟩, ⟨[.d (.lit (.string op)), .d kd], 0⟩, ⟨[.d (.lit (.string op2)), .d kd2], 0⟩] : List VObj)[1]? = some ⟨[.d (.lit (.string op)), .d kd], 0⟩ := rfl
  have y2 : ([⟨[.d dN, .d dL], 0⟩, ⟨[.d (.lit (.string op)), .d kd], 0⟩, ⟨[.d (.lit (.string op2)), .d kd2], 0⟩] : List VObj)[2]? = some ⟨[.d (.lit (.string op2)), .d kd2], 0⟩ := rfl
  refine KC.drawV Try.mixed (i1 := 4) (j1 := 6) (i2 := 5) (j2 := 7) (t1 := 7) (t2 := 8) (s1 := 18) (s2 := 20) (c1 := [.d (.lit (.string (cvF (.mk op ks) 40 210).1.op)), .d (kidsV (cvF (.mk op ks) 40 210).1.ks)]) (c2 := [.d (.lit (.string (cvF (.mk op2 ks2) 40 210).1.op)), .d (kidsV (cvF (.mk op2 ks2) 40 210).1.ks)]) (C := fun k => if k = 6 then [.d (.lit (.string (cvF (.mk op ks) 40 210).1.op)), .d (kidsV (cvF (.mk op ks) 40 210).1.ks)] else [.d (.lit (.string (cvF (.mk op2 ks2) 40 210).1.op)), .d (kidsV (cvF (.mk op2 ks2) 40 210).1.ks)]) ⟨35, _, _, _, rfl, rfl, rfl, rfl, Try.zero35, rfl, rfl, rfl, rfl, rfl, Try.size35, (two_one rfl (kidsV_ok _))⟩ ⟨35, _, _, _, rfl, rfl, rfl, rfl, Try.zero35, rfl, rfl, rfl, rfl, rfl, Try.size35, (two_one rfl (kidsV_ok _))⟩ rfl rfl (by decide) (by kernel_rfl) ?_
  refine KTV.read rfl rfl (K.loadOA ([.lit (.string op), kd]) rfl y1 (by decide) Try.agg27 Try.size27 rfl) (by decide) ?_
  refine KTV.read rfl rfl (K.call2 rfl rfl plainTry_11 (formula11 (left := 40) hk (by decide))) (by decide) ?_
  refine KTV.read rfl rfl (K.loadOA ([.lit (.string op2), kd2]) rfl y2 (by decide) Try.agg27 Try.size27 rfl) (by decide) ?_
  refine KTV.read rfl rfl (K.call2 rfl rfl plainTry_11 (formula11 (left := 40) hk2 (by decide))) (by decide) ?_
  refine KTV.make rfl ?_
  refine KTV.make rfl ?_
  refine KTV.put rfl rfl rfl rfl ?_
  refine KTV.put rfl rfl rfl rfl ?_
  refine KTV.nil ?_
  refine ⟨by kernel_rfl, fun σ3 p q hpv3 hqv3 hpqv3 x2 x3 v3 lv3 => ?_⟩
  replace y0 := (v3 _ (len_of y0)).trans y0
  refine thenK_n ?_
  refine KC.seq ?_
  refine KC.draw Try.mixed ?_
  refine KT.step rfl rfl (K.loadOA ([dN, dL]) rfl y0 (by decide) Try.agg24 Try.size24 rfl) ?_
  refine KT.step rfl rfl (K.call1 rfl plainTry_10 (of10 hN hL)) ?_
  refine KT.step rfl rfl (K.loadOA ([.lit (.string (cvF (.mk op ks) 40 210).1.op), kidsV (cvF (.mk op ks) 40 210).1.ks]) rfl x2 (by decide) Try.agg35 Try.size35 rfl) ?_
  refine KT.step rfl rfl (K.call2 rfl rfl plainTry_9 (Sat9 (op := (cvF (.mk op ks) 40 210).1.op) (ks := (cvF (.mk op ks) 40 210).1.ks) (l18_ints hN) (l18_ints hL) ⟨by simp; omega, by simp; omega⟩ (kidsV_ok _))) ?_
  refine KT.step rfl rfl (K.move rfl) ?_
  refine KT.step rfl rfl (K.extract rfl rfl) ?_
  refine KT.step rfl rfl (K.extract rfl rfl) ?_
  refine KT.step rfl rfl (K.assign rfl) ?_
  refine KT.step rfl rfl (K.assign rfl) ?_
  refine KT.nil ?_
  refine ⟨by kernel_rfl, ?_⟩
  refine thenK_n ?_
  refine KC.seq ?_
  refine KC.seq ?_
  refine KC.draw Try.mixed ?_
  refine KT.step rfl rfl (K.loadOA ([dN, dL]) rfl y0 (by decide) Try.agg24 Try.size24 rfl) ?_
  refine KT.step rfl rfl (K.call1 rfl plainTry_10 (of10 hN hL)) ?_
  refine KT.step rfl rfl (K.loadOA ([.lit (.string (cvF (.mk op2 ks2) 40 210).1.op), kidsV (cvF (.mk op2 ks2) 40 210).1.ks]) rfl x3 (by decide) Try.agg35 Try.size35 rfl) ?_
  refine KT.step rfl rfl (K.call2 rfl rfl plainTry_9 (Sat9 (op := (cvF (.mk op2 ks2) 40 210).1.op) (ks := (cvF (.mk op2 ks2) 40 210).1.ks) (l18_ints hN) (l18_ints hL) ⟨by simp; omega, by simp; omega⟩ (kidsV_ok _))) ?_
  refine KT.step rfl rfl (K.move rfl) ?_
  refine KT.step rfl rfl (K.extract rfl rfl) ?_
  refine KT.step rfl rfl (K.extract rfl rfl) ?_
  refine KT.step rfl rfl (K.assign rfl) ?_
  refine KT.step rfl rfl (K.assign rfl) ?_
  refine KT.nil ?_
  refine ⟨by kernel_rfl, ?_⟩
  refine thenK_n ?_
  refine KC.seq ?_
  refine KC.region ?_
  refine KT.step rfl rfl (K.move rfl) ?_
  refine KT.step rfl rfl (K.neq rfl rfl) ?_
  refine KT.step rfl rfl (K.move rfl) ?_
  refine KT.bcase (fun hb37 => ?_) (fun hb37 => ?_)
  · skip
    replace hb37 := of_decide_eq_true hb37
    refine KT.skip rfl rfl ?_
    refine KT.skip rfl rfl ?_
    refine KT.step rfl rfl (K.pick rfl (fun _ => rfl) (fun h => by cases h)) ?_
    refine KT.nil ?_
    refine thenK_n ?_
    refine KC.cond rfl (fun hc40 => ?_) (fun hc40 => ?_)
    · skip
      refine KC.seq ?_
      refine KC.region ?_
      refine KT.step rfl rfl (K.move rfl) ?_
      refine KT.step rfl rfl (K.eql rfl rfl) ?_
      refine KT.step rfl rfl (K.move rfl) ?_
      refine KT.bcase (fun hb43 => ?_) (fun hb43 => ?_)
      · skip
        replace hb43 := of_decide_eq_true hb43
        refine KT.skip rfl rfl ?_
        refine KT.skip rfl rfl ?_
        refine KT.step rfl rfl (K.pick rfl (fun _ => rfl) (fun h => by cases h)) ?_
        refine KT.step rfl rfl (K.move rfl) ?_
        refine KT.step rfl rfl (K.call0 plainTry_14 (awake14)) ?_
        refine KT.step rfl rfl (K.pick rfl (fun _ => rfl) (fun h => by cases h)) ?_
        refine KT.step rfl rfl (K.assign rfl) ?_
        refine KT.nil ?_
        refine thenK_n ?_
        refine KC.ret ?_
        refine thenK_r ?_
        exact ⟨.inl rfl, _, rfl, fin_b rfl⟩
      · skip
        exact absurd (satE_two hb37) (of_decide_eq_false hb43)
    · cases hc40
  · skip
    replace hb37 := of_decide_eq_false hb37
    refine KT.step rfl rfl (K.move rfl) ?_
    refine KT.step rfl rfl (K.neq rfl rfl) ?_
    refine KT.step rfl rfl (K.pick rfl (fun h => by cases h) (fun _ => rfl)) ?_
    refine KT.nil ?_
    refine thenK_n ?_
    refine KC.cond rfl (fun hc40 => ?_) (fun hc40 => ?_)
    · skip
      replace hc40 := of_decide_eq_true hc40
      refine KC.seq ?_
      refine KC.region ?_
      refine KT.step rfl rfl (K.move rfl) ?_
      refine KT.step rfl rfl (K.eql rfl rfl) ?_
      refine KT.step rfl rfl (K.move rfl) ?_
      refine KT.bcase (fun hb43 => ?_) (fun hb43 => ?_)
      · skip
        replace hb43 := of_decide_eq_true hb43
        refine KT.skip rfl rfl ?_
        refine KT.skip rfl rfl ?_
        refine KT.step rfl rfl (K.pick rfl (fun _ => rfl) (fun h => by cases h)) ?_
        refine KT.step rfl rfl (K.move rfl) ?_
        refine KT.step rfl rfl (K.call0 plainTry_14 (awake14)) ?_
        refine KT.step rfl rfl (K.pick rfl (fun _ => rfl) (fun h => by cases h)) ?_
        refine KT.step rfl rfl (K.assign rfl) ?_
        refine KT.nil ?_
        refine thenK_n ?_
        refine KC.ret ?_
        refine thenK_r ?_
        exact ⟨.inl rfl, _, rfl, fin_b rfl⟩
      · skip
        replace hb43 := of_decide_eq_false hb43
        refine KT.step rfl rfl (K.move rfl) ?_
        refine KT.step rfl rfl (K.eql rfl rfl) ?_
        refine KT.step rfl rfl (K.pick rfl (fun h => by cases h) (fun _ => rfl)) ?_
        refine KT.step rfl rfl (K.move rfl) ?_
        refine KT.bcase (fun hb47 => ?_) (fun hb47 => ?_)
        · skip
          replace hb47 := of_decide_eq_true hb47
          refine KT.step rfl rfl (K.call0 plainTry_14 (awake14)) ?_
          refine KT.step rfl rfl (K.pick rfl (fun _ => rfl) (fun h => by cases h)) ?_
          refine KT.step rfl rfl (K.assign rfl) ?_
          refine KT.nil ?_
          refine thenK_n ?_
          refine KC.ret ?_
          refine thenK_r ?_
          exact ⟨.inl rfl, _, rfl, fin_b rfl⟩
        · skip
          exact absurd (satE_two hc40) (of_decide_eq_false hb47)
    · skip
      replace hc40 := of_decide_eq_false hc40
      refine KC.skip ?_
      refine thenK_n ?_
      refine KC.seq ?_
      refine KC.drawV Try.mixed (i1 := 6) (j1 := 8) (i2 := 7) (j2 := 9) (t1 := 13) (t2 := 14) (s1 := 52) (s2 := 55) (c1 := [.d (.lit (.string ⟨#[69, 70]⟩)), .d (.sl [.lit (.string (cvF (.mk op ks) 40 210).1.op), kidsV (cvF (.mk op ks) 40 210).1.ks] 1 (some 1))]) (c2 := [.d (.lit (.string ⟨#[69, 71]⟩)), .d (.sl [.lit (.string (cvF (.mk op ks) 40 210).1.op), kidsV (cvF (.mk op ks) 40 210).1.ks] 1 (some 1))]) (C := fun k => if k = 8 then [.d (.lit (.string ⟨#[69, 70]⟩)), .d (.sl [.lit (.string (cvF (.mk op ks) 40 210).1.op), kidsV (cvF (.mk op ks) 40 210).1.ks] 1 (some 1))] else [.d (.lit (.string ⟨#[69, 71]⟩)), .d (.sl [.lit (.string (cvF (.mk op ks) 40 210).1.op), kidsV (cvF (.mk op ks) 40 210).1.ks] 1 (some 1))]) ⟨35, _, _, _, rfl, rfl, rfl, rfl, Try.zero35, rfl, rfl, rfl, rfl, rfl, Try.size35, (two_one rfl (one_kid (f := (cvF (.mk op ks) 40 210).1) (kidsV_ok _)))⟩ ⟨35, _, _, _, rfl, rfl, rfl, rfl, Try.zero35, rfl, rfl, rfl, rfl, rfl, Try.size35, (two_one rfl (one_kid (f := (cvF (.mk op ks) 40 210).1) (kidsV_ok _)))⟩ rfl rfl (by decide) (by kernel_rfl) ?_
      refine KTV.read rfl rfl (K.loadOA ([.lit (.string (cvF (.mk op ks) 40 210).1.op), kidsV (cvF (.mk op ks) 40 210).1.ks]) rfl x2 (by decide) Try.agg35 Try.size35 rfl) (by decide) ?_
      refine KTV.read rfl rfl (K.lit1 rfl Try.underlying33 Try.size35 Try.zero35) (by decide) ?_
      refine KTV.read rfl rfl (K.call2 rfl rfl plainTry_26 (node26 (op := ⟨#[69, 70]⟩) (one_kid (f := (cvF (.mk op ks) 40 210).1) (kidsV_ok _)))) (by decide) ?_
      refine KTV.read rfl rfl (K.loadOA ([.lit (.string (cvF (.mk op ks) 40 210).1.op), kidsV (cvF (.mk op ks) 40 210).1.ks]) rfl x2 (by decide) Try.agg35 Try.size35 rfl) (by decide) ?_
      refine KTV.read rfl rfl (K.lit1 rfl Try.underlying33 Try.size35 Try.zero35) (by decide) ?_
      refine KTV.read rfl rfl (K.call2 rfl rfl plainTry_26 (node26 (op := ⟨#[69, 71]⟩) (one_kid (f := (cvF (.mk op ks) 40 210).1) (kidsV_ok _)))) (by decide) ?_
      refine KTV.make rfl ?_
      refine KTV.make rfl ?_
      refine KTV.put rfl rfl rfl rfl ?_
      refine KTV.put rfl rfl rfl rfl ?_
      refine KTV.nil ?_
      refine ⟨by kernel_rfl, fun σ4 p4 q4 hpv4 hqv4 hpqv4 x4 x5 v4 lv4 => ?_⟩
      replace y0 := (v4 _ (len_of y0)).trans y0
      replace x2 := (v4 _ (len_of x2)).trans x2
      replace x3 := (v4 _ (len_of x3)).trans x3
      refine thenK_n ?_
      refine KC.seq ?_
      refine KC.drawV Try.mixed (i1 := 8) (j1 := 10) (i2 := 9) (j2 := 11) (t1 := 15) (t2 := 16) (s1 := 59) (s2 := 63) (c1 := [.d (.lit (.string ⟨#[69, 85]⟩)), .d (.sl [.lit (.string (cvF (.mk op ks) 40 210).1.op), kidsV (cvF (.mk op ks) 40 210).1.ks, .lit (.string (cvF (.mk op2 ks2) 40 210).1.op), kidsV (cvF (.mk op2 ks2) 40 210).1.ks] 2 (some 2))]) (c2 := [.d (.lit (.string ⟨#[65, 85]⟩)), .d (.sl [.lit (.string (cvF (.mk op ks) 40 210).1.op), kidsV (cvF (.mk op ks) 40 210).1.ks, .lit (.string (cvF (.mk op2 ks2) 40 210).1.op), kidsV (cvF (.mk op2 ks2) 40 210).1.ks] 2 (some 2))]) (C := fun k => if k = 10 then [.d (.lit (.string ⟨#[69, 85]⟩)), .d (.sl [.lit (.string (cvF (.mk op ks) 40 210).1.op), kidsV (cvF (.mk op ks) 40 210).1.ks, .lit (.string (cvF (.mk op2 ks2) 40 210).1.op), kidsV (cvF (.mk op2 ks2) 40 210).1.ks] 2 (some 2))] else [.d (.lit (.string ⟨#[65, 85]⟩)), .d (.sl [.lit (.string (cvF (.mk op ks) 40 210).1.op), kidsV (cvF (.mk op ks) 40 210).1.ks, .lit (.string (cvF (.mk op2 ks2) 40 210).1.op), kidsV (cvF (.mk op2 ks2) 40 210).1.ks] 2 (some 2))]) ⟨35, _, _, _, rfl, rfl, rfl, rfl, Try.zero35, rfl, rfl, rfl, rfl, rfl, Try.size35, (two_one rfl (two_kids (f := (cvF (.mk op ks) 40 210).1) (g := (cvF (.mk op2 ks2) 40 210).1) (kidsV_ok _) (kidsV_ok _)))⟩ ⟨35, _, _, _, rfl, rfl, rfl, rfl, Try.zero35, rfl, rfl, rfl, rfl, rfl, Try.size35, (two_one rfl (two_kids (f := (cvF (.mk op ks) 40 210).1) (g := (cvF (.mk op2 ks2) 40 210).1) (kidsV_ok _) (kidsV_ok _)))⟩ rfl rfl (by decide) (by kernel_rfl) ?_
      refine KTV.read rfl rfl (K.loadOA ([.lit (.string (cvF (.mk op ks) 40 210).1.op), kidsV (cvF (.mk op ks) 40 210).1.ks]) rfl x2 (by decide) Try.agg35 Try.size35 rfl) (by decide) ?_
      refine KTV.read rfl rfl (K.loadOA ([.lit (.string (cvF (.mk op2 ks2) 40 210).1.op), kidsV (cvF (.mk op2 ks2) 40 210).1.ks]) rfl x3 (by decide) Try.agg35 Try.size35 rfl) (by decide) ?_
      refine KTV.read rfl rfl (K.lit2 rfl rfl Try.underlying33 Try.size35 Try.zero35) (by decide) ?_
      refine KTV.read rfl rfl (K.call2 rfl rfl plainTry_26 (node26 (op := ⟨#[69, 85]⟩) (two_kids (f := (cvF (.mk op ks) 40 210).1) (g := (cvF (.mk op2 ks2) 40 210).1) (kidsV_ok _) (kidsV_ok _)))) (by decide) ?_
      refine KTV.read rfl rfl (K.loadOA ([.lit (.string (cvF (.mk op ks) 40 210).1.op), kidsV (cvF (.mk op ks) 40 210).1.ks]) rfl x2 (by decide) Try.agg35 Try.size35 rfl) (by decide) ?_
      refine KTV.read rfl rfl (K.loadOA ([.lit (.string (cvF (.mk op2 ks2) 40 210).1.op), kidsV (cvF (.mk op2 ks2) 40 210).1.ks]) rfl x3 (by decide) Try.agg35 Try.size35 rfl) (by decide) ?_
      refine KTV.read rfl rfl (K.lit2 rfl rfl Try.underlying33 Try.size35 Try.zero35) (by decide) ?_
      refine KTV.read rfl rfl (K.call2 rfl rfl plainTry_26 (node26 (op := ⟨#[65, 85]⟩) (two_kids (f := (cvF (.mk op ks) 40 210).1) (g := (cvF (.mk op2 ks2) 40 210).1) (kidsV_ok _) (kidsV_ok _)))) (by decide) ?_
      refine KTV.make rfl ?_
      refine KTV.make rfl ?_
      refine KTV.put rfl rfl rfl rfl ?_
      refine KTV.put rfl rfl rfl rfl ?_
      refine KTV.nil ?_
      refine ⟨by kernel_rfl, fun σ5 p5 q5 hpv5 hqv5 hpqv5 x6 x7 v5 lv5 => ?_⟩
      replace y0 := (v5 _ (len_of y0)).trans y0
      replace x2 := (v5 _ (len_of x2)).trans x2
      replace x3 := (v5 _ (len_of x3)).trans x3
      replace x4 := (v5 _ (len_of x4)).trans x4
      replace x5 := (v5 _ (len_of x5)).trans x5
      refine thenK_n ?_
      refine KC.seq ?_
      refine KC.draw Try.mixed ?_
      refine KT.step rfl rfl (K.loadOA ([dN, dL]) rfl y0 (by decide) Try.agg24 Try.size24 rfl) ?_
      refine KT.step rfl rfl (K.loadOA ([.lit (.string ⟨#[69, 70]⟩), .sl [.lit (.string (cvF (.mk op ks) 40 210).1.op), kidsV (cvF (.mk op ks) 40 210).1.ks] 1 (some 1)]) rfl x4 (by decide) Try.agg35 Try.size35 rfl) ?_
      refine KT.step rfl rfl (K.loadOA ([.lit (.string (cvF (.mk op ks) 40 210).1.op), kidsV (cvF (.mk op ks) 40 210).1.ks]) rfl x2 (by decide) Try.agg35 Try.size35 rfl) ?_
      refine KT.step rfl rfl (K.loadOA ([.lit (.string ⟨#[69, 70]⟩), .sl [.lit (.string (cvF (.mk op ks) 40 210).1.op), kidsV (cvF (.mk op ks) 40 210).1.ks] 1 (some 1)]) rfl x4 (by decide) Try.agg35 Try.size35 rfl) ?_
      refine KT.step rfl rfl (K.lit1 rfl Try.underlying33 Try.size35 Try.zero35) ?_
      refine KT.step rfl rfl (K.call2 rfl rfl plainTry_26 (node26 (op := ⟨#[69, 88]⟩) (one_kid (f := (o1 ⟨#[69, 70]⟩ (cvF (.mk op ks) 40 210).1)) (one_kid (f := (cvF (.mk op ks) 40 210).1) (kidsV_ok _))))) ?_
      refine KT.step rfl rfl (K.lit2 rfl rfl Try.underlying33 Try.size35 Try.zero35) ?_
      refine KT.step rfl rfl (K.call2 rfl rfl plainTry_26 (node26 (op := ⟨#[124]⟩) (two_kids (f := (cvF (.mk op ks) 40 210).1) (g := (o1 ⟨#[69, 88]⟩ (o1 ⟨#[69, 70]⟩ (cvF (.mk op ks) 40 210).1))) (kidsV_ok _) (one_kid (f := (o1 ⟨#[69, 70]⟩ (cvF (.mk op ks) 40 210).1)) (one_kid (f := (cvF (.mk op ks) 40 210).1) (kidsV_ok _)))))) ?_
      refine KT.step rfl rfl (K.call3 rfl rfl rfl plainTry_25 ((alike_of (N := (N.take 18)) (L := (L.take 18)) (f := (o1 ⟨#[69, 70]⟩ (cvF (.mk op ks) 40 210).1)) (g := (o2 ⟨#[124]⟩ (cvF (.mk op ks) 40 210).1 (o1 ⟨#[69, 88]⟩ (o1 ⟨#[69, 70]⟩ (cvF (.mk op ks) 40 210).1)))) (fun nx lb hl => fix_EF nx lb hl (cvF (.mk op ks) 40 210).1)) ▸ alike25 (f := (o1 ⟨#[69, 70]⟩ (cvF (.mk op ks) 40 210).1)) (g := (o2 ⟨#[124]⟩ (cvF (.mk op ks) 40 210).1 (o1 ⟨#[69, 88]⟩ (o1 ⟨#[69, 70]⟩ (cvF (.mk op ks) 40 210).1)))) hN hL (one_kid (f := (cvF (.mk op ks) 40 210).1) (kidsV_ok _)) (two_kids (f := (cvF (.mk op ks) 40 210).1) (g := (o1 ⟨#[69, 88]⟩ (o1 ⟨#[69, 70]⟩ (cvF (.mk op ks) 40 210).1))) (kidsV_ok _) (one_kid (f := (o1 ⟨#[69, 70]⟩ (cvF (.mk op ks) 40 210).1)) (one_kid (f := (cvF (.mk op ks) 40 210).1) (kidsV_ok _)))))) ?_
      refine KT.step rfl rfl (K.move rfl) ?_
      refine KT.step rfl rfl (K.loadOA ([dN, dL]) rfl y0 (by decide) Try.agg24 Try.size24 rfl) ?_
      refine KT.step rfl rfl (K.loadOA ([.lit (.string ⟨#[69, 71]⟩), .sl [.lit (.string (cvF (.mk op ks) 40 210).1.op), kidsV (cvF (.mk op ks) 40 210).1.ks] 1 (some 1)]) rfl x5 (by decide) Try.agg35 Try.size35 rfl) ?_
      refine KT.step rfl rfl (K.loadOA ([.lit (.string (cvF (.mk op ks) 40 210).1.op), kidsV (cvF (.mk op ks) 40 210).1.ks]) rfl x2 (by decide) Try.agg35 Try.size35 rfl) ?_
      refine KT.step rfl rfl (K.loadOA ([.lit (.string ⟨#[69, 71]⟩), .sl [.lit (.string (cvF (.mk op ks) 40 210).1.op), kidsV (cvF (.mk op ks) 40 210).1.ks] 1 (some 1)]) rfl x5 (by decide) Try.agg35 Try.size35 rfl) ?_
      refine KT.step rfl rfl (K.lit1 rfl Try.underlying33 Try.size35 Try.zero35) ?_
      refine KT.step rfl rfl (K.call2 rfl rfl plainTry_26 (node26 (op := ⟨#[69, 88]⟩) (one_kid (f := (o1 ⟨#[69, 71]⟩ (cvF (.mk op ks) 40 210).1)) (one_kid (f := (cvF (.mk op ks) 40 210).1) (kidsV_ok _))))) ?_
      refine KT.step rfl rfl (K.lit2 rfl rfl Try.underlying33 Try.size35 Try.zero35) ?_
      refine KT.step rfl rfl (K.call2 rfl rfl plainTry_26 (node26 (op := ⟨#[38]⟩) (two_kids (f := (cvF (.mk op ks) 40 210).1) (g := (o1 ⟨#[69, 88]⟩ (o1 ⟨#[69, 71]⟩ (cvF (.mk op ks) 40 210).1))) (kidsV_ok _) (one_kid (f := (o1 ⟨#[69, 71]⟩ (cvF (.mk op ks) 40 210).1)) (one_kid (f := (cvF (.mk op ks) 40 210).1) (kidsV_ok _)))))) ?_
      refine KT.step rfl rfl (K.call3 rfl rfl rfl plainTry_25 ((alike_of (N := (N.take 18)) (L := (L.take 18)) (f := (o1 ⟨#[69, 71]⟩ (cvF (.mk op ks) 40 210).1)) (g := (o2 ⟨#[38]⟩ (cvF (.mk op ks) 40 210).1 (o1 ⟨#[69, 88]⟩ (o1 ⟨#[69, 71]⟩ (cvF (.mk op ks) 40 210).1)))) (fun nx lb hl => fix_EG nx lb (cvF (.mk op ks) 40 210).1)) ▸ alike25 (f := (o1 ⟨#[69, 71]⟩ (cvF (.mk op ks) 40 210).1)) (g := (o2 ⟨#[38]⟩ (cvF (.mk op ks) 40 210).1 (o1 ⟨#[69, 88]⟩ (o1 ⟨#[69, 71]⟩ (cvF (.mk op ks) 40 210).1)))) hN hL (one_kid (f := (cvF (.mk op ks) 40 210).1) (kidsV_ok _)) (two_kids (f := (cvF (.mk op ks) 40 210).1) (g := (o1 ⟨#[69, 88]⟩ (o1 ⟨#[69, 71]⟩ (cvF (.mk op ks) 40 210).1))) (kidsV_ok _) (one_kid (f := (o1 ⟨#[69, 71]⟩ (cvF (.mk op ks) 40 210).1)) (one_kid (f := (cvF (.mk op ks) 40 210).1) (kidsV_ok _)))))) ?_
      refine KT.step rfl rfl (K.pick rfl (fun _ => rfl) (fun h => by cases h)) ?_
      refine KT.step rfl rfl (K.move rfl) ?_
      refine KT.step rfl rfl (K.loadOA ([dN, dL]) rfl y0 (by decide) Try.agg24 Try.size24 rfl) ?_
      refine KT.step rfl rfl (K.loadOA ([.lit (.string ⟨#[69, 85]⟩), .sl [.lit (.string (cvF (.mk op ks) 40 210).1.op), kidsV (cvF (.mk op ks) 40 210).1.ks, .lit (.string (cvF (.mk op2 ks2) 40 210).1.op), kidsV (cvF (.mk op2 ks2) 40 210).1.ks] 2 (some 2)]) rfl x6 (by decide) Try.agg35 Try.size35 rfl) ?_
      refine KT.step rfl rfl (K.loadOA ([.lit (.string (cvF (.mk op2 ks2) 40 210).1.op), kidsV (cvF (.mk op2 ks2) 40 210).1.ks]) rfl x3 (by decide) Try.agg35 Try.size35 rfl) ?_
      refine KT.step rfl rfl (K.loadOA ([.lit (.string (cvF (.mk op ks) 40 210).1.op), kidsV (cvF (.mk op ks) 40 210).1.ks]) rfl x2 (by decide) Try.agg35 Try.size35 rfl) ?_
      refine KT.step rfl rfl (K.loadOA ([.lit (.string ⟨#[69, 85]⟩), .sl [.lit (.string (cvF (.mk op ks) 40 210).1.op), kidsV (cvF (.mk op ks) 40 210).1.ks, .lit (.string (cvF (.mk op2 ks2) 40 210).1.op), kidsV (cvF (.mk op2 ks2) 40 210).1.ks] 2 (some 2)]) rfl x6 (by decide) Try.agg35 Try.size35 rfl) ?_
      refine KT.step rfl rfl (K.lit1 rfl Try.underlying33 Try.size35 Try.zero35) ?_
      refine KT.step rfl rfl (K.call2 rfl rfl plainTry_26 (node26 (op := ⟨#[69, 88]⟩) (one_kid (f := (o2 ⟨#[69, 85]⟩ (cvF (.mk op ks) 40 210).1 (cvF (.mk op2 ks2) 40 210).1)) (two_kids (f := (cvF (.mk op ks) 40 210).1) (g := (cvF (.mk op2 ks2) 40 210).1) (kidsV_ok _) (kidsV_ok _))))) ?_
      refine KT.step rfl rfl (K.lit2 rfl rfl Try.underlying33 Try.size35 Try.zero35) ?_
      refine KT.step rfl rfl (K.call2 rfl rfl plainTry_26 (node26 (op := ⟨#[38]⟩) (two_kids (f := (cvF (.mk op ks) 40 210).1) (g := (o1 ⟨#[69, 88]⟩ (o2 ⟨#[69, 85]⟩ (cvF (.mk op ks) 40 210).1 (cvF (.mk op2 ks2) 40 210).1))) (kidsV_ok _) (one_kid (f := (o2 ⟨#[69, 85]⟩ (cvF (.mk op ks) 40 210).1 (cvF (.mk op2 ks2) 40 210).1)) (two_kids (f := (cvF (.mk op ks) 40 210).1) (g := (cvF (.mk op2 ks2) 40 210).1) (kidsV_ok _) (kidsV_ok _)))))) ?_
      refine KT.step rfl rfl (K.lit2 rfl rfl Try.underlying33 Try.size35 Try.zero35) ?_
      refine KT.step rfl rfl (K.call2 rfl rfl plainTry_26 (node26 (op := ⟨#[124]⟩) (two_kids (f := (cvF (.mk op2 ks2) 40 210).1) (g := (o2 ⟨#[38]⟩ (cvF (.mk op ks) 40 210).1 (o1 ⟨#[69, 88]⟩ (o2 ⟨#[69, 85]⟩ (cvF (.mk op ks) 40 210).1 (cvF (.mk op2 ks2) 40 210).1)))) (kidsV_ok _) (two_kids (f := (cvF (.mk op ks) 40 210).1) (g := (o1 ⟨#[69, 88]⟩ (o2 ⟨#[69, 85]⟩ (cvF (.mk op ks) 40 210).1 (cvF (.mk op2 ks2) 40 210).1))) (kidsV_ok _) (one_kid (f := (o2 ⟨#[69, 85]⟩ (cvF (.mk op ks) 40 210).1 (cvF (.mk op2 ks2) 40 210).1)) (two_kids (f := (cvF (.mk op ks) 40 210).1) (g := (cvF (.mk op2 ks2) 40 210).1) (kidsV_ok _) (kidsV_ok _))))))) ?_
      refine KT.step rfl rfl (K.call3 rfl rfl rfl plainTry_25 ((alike_of (N := (N.take 18)) (L := (L.take 18)) (f := (o2 ⟨#[69, 85]⟩ (cvF (.mk op ks) 40 210).1 (cvF (.mk op2 ks2) 40 210).1)) (g := (o2 ⟨#[124]⟩ (cvF (.mk op2 ks2) 40 210).1 (o2 ⟨#[38]⟩ (cvF (.mk op ks) 40 210).1 (o1 ⟨#[69, 88]⟩ (o2 ⟨#[69, 85]⟩ (cvF (.mk op ks) 40 210).1 (cvF (.mk op2 ks2) 40 210).1))))) (fun nx lb hl => fix_EU nx lb hl (cvF (.mk op ks) 40 210).1 (cvF (.mk op2 ks2) 40 210).1)) ▸ alike25 (f := (o2 ⟨#[69, 85]⟩ (cvF (.mk op ks) 40 210).1 (cvF (.mk op2 ks2) 40 210).1)) (g := (o2 ⟨#[124]⟩ (cvF (.mk op2 ks2) 40 210).1 (o2 ⟨#[38]⟩ (cvF (.mk op ks) 40 210).1 (o1 ⟨#[69, 88]⟩ (o2 ⟨#[69, 85]⟩ (cvF (.mk op ks) 40 210).1 (cvF (.mk op2 ks2) 40 210).1))))) hN hL (two_kids (f := (cvF (.mk op ks) 40 210).1) (g := (cvF (.mk op2 ks2) 40 210).1) (kidsV_ok _) (kidsV_ok _)) (two_kids (f := (cvF (.mk op2 ks2) 40 210).1) (g := (o2 ⟨#[38]⟩ (cvF (.mk op ks) 40 210).1 (o1 ⟨#[69, 88]⟩ (o2 ⟨#[69, 85]⟩ (cvF (.mk op ks) 40 210).1 (cvF (.mk op2 ks2) 40 210).1)))) (kidsV_ok _) (two_kids (f := (cvF (.mk op ks) 40 210).1) (g := (o1 ⟨#[69, 88]⟩ (o2 ⟨#[69, 85]⟩ (cvF (.mk op ks) 40 210).1 (cvF (.mk op2 ks2) 40 210).1))) (kidsV_ok _) (one_kid (f := (o2 ⟨#[69, 85]⟩ (cvF (.mk op ks) 40 210).1 (cvF (.mk op2 ks2) 40 210).1)) (two_kids (f := (cvF (.mk op ks) 40 210).1) (g := (cvF (.mk op2 ks2) 40 210).1) (kidsV_ok _) (kidsV_ok _))))))) ?_
      refine KT.step rfl rfl (K.pick rfl (fun _ => rfl) (fun h => by cases h)) ?_
      refine KT.step rfl rfl (K.move rfl) ?_
      refine KT.step rfl rfl (K.loadOA ([dN, dL]) rfl y0 (by decide) Try.agg24 Try.size24 rfl) ?_
      refine KT.step rfl rfl (K.loadOA ([.lit (.string ⟨#[65, 85]⟩), .sl [.lit (.string (cvF (.mk op ks) 40 210).1.op), kidsV (cvF (.mk op ks) 40 210).1.ks, .lit (.string (cvF (.mk op2 ks2) 40 210).1.op), kidsV (cvF (.mk op2 ks2) 40 210).1.ks] 2 (some 2)]) rfl x7 (by decide) Try.agg35 Try.size35 rfl) ?_
      refine KT.step rfl rfl (K.loadOA ([.lit (.string (cvF (.mk op2 ks2) 40 210).1.op), kidsV (cvF (.mk op2 ks2) 40 210).1.ks]) rfl x3 (by decide) Try.agg35 Try.size35 rfl) ?_
      refine KT.step rfl rfl (K.loadOA ([.lit (.string (cvF (.mk op ks) 40 210).1.op), kidsV (cvF (.mk op ks) 40 210).1.ks]) rfl x2 (by decide) Try.agg35 Try.size35 rfl) ?_
      refine KT.step rfl rfl (K.loadOA ([.lit (.string ⟨#[65, 85]⟩), .sl [.lit (.string (cvF (.mk op ks) 40 210).1.op), kidsV (cvF (.mk op ks) 40 210).1.ks, .lit (.string (cvF (.mk op2 ks2) 40 210).1.op), kidsV (cvF (.mk op2 ks2) 40 210).1.ks] 2 (some 2)]) rfl x7 (by decide) Try.agg35 Try.size35 rfl) ?_
      refine KT.step rfl rfl (K.lit1 rfl Try.underlying33 Try.size35 Try.zero35) ?_
      refine KT.step rfl rfl (K.call2 rfl rfl plainTry_26 (node26 (op := ⟨#[65, 88]⟩) (one_kid (f := (o2 ⟨#[65, 85]⟩ (cvF (.mk op ks) 40 210).1 (cvF (.mk op2 ks2) 40 210).1)) (two_kids (f := (cvF (.mk op ks) 40 210).1) (g := (cvF (.mk op2 ks2) 40 210).1) (kidsV_ok _) (kidsV_ok _))))) ?_
      refine KT.step rfl rfl (K.lit2 rfl rfl Try.underlying33 Try.size35 Try.zero35) ?_
      refine KT.step rfl rfl (K.call2 rfl rfl plainTry_26 (node26 (op := ⟨#[38]⟩) (two_kids (f := (cvF (.mk op ks) 40 210).1) (g := (o1 ⟨#[65, 88]⟩ (o2 ⟨#[65, 85]⟩ (cvF (.mk op ks) 40 210).1 (cvF (.mk op2 ks2) 40 210).1))) (kidsV_ok _) (one_kid (f := (o2 ⟨#[65, 85]⟩ (cvF (.mk op ks) 40 210).1 (cvF (.mk op2 ks2) 40 210).1)) (two_kids (f := (cvF (.mk op ks) 40 210).1) (g := (cvF (.mk op2 ks2) 40 210).1) (kidsV_ok _) (kidsV_ok _)))))) ?_
      refine KT.step rfl rfl (K.lit2 rfl rfl Try.underlying33 Try.size35 Try.zero35) ?_
      refine KT.step rfl rfl (K.call2 rfl rfl plainTry_26 (node26 (op := ⟨#[124]⟩) (two_kids (f := (cvF (.mk op2 ks2) 40 210).1) (g := (o2 ⟨#[38]⟩ (cvF (.mk op ks) 40 210).1 (o1 ⟨#[65, 88]⟩ (o2 ⟨#[65, 85]⟩ (cvF (.mk op ks) 40 210).1 (cvF (.mk op2 ks2) 40 210).1)))) (kidsV_ok _) (two_kids (f := (cvF (.mk op ks) 40 210).1) (g := (o1 ⟨#[65, 88]⟩ (o2 ⟨#[65, 85]⟩ (cvF (.mk op ks) 40 210).1 (cvF (.mk op2 ks2) 40 210).1))) (kidsV_ok _) (one_kid (f := (o2 ⟨#[65, 85]⟩ (cvF (.mk op ks) 40 210).1 (cvF (.mk op2 ks2) 40 210).1)) (two_kids (f := (cvF (.mk op ks) 40 210).1) (g := (cvF (.mk op2 ks2) 40 210).1) (kidsV_ok _) (kidsV_ok _))))))) ?_
      refine KT.step rfl rfl (K.call3 rfl rfl rfl plainTry_25 ((alike_of (N := (N.take 18)) (L := (L.take 18)) (f := (o2 ⟨#[65, 85]⟩ (cvF (.mk op ks) 40 210).1 (cvF (.mk op2 ks2) 40 210).1)) (g := (o2 ⟨#[124]⟩ (cvF (.mk op2 ks2) 40 210).1 (o2 ⟨#[38]⟩ (cvF (.mk op ks) 40 210).1 (o1 ⟨#[65, 88]⟩ (o2 ⟨#[65, 85]⟩ (cvF (.mk op ks) 40 210).1 (cvF (.mk op2 ks2) 40 210).1))))) (fun nx lb hl => fix_AU nx lb hl (cvF (.mk op ks) 40 210).1 (cvF (.mk op2 ks2) 40 210).1)) ▸ alike25 (f := (o2 ⟨#[65, 85]⟩ (cvF (.mk op ks) 40 210).1 (cvF (.mk op2 ks2) 40 210).1)) (g := (o2 ⟨#[124]⟩ (cvF (.mk op2 ks2) 40 210).1 (o2 ⟨#[38]⟩ (cvF (.mk op ks) 40 210).1 (o1 ⟨#[65, 88]⟩ (o2 ⟨#[65, 85]⟩ (cvF (.mk op ks) 40 210).1 (cvF (.mk op2 ks2) 40 210).1))))) hN hL (two_kids (f := (cvF (.mk op ks) 40 210).1) (g := (cvF (.mk op2 ks2) 40 210).1) (kidsV_ok _) (kidsV_ok _)) (two_kids (f := (cvF (.mk op2 ks2) 40 210).1) (g := (o2 ⟨#[38]⟩ (cvF (.mk op ks) 40 210).1 (o1 ⟨#[65, 88]⟩ (o2 ⟨#[65, 85]⟩ (cvF (.mk op ks) 40 210).1 (cvF (.mk op2 ks2) 40 210).1)))) (kidsV_ok _) (two_kids (f := (cvF (.mk op ks) 40 210).1) (g := (o1 ⟨#[65, 88]⟩ (o2 ⟨#[65, 85]⟩ (cvF (.mk op ks) 40 210).1 (cvF (.mk op2 ks2) 40 210).1))) (kidsV_ok _) (one_kid (f := (o2 ⟨#[65, 85]⟩ (cvF (.mk op ks) 40 210).1 (cvF (.mk op2 ks2) 40 210).1)) (two_kids (f := (cvF (.mk op ks) 40 210).1) (g := (cvF (.mk op2 ks2) 40 210).1) (kidsV_ok _) (kidsV_ok _))))))) ?_
      refine KT.step rfl rfl (K.pick rfl (fun _ => rfl) (fun h => by cases h)) ?_
      refine KT.step rfl rfl (K.move rfl) ?_
      refine KT.step rfl rfl (K.call0 plainTry_14 (awake14)) ?_
      refine KT.step rfl rfl (K.pick rfl (fun _ => rfl) (fun h => by cases h)) ?_
      refine KT.step rfl rfl (K.assign rfl) ?_
      refine KT.nil ?_
      refine ⟨by kernel_rfl, ?_⟩
      refine thenK_n ?_
      refine KC.ret ?_
      exact ⟨.inl rfl, _, rfl, fin_b rfl⟩
end Go.Proofs.Ytcjcchceeidgkaa

