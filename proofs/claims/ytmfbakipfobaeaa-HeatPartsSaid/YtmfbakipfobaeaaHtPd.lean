import Derived.Test.YtmfbakipfobaeaaHtPc
import Derived.Test.YtmfbakipfobaeaaHtPq
/-
  Heat: the matches of loads.
-/
namespace Go.Proofs.Ytmfbakipfobaeaa
open Go.Vm Go.Ht
theorem plainTry_60 : plainFn Try.prog 60 = true := by kernel_rfl
theorem plainTry_37 : plainFn Try.prog 37 = true := by kernel_rfl
theorem plainTry_38 : plainFn Try.prog 38 = true := by kernel_rfl
theorem build96_a (a b c : Int) : opBuild Try.prog 96 [(0, .d (DI a)), (1, .d (DI b)), (2, .d (DI c))] = some (.d (.agg [DI a, DI b, DI c])) := by kernel_rfl
theorem concat2 {σ : List VObj} {d0 d1 : DV} {hot cold : List Int} (hh : Ints d0 hot) (hc : Ints d1 cold) (h1 : 1 ≤ hot.length) (hl : hot.length + cold.length ≤ 1000) : OwnCall Try.prog 75 σ [.d (.sl [d0, d1] 2 (some 2))] (σ ++ [⟨xs (hot ++ cold), 0⟩]) (.osl σ.length 0 (hot.length + cold.length) 1 (hot.length + cold.length) false) := by
  have hmat : Mat (.sl [d0, d1] 2 (some 2)) [hot, cold] := .sl (l := [hot, cold]) rfl fun i c x hc' hx => by
    match i with
    | 0 => simp at hc' hx; subst hc' hx; exact hh
    | 1 => simp at hc' hx; subst hc' hx; exact hc
    | i + 2 => simp at hc'
  have hfl : [hot, cold].flatten = hot ++ cold := by simp
  have := concat75 (σ := σ) hmat (by simp) (by rw [hfl, List.length_append]; omega) (by rw [hfl, List.length_append]; omega)
  rwa [hfl, List.length_append] at this
set_option maxHeartbeats 4000000 in
set_option maxRecDepth 10000 in
theorem match60 {d0 d1 : DV} {hot cold : List Int} (hh : Ints d0 hot) (hc : Ints d1 cold) (hhl : hot.length ≤ 9223372036854775807) (hcl : cold.length ≤ 9223372036854775807) (hok : okM hot cold = true) : DeepCall Try.prog 60 [divV (zL hot cold), d0, d1] (flV (e3 hot.length) (mtch hot cold (ordA (zL hot cold)))) := by
  obtain ⟨n1, n2, n3, n4, b1, b2, hsum⟩ := okM_iff.1 hok
  have hzl := zL_len hot cold
  have hord := ordA_ord (zL hot cold)
  have hol := hord.len
  have hinit := MtI.init hok hord
  have hM : 2 ^ (zL hot cold).length ≤ 4096 := Nat.pow_le_pow_right (n := 2) (by decide) (show (zL hot cold).length ≤ 12 by omega)
  refine deepCall_K 5 Try.func60 rfl (Nat.le_of_ble_eq_true rfl) fun M W0 => ?_
  refine KC.seq ?_
  refine KC.region ?_
  refine KT.step rfl rfl (K.box rfl) ?_
  refine KT.step rfl rfl (K.assign rfl) ?_
  refine KT.nil ?_
  refine thenK_n ?_
  refine KC.seq ?_
  refine KC.region ?_
  refine KT.step rfl rfl (K.move rfl) ?_
  refine KT.step rfl rfl (K.move rfl) ?_
  refine KT.step rfl rfl (K.lit2V rfl rfl (ints_sl hh) (ints_sl hc) Try.underlying118 Try.size23 Try.one23.zero) ?_
  refine KT.step rfl rfl (K.callO rfl plainTry_75 (concat2 hh hc n1 (by omega))) ?_
  refine KT.step rfl rfl (K.assign rfl) ?_
  refine KT.nil ?_
  refine thenK_n ?_
  refine KC.seq ?_
  refine KC.region ?_
  refine KT.step rfl rfl (K.assign rfl) ?_
  refine KT.step rfl rfl (K.assign rfl) ?_
  refine KT.nil ?_
  refine thenK_n ?_
  refine KC.seq ?_
  refine KC.seq ?_
  refine KC.region ?_
  refine KT.step rfl rfl (K.loadOA [.sl (ints (tabP (zL hot cold))) (2 ^ (zL hot cold).length) (some (2 ^ (zL hot cold).length)), .sl (ints (tabO (zL hot cold))) (2 ^ (zL hot cold).length) (some (2 ^ (zL hot cold).length))] rfl rfl (by decide) Try.agg92 Try.size92 rfl) ?_
  refine KT.step rfl rfl (K.call1 rfl plainTry_76 (order76 (by omega))) ?_
  refine KT.step rfl rfl (K.len rfl (intsV_ok _) Try.underlying23) ?_
  refine KT.step rfl rfl (K.move rfl) ?_
  refine KT.nil ?_
  refine thenK_n ?_
  refine KC.block ?_
  refine KC.loop (fun p : List VObj × XV × XV × Nat => p.1) (fun p => [(1, .d d0), (7, .osl 1 0 (hot.length + cold.length) 1 (hot.length + cold.length) false), (8, p.2.1), (9, p.2.2.1), (21, .d (intsV (zn (ordA (zL hot cold))))), (22, .d (DI ((zn (ordA (zL hot cold))).length : Nat))), (23, .d (DI (p.2.2.2 : Nat)))]) (fun p => p.2.2.2 ≤ (ordA (zL hot cold)).length ∧ p.1[1]? = some ⟨xs (hot ++ cold), 0⟩ ∧ OwnK 1 p.1 p.2.1 (xs (zn (ix (hotA hot ((ordA (zL hot cold)).take p.2.2.2))))) ∧ OwnK 1 p.1 p.2.2.1 (xs (zn (ix (coldA hot cold ((ordA (zL hot cold)).take p.2.2.2))))) ∧ (∀ j, idX p.2.1 = some j → 2 ≤ j) ∧ (∀ j, idX p.2.2.1 = some j → 2 ≤ j) ∧ (∀ j, idX p.2.1 = some j → idX p.2.2.1 ≠ some j)) (fun p => (ordA (zL hot cold)).length - p.2.2.2) (_, .d Dnil, .d Dnil, 0) ⟨Nat.zero_le _, rfl, .nil, .nil, fun j hj => (by cases hj), fun j hj => (by cases hj), fun j hj => (by cases hj)⟩ rfl (by simp [Go.Vm.look, extK, enterK]) ?_
  intro p hp
  obtain ⟨σ0, x, y, k⟩ := p
  obtain ⟨hk, y1, ox, oy, dx, dy, dxy⟩ := hp
  simp only at hk y1 ox oy dx dy dxy ⊢
  refine KC.seq ?_
  refine KC.region ?_
  refine KT.step rfl rfl (K.lss rfl rfl) ?_
  refine KT.nil ?_
  refine thenK_n ?_
  refine KC.seq ?_
  refine KC.cond rfl (fun hc24 => ?_) (fun hc24 => ?_)
  · skip
    replace hc24 := of_decide_eq_true hc24
    have hkl : k < (zn (ordA (zL hot cold))).length := by omega
    have hko : k < (ordA (zL hot cold)).length := by rw [zn_len] at hkl; exact hkl
    refine KC.skip ?_
    refine thenK_n ?_
    refine KC.seq ?_
    refine KC.block ?_
    refine KC.seq ?_
    refine KC.region ?_
    refine KT.idxI (m := k) rfl rfl rfl (intsV_ok _) rfl hkl Try.underlying23 Try.size3 fun cs25 => ?_
    refine KT.step rfl rfl (K.load rfl Try.agg3) ?_
    rw [zn_get hko]
    refine KT.step rfl rfl (K.assign rfl) ?_
    refine KT.nil ?_
    refine thenK_n ?_
    refine KC.seq ?_
    refine KC.region ?_
    refine KT.step rfl rfl (K.move rfl) ?_
    refine KT.step rfl rfl (K.move rfl) ?_
    refine KT.step rfl rfl (K.len rfl hh Try.underlying23) ?_
    refine KT.step rfl rfl (K.lss rfl rfl) ?_
    refine KT.nil ?_
    refine thenK_n ?_
    refine KC.cond rfl (fun hc30 => ?_) (fun hc30 => ?_)
    · skip
      replace hc30 := of_decide_eq_true hc30
      have hc30' : (ordA (zL hot cold))[k] < hot.length := by omega
      refine KC.region ?_
      refine KT.step rfl rfl (K.move rfl) ?_
      refine KT.step rfl rfl (K.move rfl) ?_
      refine KT.step rfl rfl (K.build1' rfl rfl Try.underlying23 Try.one3) ?_
      refine KT.appM (k := 1) (q := 1) rfl rfl rfl rfl (ox.pushed _) (List.getElem?_concat_length ..) rfl (by decide) (by decide) rfl (by rw [xs_len, zn_len, ix_len]; have := amts_len (hot := hot) (cold := cold) ((ordA (zL hot cold)).take k); rw [List.length_take] at this; omega) Try.underlying23 Try.size3 (of_decide_eq_true (by kernel_rfl)) (by kernel_rfl) (by decide) fun σ1 x1 o1 k1 w1 => ?_
      obtain ⟨j1, w2, w3⟩ := w1
      simp only [List.length_append, List.length_cons, List.length_nil] at w3
      have hs2 := lt_of_get y1
      have z1 := (k1 1 (fun h => by have := dx 1 h; omega) (by rw [List.length_append]; omega)).trans (get_left y1)
      have oz : OwnK 1 σ1 y _ := (OwnK.pushed oy _).keep fun j hj => k1 j (fun h => dxy j h hj) (by have := OwnK.lt oy hj; rw [List.length_append]; omega)
      refine KT.step rfl rfl (K.assign rfl) ?_
      refine KT.nil ?_
      refine blockK_n ?_
      refine thenK_n ?_
      refine KC.region ?_
      refine KT.step rfl rfl (K.add rfl rfl (wrap_id (by omega))) ?_
      refine KT.step rfl rfl (K.move rfl) ?_
      refine KT.nil ?_
      refine thenK_n ?_
      refine ⟨(σ1, x1, y, k + 1), ⟨by simp only; omega, z1, ?_, ?_, fun j hj => ?_, dy, fun j hj hj' => ?_⟩, by simp only; omega, rfl, by simp [Go.Vm.look, extK]⟩
      · simp only
        rw [ix_hot_snoc hko, if_pos hc30', zn_app, xs_app]; exact o1
      · simp only
        rw [ix_cold_snoc hko, if_pos hc30']; exact oz
      · simp only at hj; rw [w2] at hj; cases hj; omega
      · simp only at hj hj'; rw [w2] at hj; cases hj; have := oy.lt hj'; omega
    · skip
      replace hc30 := of_decide_eq_false hc30
      have hc30' : ¬ (ordA (zL hot cold))[k] < hot.length := by omega
      refine KC.region ?_
      refine KT.step rfl rfl (K.move rfl) ?_
      refine KT.step rfl rfl (K.move rfl) ?_
      refine KT.step rfl rfl (K.build1' rfl rfl Try.underlying23 Try.one3) ?_
      refine KT.appM (k := 1) (q := 1) rfl rfl rfl rfl (oy.pushed _) (List.getElem?_concat_length ..) rfl (by decide) (by decide) rfl (by rw [xs_len, zn_len, ix_len]; have := amts_len (hot := hot) (cold := cold) ((ordA (zL hot cold)).take k); rw [List.length_take] at this; omega) Try.underlying23 Try.size3 (of_decide_eq_true (by kernel_rfl)) (by kernel_rfl) (by decide) fun σ1 x1 o1 k1 w1 => ?_
      obtain ⟨j1, w2, w3⟩ := w1
      simp only [List.length_append, List.length_cons, List.length_nil] at w3
      have hs2 := lt_of_get y1
      have z1 := (k1 1 (fun h => by have := dy 1 h; omega) (by rw [List.length_append]; omega)).trans (get_left y1)
      have oz : OwnK 1 σ1 x _ := (OwnK.pushed ox _).keep fun j hj => k1 j (fun h => dxy j hj h) (by have := OwnK.lt ox hj; rw [List.length_append]; omega)
      refine KT.step rfl rfl (K.assign rfl) ?_
      refine KT.nil ?_
      refine blockK_n ?_
      refine thenK_n ?_
      refine KC.region ?_
      refine KT.step rfl rfl (K.add rfl rfl (wrap_id (by omega))) ?_
      refine KT.step rfl rfl (K.move rfl) ?_
      refine KT.nil ?_
      refine thenK_n ?_
      refine ⟨(σ1, x, x1, k + 1), ⟨by simp only; omega, z1, ?_, ?_, dx, fun j hj => ?_, fun j hj hj' => ?_⟩, by simp only; omega, rfl, by simp [Go.Vm.look, extK]⟩
      · simp only
        rw [ix_hot_snoc hko, if_neg hc30']; exact oz
      · simp only
        rw [ix_cold_snoc hko, if_neg hc30', zn_app, xs_app]; exact o1
      · simp only at hj; rw [w2] at hj; cases hj; omega
      · simp only at hj hj'; rw [w2] at hj'; cases hj'; have := ox.lt hj; omega
  · skip
    replace hc24 := of_decide_eq_false hc24
    obtain rfl : k = (ordA (zL hot cold)).length := by rw [zn_len] at hc24; omega
    rw [List.take_length] at ox oy
    refine KC.exit ?_
    refine thenK_x ?_
    refine thenK_x ?_
    refine blockK_e ?_
    refine thenK_n ?_
    refine KC.seq ?_
    have hal := amts_len (hot := hot) (cold := cold) (ordA (zL hot cold))
    obtain ⟨p1, p2, _⟩ := amts_pos b1 b2 (os := (ordA (zL hot cold))) fun i hi => by have := hord.lt i hi; omega
    have hF0 : hotA hot (ordA (zL hot cold)) ≠ [] := fun e => by
      have hs := hinit.s
      rw [e] at hs
      have h2 := nil_of_sm p2 (by rw [← hs]; rfl)
      rw [e, h2] at hal; simp at hal; omega
    have hT0 : coldA hot cold (ordA (zL hot cold)) ≠ [] := fun e => by
      have hs := hinit.s
      rw [e] at hs
      exact hF0 (nil_of_sm p1 (by rw [hs]; rfl))
    obtain ⟨ja, rfl, hsa⟩ := own_xs ox (fun e => hF0 (by have := congrArg List.length e; rw [zn_len, ix_len] at this; exact List.eq_nil_of_length_eq_zero this))
    obtain ⟨jb, rfl, hsb⟩ := own_xs oy (fun e => hT0 (by have := congrArg List.length e; rw [zn_len, ix_len] at this; exact List.eq_nil_of_length_eq_zero this))
    have hja : 2 ≤ ja := dx ja rfl
    have hjb : 2 ≤ jb := dy jb rfl
    have hjab : jb ≠ ja := fun e => dxy ja rfl (by rw [← e]; rfl)
    refine KC.ghost [ja] 5 (t := 8) rfl (deep_xs hsa (by simp) rfl) ?_
    refine KC.ghost [jb] 5 (t := 9) rfl (deep_xs ((freezeIds_not (ids := [ja]) (by simpa using hjab)).trans hsb) (by simp) rfl) ?_
    replace y1 := (freezeIds_not (ids := [jb]) (by simp; omega)).trans ((freezeIds_not (ids := [ja]) (by simp; omega)).trans y1)
    generalize freezeIds (freezeIds σ0 [ja]) [jb] = A at y1 ⊢
    refine KC.region ?_
    refine KT.step rfl rfl (K.assign rfl) ?_
    refine KT.nil ?_
    refine thenK_n ?_
    refine KC.seq ?_
    refine KC.block ?_
    refine KC.loop (fun p : List VObj × XV × List Int × Am × Am × List (Nat × Nat × Int) => p.1) (fun p => [(1, .d d0), (7, .osl 1 0 (hot.length + cold.length) 1 (hot.length + cold.length) false), (8, .d (.sl (ints (zn (ix p.2.2.2.1))) (zn (ix p.2.2.2.1)).length none)), (9, .d (.sl (ints (zn (ix p.2.2.2.2.1))) (zn (ix p.2.2.2.2.1)).length none)), (12, p.2.1)]) (fun p => MtI hot.length (hot.length + cold.length) p.2.2.1 p.2.2.2.1 p.2.2.2.2.1 ∧ p.2.2.2.2.2 ++ nw p.2.2.2.1 p.2.2.2.2.1 = mtch hot cold (ordA (zL hot cold)) ∧ p.1[1]? = some ⟨xs p.2.2.1, 0⟩ ∧ OwnK 3 p.1 p.2.1 ((p.2.2.2.2.2.flatMap (e3 hot.length)).map .d) ∧ (∀ j, idX p.2.1 = some j → 2 ≤ j) ∧ (p.2.2.2.2.2 = [] → p.2.1 = .d Dnil)) (fun p => p.2.2.2.1.length + p.2.2.2.2.1.length) (_, .d Dnil, hot ++ cold, hotA hot (ordA (zL hot cold)), coldA hot cold (ordA (zL hot cold)), []) ⟨hinit, rfl, y1, .nil, fun j hj => (by cases hj), fun _ => rfl⟩ rfl (by simp [Go.Vm.look, extK]) ?_
    intro p hp
    obtain ⟨σ0, x, L, F, T, dn⟩ := p
    obtain ⟨hI, hdn, y1, o, dz, hnil⟩ := hp
    simp only at hI hdn y1 o dz hnil ⊢
    have hdl : dn.length ≤ 100 := by
      have h1 := (ord_K hok hord).2
      have h2 := congrArg List.length hdn
      rw [List.length_append] at h2
      have := (bestA_le hok).1
      omega
    refine KC.seq ?_
    refine KC.seq ?_
    refine KC.region ?_
    refine KT.step rfl rfl (K.move rfl) ?_
    refine KT.step rfl rfl (K.len rfl ints_ok Try.underlying23) ?_
    refine KT.step rfl rfl (K.gtr rfl rfl) ?_
    refine KT.nil ?_
    refine thenK_n ?_
    refine KC.cond rfl (fun hc42 => ?_) (fun hc42 => ?_)
    · skip
      replace hc42 := of_decide_eq_true hc42
      have hFp : 0 < F.length := by rw [← ix_len, ← zn_len]; omega
      obtain ⟨⟨i, a⟩, F, rfl⟩ := List.exists_cons_of_length_pos hFp
      obtain ⟨j, b, T, rfl⟩ := hI.two
      obtain ⟨hi, hj1, hj2, g1, g2, pa, pb, ba, bb⟩ := hI.get
      refine KC.skip ?_
      refine thenK_n ?_
      refine KC.block ?_
      refine KC.seq ?_
      refine KC.draw Try.mixed ?_
      refine KT.step rfl rfl (K.move rfl) ?_
      refine KT.idxI (m := 0) rfl rfl rfl (ints_ok (l := zn (ix ((i, a) :: F)))) rfl (by simp [zn, ix]) Try.underlying23 Try.size3 fun cs44 => ?_
      refine KT.step rfl rfl (K.load rfl Try.agg3) ?_
      rw [show (zn (ix ((i, a) :: F)))[0]'(by simp [zn, ix]) = ((i : Nat) : Int) from rfl]
      refine KT.step rfl rfl (K.move rfl) ?_
      refine KT.idxI (m := 0) rfl rfl rfl (ints_ok (l := zn (ix ((j, b) :: T)))) rfl (by simp [zn, ix]) Try.underlying23 Try.size3 fun cs47 => ?_
      refine KT.step rfl rfl (K.load rfl Try.agg3) ?_
      rw [show (zn (ix ((j, b) :: T)))[0]'(by simp [zn, ix]) = ((j : Nat) : Int) from rfl]
      refine KT.step rfl rfl (K.assign rfl) ?_
      refine KT.step rfl rfl (K.assign rfl) ?_
      refine KT.nil ?_
      refine ⟨by kernel_rfl, ?_⟩
      refine thenK_n ?_
      refine KC.seq ?_
      refine KC.draw Try.mixed ?_
      refine KT.step rfl rfl (K.move rfl) ?_
      refine KT.step rfl rfl (K.move rfl) ?_
      refine KT.step rfl rfl (K.idxO (m := i) rfl rfl (by omega) Try.underlying23 Try.size3) ?_
      refine KT.step rfl rfl (K.loadO rfl y1 (by simp) (xs_getD (l := L) (i := i) (by simp [hI.len]; omega)) Try.agg3) ?_
      rw [g1]
      refine KT.step rfl rfl (K.move rfl) ?_
      refine KT.step rfl rfl (K.move rfl) ?_
      refine KT.step rfl rfl (K.idxO (m := j) rfl rfl (by omega) Try.underlying23 Try.size3) ?_
      refine KT.step rfl rfl (K.loadO rfl y1 (by simp) (xs_getD (l := L) (i := j) (by simp [hI.len]; omega)) Try.agg3) ?_
      rw [g2]
      refine KT.step rfl rfl (K.min2 rfl rfl) ?_
      refine KT.step rfl rfl (K.assign rfl) ?_
      refine KT.nil ?_
      refine ⟨by kernel_rfl, ?_⟩
      refine thenK_n ?_
      refine KC.seq ?_
      refine KC.region ?_
      refine KT.step rfl rfl (K.move rfl) ?_
      refine KT.step rfl rfl (K.move rfl) ?_
      refine KT.step rfl rfl (K.move rfl) ?_
      refine KT.step rfl rfl (K.move rfl) ?_
      refine KT.step rfl rfl (K.len rfl hh Try.underlying23) ?_
      refine KT.step rfl rfl (K.sub rfl rfl (wrap_id (by omega))) ?_
      refine KT.step rfl rfl (K.move rfl) ?_
      refine KT.step rfl rfl (K.buildS rfl (build96_a _ _ _)) ?_
      refine KT.step rfl rfl (K.buildK (k := 3) (ds := [DI (i : Nat), DI ((j : Nat) - (hot.length : Nat) : Int), DI (min a b)]) rfl rfl Try.underlying56 Try.size96 Try.zero96 (by decide)) ?_
      have hs2 := lt_of_get y1
      refine KT.appK (k := 3) rfl rfl rfl rfl (o.pushed _) (List.getElem?_concat_length ..) rfl rfl (by rw [List.length_map, flat_len (e3_len _)]; omega) Try.underlying56 Try.size96 (of_decide_eq_true (by kernel_rfl)) (by kernel_rfl) (by decide) fun σ2 x2 ho2 k2 w2 => ?_
      obtain ⟨j2, w3, w4⟩ := w2
      simp only [List.length_append, List.length_cons, List.length_nil] at w4
      replace y1 := (k2 1 (fun h => by have := dz 1 h; omega) (by rw [List.length_append]; omega)).trans (get_left y1)
      have dx : ∀ j, idX x2 = some j → 2 ≤ j := fun j hj => by rw [w3] at hj; cases hj; omega
      refine KT.step rfl rfl (K.assign rfl) ?_
      refine KT.nil ?_
      refine thenK_n ?_
      refine KC.seq ?_
      refine KC.region ?_
      refine KT.step rfl rfl (K.move rfl) ?_
      refine KT.step rfl rfl (K.move rfl) ?_
      refine KT.step rfl rfl (K.idxO (m := i) rfl rfl (by omega) Try.underlying23 Try.size3) ?_
      refine KT.step rfl rfl (K.loadO rfl y1 (by simp) (xs_getD (l := L) (i := i) (by simp [hI.len]; omega)) Try.agg3) ?_
      rw [g1]
      refine KT.step rfl rfl (K.move rfl) ?_
      refine KT.step rfl rfl (K.sub rfl rfl (wrap_id (by omega))) ?_
      refine KT.step rfl rfl (K.idxO (m := i) rfl rfl (by omega) Try.underlying23 Try.size3) ?_
      refine KT.storeG rfl rfl rfl rfl y1 (by rw [xs_len]; simp [hI.len]; omega) rfl rfl Try.size3 fun σ3 l3 u3 v3 => ?_
      replace y1 := u3.trans (congrArg (fun c => some (VObj.mk c 0)) xs_set)
      replace ho2 := ho2.keep fun j hj => v3 j (by have := dx j hj; omega)
      refine KT.nil ?_
      refine thenK_n ?_
      refine KC.seq ?_
      refine KC.region ?_
      refine KT.step rfl rfl (K.move rfl) ?_
      refine KT.step rfl rfl (K.move rfl) ?_
      refine KT.step rfl rfl (K.idxO (m := j) rfl rfl (by omega) Try.underlying23 Try.size3) ?_
      refine KT.step rfl rfl (K.loadO rfl y1 (by simp) (xs_getD (l := (L.set i (a - min a b))) (i := j) (by simp [hI.len]; omega)) Try.agg3) ?_
      rw [show (L.set i (a - min a b)).getD j 0 = b by rw [getD_set (by rw [hI.len]; omega), if_neg (by omega)]; exact g2]
      refine KT.step rfl rfl (K.move rfl) ?_
      refine KT.step rfl rfl (K.sub rfl rfl (wrap_id (by omega))) ?_
      refine KT.step rfl rfl (K.idxO (m := j) rfl rfl (by omega) Try.underlying23 Try.size3) ?_
      refine KT.storeG rfl rfl rfl rfl y1 (by rw [xs_len]; simp [hI.len]; omega) rfl rfl Try.size3 fun σ4 l4 u4 v4 => ?_
      replace y1 := u4.trans (congrArg (fun c => some (VObj.mk c 0)) xs_set)
      replace ho2 := ho2.keep fun j hj => v4 j (by have := dx j hj; omega)
      refine KT.nil ?_
      refine thenK_n ?_
      refine KC.seq ?_
      refine KC.seq ?_
      refine KC.region ?_
      refine KT.step rfl rfl (K.move rfl) ?_
      refine KT.step rfl rfl (K.move rfl) ?_
      refine KT.step rfl rfl (K.idxO (m := i) rfl rfl (by omega) Try.underlying23 Try.size3) ?_
      refine KT.step rfl rfl (K.loadO rfl y1 (by simp) (xs_getD (l := ((L.set i (a - min a b)).set j (b - min a b))) (i := i) (by simp [hI.len]; omega)) Try.agg3) ?_
      rw [show ((L.set i (a - min a b)).set j (b - min a b)).getD i 0 = a - min a b by rw [getD_set (by simp [hI.len]; omega), if_neg (by omega), getD_set (by rw [hI.len]; omega), if_pos rfl]]
      refine KT.step rfl rfl (K.eql rfl rfl) ?_
      refine KT.nil ?_
      refine thenK_n ?_
      refine KC.cond rfl (fun hc86 => ?_) (fun hc86 => ?_)
      · skip
        replace hc86 := of_decide_eq_true hc86
        refine KC.region ?_
        refine KT.step rfl rfl (K.move rfl) ?_
        refine KT.step rfl rfl ((show KEv Try.prog _ _ _ (.d (.sl (ints (zn (ix F))) (zn (ix F)).length none)) _ 0 from K.tailI (cap := none) (ls := zn (ix ((i, a) :: F))) rfl (by simp [zn, ix]) Try.underlying23 Try.size3)) ?_
        refine KT.step rfl rfl (K.assign rfl) ?_
        refine KT.nil ?_
        refine thenK_n ?_
        refine KC.seq ?_
        refine KC.region ?_
        refine KT.step rfl rfl (K.move rfl) ?_
        refine KT.step rfl rfl (K.move rfl) ?_
        refine KT.step rfl rfl (K.idxO (m := j) rfl rfl (by omega) Try.underlying23 Try.size3) ?_
        refine KT.step rfl rfl (K.loadO rfl y1 (by simp) (xs_getD (l := ((L.set i (a - min a b)).set j (b - min a b))) (i := j) (by simp [hI.len]; omega)) Try.agg3) ?_
        rw [show ((L.set i (a - min a b)).set j (b - min a b)).getD j 0 = b - min a b by rw [getD_set (by simp [hI.len]; omega), if_pos rfl]]
        refine KT.step rfl rfl (K.eql rfl rfl) ?_
        refine KT.nil ?_
        refine thenK_n ?_
        refine KC.cond rfl (fun hc93 => ?_) (fun hc93 => ?_)
        · skip
          replace hc93 := of_decide_eq_true hc93
          refine KC.region ?_
          refine KT.step rfl rfl (K.move rfl) ?_
          refine KT.step rfl rfl ((show KEv Try.prog _ _ _ (.d (.sl (ints (zn (ix T))) (zn (ix T)).length none)) _ 0 from K.tailI (cap := none) (ls := zn (ix ((j, b) :: T))) rfl (by simp [zn, ix]) Try.underlying23 Try.size3)) ?_
          refine KT.step rfl rfl (K.assign rfl) ?_
          refine KT.nil ?_
          refine blockK_n ?_
          refine thenK_n ?_
          obtain rfl : a = b := by omega
          have hmn : min a a = a := by omega
          simp only [hmn, Int.sub_self] at y1 ho2
          rw [nw_eq] at hdn
          refine ⟨(σ4, x2, _, F, T, dn ++ [(i, j, a)]), ⟨hI.eq, by simpa using hdn, y1, ?_, dx, fun h => absurd h (by simp)⟩, by simp only [List.length_cons]; omega, rfl, by simp [Go.Vm.look, extK, zn, ix]⟩
          simp only
          rw [List.flatMap_append, List.map_append]
          simpa [e3] using ho2
        · skip
          replace hc93 := of_decide_eq_false hc93
          refine KC.skip ?_
          refine blockK_n ?_
          refine thenK_n ?_
          have hlt : a < b := by omega
          have hmn : min a b = a := by omega
          simp only [hmn, Int.sub_self] at y1 ho2
          rw [nw_lt hlt] at hdn
          refine ⟨(σ4, x2, _, F, (j, b - a) :: T, dn ++ [(i, j, a)]), ⟨hI.lt hlt, by simpa using hdn, y1, ?_, dx, fun h => absurd h (by simp)⟩, by simp only [List.length_cons]; omega, rfl, by simp [Go.Vm.look, extK, zn, ix]⟩
          simp only
          rw [List.flatMap_append, List.map_append]
          simpa [e3] using ho2
      · skip
        replace hc86 := of_decide_eq_false hc86
        refine KC.skip ?_
        refine thenK_n ?_
        refine KC.seq ?_
        refine KC.region ?_
        refine KT.step rfl rfl (K.move rfl) ?_
        refine KT.step rfl rfl (K.move rfl) ?_
        refine KT.step rfl rfl (K.idxO (m := j) rfl rfl (by omega) Try.underlying23 Try.size3) ?_
        refine KT.step rfl rfl (K.loadO rfl y1 (by simp) (xs_getD (l := ((L.set i (a - min a b)).set j (b - min a b))) (i := j) (by simp [hI.len]; omega)) Try.agg3) ?_
        rw [show ((L.set i (a - min a b)).set j (b - min a b)).getD j 0 = b - min a b by rw [getD_set (by simp [hI.len]; omega), if_pos rfl]]
        refine KT.step rfl rfl (K.eql rfl rfl) ?_
        refine KT.nil ?_
        refine thenK_n ?_
        refine KC.cond rfl (fun hc93 => ?_) (fun hc93 => ?_)
        · skip
          replace hc93 := of_decide_eq_true hc93
          refine KC.region ?_
          refine KT.step rfl rfl (K.move rfl) ?_
          refine KT.step rfl rfl ((show KEv Try.prog _ _ _ (.d (.sl (ints (zn (ix T))) (zn (ix T)).length none)) _ 0 from K.tailI (cap := none) (ls := zn (ix ((j, b) :: T))) rfl (by simp [zn, ix]) Try.underlying23 Try.size3)) ?_
          refine KT.step rfl rfl (K.assign rfl) ?_
          refine KT.nil ?_
          refine blockK_n ?_
          refine thenK_n ?_
          have hgt : b < a := by omega
          have hmn : min a b = b := by omega
          simp only [hmn, Int.sub_self] at y1 ho2
          rw [nw_gt hgt] at hdn
          refine ⟨(σ4, x2, _, (i, a - b) :: F, T, dn ++ [(i, j, b)]), ⟨hI.gt hgt, by simpa using hdn, y1, ?_, dx, fun h => absurd h (by simp)⟩, by simp only [List.length_cons]; omega, rfl, by simp [Go.Vm.look, extK, zn, ix]⟩
          simp only
          rw [List.flatMap_append, List.map_append]
          simpa [e3] using ho2
        · skip
          replace hc93 := of_decide_eq_false hc93
          omega
    · skip
      replace hc42 := of_decide_eq_false hc42
      obtain rfl : F = [] := by
        apply List.eq_nil_of_length_eq_zero
        rw [← ix_len, ← zn_len]; omega
      rw [nw_nil, List.append_nil] at hdn
      subst hdn
      refine KC.exit ?_
      refine thenK_x ?_
      refine thenK_x ?_
      refine blockK_e ?_
      refine thenK_n ?_
      refine KC.seq ?_
      refine KC.region ?_
      refine KT.step rfl rfl (K.move rfl) ?_
      refine KT.step rfl rfl (K.assign rfl) ?_
      refine KT.nil ?_
      refine thenK_n ?_
      refine KC.ret ?_
      exact ⟨.inl rfl, _, rfl, own_fl (e3_len _) (by decide) o hnil⟩
end Go.Proofs.Ytmfbakipfobaeaa

