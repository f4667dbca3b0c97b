import Derived.Test.YtmfbakipfobaeaaHtD
/-
  Heat: the functions of the package: levels, cascade, utilities, pinches, bound.
-/
namespace Go.Proofs.Ytmfbakipfobaeaa
open Go.Vm Go.Ht
theorem plainTry_52 : plainFn Try.prog 52 = true := by kernel_rfl
theorem plainTry_16 : plainFn Try.prog 16 = true := by kernel_rfl
theorem plainTry_18 : plainFn Try.prog 18 = true := by kernel_rfl
theorem plainTry_25 : plainFn Try.prog 25 = true := by kernel_rfl
theorem plainTry_26 : plainFn Try.prog 26 = true := by kernel_rfl
theorem plainTry_29 : plainFn Try.prog 29 = true := by kernel_rfl
theorem read_no {d : DV} {l : List Sm} {gap : Int} (hd : StD d l) (hl : l.length ≤ 9223372036854775807) (hno : okH l gap = false) : DeepCall Try.prog 45 [d, DI gap] (.tup [readE, DB false]) := by
  have h := read45 (gap := gap) hd hl
  rw [hno] at h; exact h
theorem read_ok {d : DV} {l : List Sm} {gap : Int} (hd : StD d l) (hl : l.length ≤ 9223372036854775807) (hok : okH l gap = true) : DeepCall Try.prog 45 [d, DI gap] (.tup [readV gap l, DB true]) := by
  have h := read45 (gap := gap) hd hl
  rw [hok] at h; exact h
set_option maxRecDepth 10000 in
theorem hotUtility51 {l : List Sm} {gap : Int} {cs cl : Option Nat} (hok : okH l gap = true) : DeepCall Try.prog 51 [.agg [.sl (l.flatMap (c5 gap)) l.length cs, .sl (ints (lvls gap l)) (lvls gap l).length cl]] (DI (hotU gap l)) := by
  have hb := hotU_bd hok
  have hcl := casc_lvls hok 0
  have n2 := lvls_two hok
  have nl := lvls_length gap l
  have n8 := (okH_iff.1 hok).2.1
  refine deepCall_K 5 Try.func51 rfl (Nat.le_of_ble_eq_true rfl) fun M W0 => ?_
  refine KC.seq ?_
  refine KC.region ?_
  refine KT.step rfl rfl (K.box rfl) ?_
  refine KT.step rfl rfl (K.assign rfl) ?_
  refine KT.nil ?_
  refine thenK_n ?_
  refine KC.seq ?_
  refine KC.region ?_
  refine KT.step rfl rfl (K.loadOA [.sl (l.flatMap (c5 gap)) l.length cs, .sl (ints (lvls gap l)) (lvls gap l).length cl] rfl rfl (by decide) Try.agg75 Try.size75 rfl) ?_
  refine KT.step rfl rfl (K.call2 rfl rfl plainTry_47 (cascade47 hok (by decide) (by decide))) ?_
  refine KT.step rfl rfl (K.call1 rfl plainTry_67 (min67 ints_ok (by omega) (by omega))) ?_
  refine KT.step rfl rfl (K.unI rfl (wrap_id (by unfold hotU at hb; omega))) ?_
  refine KT.step rfl rfl (K.assign rfl) ?_
  refine KT.nil ?_
  refine thenK_n ?_
  refine KC.ret ?_
  exact ⟨.inl rfl, _, rfl, fin_d (congrArg DI (by unfold hotU; omega))⟩
set_option maxRecDepth 10000 in
theorem pinches52 {l : List Sm} {gap : Int} {cs cl : Option Nat} (hok : okH l gap = true) : DeepCall Try.prog 52 [.agg [.sl (l.flatMap (c5 gap)) l.length cs, .sl (ints (lvls gap l)) (lvls gap l).length cl]] (intsV (pins (lvls gap l) (casc gap l (hotU gap l)))) := by
  have hb := hotU_bd hok
  have hcl := casc_lvls hok (hotU gap l)
  have n2 := lvls_two hok
  have nl := lvls_length gap l
  have n8 := (okH_iff.1 hok).2.1
  refine deepCall_K 5 Try.func52 rfl (Nat.le_of_ble_eq_true rfl) fun M W0 => ?_
  refine KC.seq ?_
  refine KC.region ?_
  refine KT.step rfl rfl (K.box rfl) ?_
  refine KT.step rfl rfl (K.assign rfl) ?_
  refine KT.nil ?_
  refine thenK_n ?_
  refine KC.seq ?_
  refine KC.region ?_
  refine KT.step rfl rfl (K.assign rfl) ?_
  refine KT.nil ?_
  refine thenK_n ?_
  refine KC.seq ?_
  refine KC.draw Try.mixed ?_
  refine KT.step rfl rfl (K.loadOA [.sl (l.flatMap (c5 gap)) l.length cs, .sl (ints (lvls gap l)) (lvls gap l).length cl] rfl rfl (by decide) Try.agg75 Try.size75 rfl) ?_
  refine KT.step rfl rfl (K.loadOA [.sl (l.flatMap (c5 gap)) l.length cs, .sl (ints (lvls gap l)) (lvls gap l).length cl] rfl rfl (by decide) Try.agg75 Try.size75 rfl) ?_
  refine KT.step rfl rfl (K.call1 rfl plainTry_51 (hotUtility51 hok)) ?_
  refine KT.step rfl rfl (K.call2 rfl rfl plainTry_47 (cascade47 hok hb.1 (by omega))) ?_
  refine KT.step rfl rfl (K.assign rfl) ?_
  refine KT.nil ?_
  refine ⟨by kernel_rfl, ?_⟩
  refine thenK_n ?_
  refine KC.seq ?_
  refine KC.seq ?_
  refine KC.region ?_
  refine KT.step rfl rfl (K.assign rfl) ?_
  refine KT.nil ?_
  refine thenK_n ?_
  refine KC.block ?_
  have hne : ∀ c : List Int, pinG (lvls gap l) c c.length 1 = [] := fun c => pinG_one
  refine KC.loop (fun p : List VObj × XV × Nat => p.1) (fun p => [(1, .optr 0 0), (3, p.2.1), (4, .d (cascV gap l (hotU gap l))), (5, .d (DI (p.2.2 : Nat)))]) (fun p => 1 ≤ p.2.2 ∧ p.2.2 ≤ (lvls gap l).length ∧ p.1[0]? = some ⟨[.d (.sl (l.flatMap (c5 gap)) l.length cs), .d (.sl (ints (lvls gap l)) (lvls gap l).length cl)], 0⟩ ∧ OwnK 1 p.1 p.2.1 (xs (pinG (lvls gap l) (casc gap l (hotU gap l)) (casc gap l (hotU gap l)).length p.2.2)) ∧ (∀ j, idX p.2.1 = some j → 1 ≤ j) ∧ (pinG (lvls gap l) (casc gap l (hotU gap l)) (casc gap l (hotU gap l)).length p.2.2 = [] → p.2.1 = .d Dnil)) (fun p => (lvls gap l).length - p.2.2) (_, .d Dnil, 1) ⟨Nat.le_refl _, (show 1 ≤ (lvls gap l).length by omega), rfl, by rw [hne]; exact .nil, fun j hj => (by cases hj), fun _ => rfl⟩ rfl (by simp [Go.Vm.look, extK, enterK]) ?_
  intro p hp
  obtain ⟨σ0, x, k⟩ := p
  obtain ⟨hk1, hk, y0, o, dj, hn⟩ := hp
  simp only at hk1 hk y0 o dj hn ⊢
  refine KC.seq ?_
  refine KC.seq ?_
  refine KC.region ?_
  refine KT.step rfl rfl (K.move rfl) ?_
  refine KT.step rfl rfl (K.move rfl) ?_
  refine KT.step rfl rfl (K.len rfl ints_ok Try.underlying23) ?_
  refine KT.step rfl rfl (K.sub rfl rfl (wrap_id (by omega))) ?_
  refine KT.step rfl rfl (K.lss rfl rfl) ?_
  refine KT.nil ?_
  refine thenK_n ?_
  refine KC.cond rfl (fun hc14 => ?_) (fun hc14 => ?_)
  · skip
    replace hc14 := of_decide_eq_true hc14
    refine KC.skip ?_
    refine thenK_n ?_
    refine KC.seq ?_
    refine KC.block ?_
    refine KC.seq ?_
    refine KC.region ?_
    refine KT.step rfl rfl (K.move rfl) ?_
    refine KT.step rfl rfl (K.move rfl) ?_
    refine KT.idxI (m := k) rfl rfl rfl ints_ok rfl (by omega) Try.underlying23 Try.size3 fun cs19 => ?_
    refine KT.step rfl rfl (K.load rfl Try.agg3) ?_
    refine KT.step rfl rfl (K.eql rfl rfl) ?_
    refine KT.nil ?_
    refine thenK_n ?_
    refine KC.cond rfl (fun hc21 => ?_) (fun hc21 => ?_)
    · skip
      replace hc21 := of_decide_eq_true hc21
      refine KC.region ?_
      refine KT.step rfl rfl (K.move rfl) ?_
      refine KT.step rfl rfl (K.fieldAddrO rfl Try.fld75_1 Try.size23) ?_
      refine KT.step rfl rfl (K.loadO rfl y0 (by simp) rfl Try.agg23) ?_
      refine KT.step rfl rfl (K.move rfl) ?_
      refine KT.idxI (m := k) rfl rfl rfl ints_ok rfl (by omega) Try.underlying23 Try.size3 fun cs26 => ?_
      refine KT.step rfl rfl (K.load rfl Try.agg3) ?_
      refine KT.step rfl rfl (K.build1' rfl rfl Try.underlying23 Try.one3) ?_
      refine KT.appM (k := 1) (q := 1) rfl rfl rfl rfl (o.pushed _) (List.getElem?_concat_length ..) rfl (by decide) (by decide) rfl (by rw [xs_len]; have := pinG_len (lvls gap l) (casc gap l (hotU gap l)) (casc gap l (hotU gap l)).length k; omega) Try.underlying23 Try.size3 (of_decide_eq_true (by kernel_rfl)) (by kernel_rfl) (by decide) fun σ1 x1 o1 k1 w1 => ?_
      obtain ⟨j1, w2, w3⟩ := w1
      simp only [List.length_append, List.length_cons, List.length_nil] at w3
      have z0 := (k1 0 (fun h => by have := dj 0 h; omega) (by rw [List.length_append]; simp)).trans (get_left y0)
      refine KT.step rfl rfl (K.assign rfl) ?_
      refine KT.nil ?_
      refine blockK_n ?_
      refine thenK_n ?_
      refine KC.region ?_
      refine KT.step rfl rfl (K.move rfl) ?_
      refine KT.step rfl rfl (K.add rfl rfl (wrap_id (by omega))) ?_
      refine KT.step rfl rfl (K.assign rfl) ?_
      refine KT.nil ?_
      refine thenK_n ?_
      have hc0 : (casc gap l (hotU gap l)).getD k 0 = 0 := by rw [← hc21]; simp [show k < (casc gap l (hotU gap l)).length by omega]
      have hst := pinG_succ (ls := lvls gap l) (c := casc gap l (hotU gap l)) (n := (casc gap l (hotU gap l)).length) (k := k)
      rw [if_pos ⟨hk1, by omega, hc0⟩] at hst
      refine ⟨(σ1, x1, k + 1), ⟨by simp only; omega, by simp only; omega, z0, ?_, fun j hj => ?_, fun h => ?_⟩, by simp only; omega, rfl, by simp [Go.Vm.look, extK]⟩
      · simp only; rw [hst, xs_app, show (lvls gap l).getD k 0 = (lvls gap l)[k] by simp [show k < (lvls gap l).length by omega]]; exact o1
      · simp only at hj; rw [w2] at hj; cases hj; omega
      · simp only at h; rw [hst] at h; simp at h
    · skip
      replace hc21 := of_decide_eq_false hc21
      refine KC.skip ?_
      refine blockK_n ?_
      refine thenK_n ?_
      refine KC.region ?_
      refine KT.step rfl rfl (K.move rfl) ?_
      refine KT.step rfl rfl (K.add rfl rfl (wrap_id (by omega))) ?_
      refine KT.step rfl rfl (K.assign rfl) ?_
      refine KT.nil ?_
      refine thenK_n ?_
      have hc0 : ¬ (casc gap l (hotU gap l)).getD k 0 = 0 := by rw [show (casc gap l (hotU gap l)).getD k 0 = (casc gap l (hotU gap l))[k] by simp [show k < (casc gap l (hotU gap l)).length by omega]]; exact hc21
      have hst := pinG_succ (ls := lvls gap l) (c := casc gap l (hotU gap l)) (n := (casc gap l (hotU gap l)).length) (k := k)
      rw [if_neg (fun h => hc0 h.2.2)] at hst
      exact ⟨(σ0, x, k + 1), ⟨by simp only; omega, by simp only; omega, y0, by simp only; rw [hst]; exact o, dj, by simp only; rw [hst]; exact hn⟩, by simp only; omega, rfl, by simp [Go.Vm.look, extK]⟩
  · skip
    replace hc14 := of_decide_eq_false hc14
    refine KC.exit ?_
    refine thenK_x ?_
    refine thenK_x ?_
    refine blockK_e ?_
    refine thenK_n ?_
    refine KC.seq ?_
    refine KC.region ?_
    refine KT.step rfl rfl (K.move rfl) ?_
    refine KT.step rfl rfl (K.assign rfl) ?_
    refine KT.nil ?_
    refine thenK_n ?_
    refine KC.ret ?_
    have hend : pins (lvls gap l) (casc gap l (hotU gap l)) = pinG (lvls gap l) (casc gap l (hotU gap l)) (casc gap l (hotU gap l)).length k := by
      unfold pins
      have := pinG_end (ls := lvls gap l) (c := casc gap l (hotU gap l)) (n := (casc gap l (hotU gap l)).length) (k := k) (by omega) ((casc gap l (hotU gap l)).length - k)
      rw [← this, show k + ((casc gap l (hotU gap l)).length - k) = (casc gap l (hotU gap l)).length by omega]
    rw [hend]
    exact ⟨.inl rfl, _, rfl, own_ints o hn⟩
set_option maxRecDepth 10000 in
theorem levels_no {d : DV} {l : List Sm} {gap : Int} (hd : StD d l) (hl : l.length ≤ 9223372036854775807)  (hno : okH l gap = false) : DeepCall Try.prog 16 [d, DI gap] (.tup [Dnil, DI 2]) := by
  refine deepCall_K 5 Try.func16 rfl (Nat.le_of_ble_eq_true rfl) fun M W0 => ?_
  refine KC.seq ?_
  refine KC.region ?_
  refine KT.step rfl rfl (K.assign rfl) ?_
  refine KT.step rfl rfl (K.assign rfl) ?_
  refine KT.nil ?_
  refine thenK_n ?_
  refine KC.seq ?_
  refine KC.region ?_
  refine KT.step rfl rfl (K.move rfl) ?_
  refine KT.step rfl rfl (K.move rfl) ?_
  refine KT.step rfl rfl (K.call2 rfl rfl plainTry_45 (read_no hd hl hno)) ?_
  refine KT.step rfl rfl (K.move rfl) ?_
  refine KT.step rfl rfl (K.extract rfl rfl) ?_
  refine KT.step rfl rfl (K.extract rfl rfl) ?_
  refine KT.step rfl rfl (K.alloc Try.zero75) ?_
  refine KT.putAll (cs := [.d Dnil, .d Dnil]) rfl rfl rfl rfl rfl rfl rfl rfl Try.size75 ?_
  refine KT.step rfl rfl (K.assign rfl) ?_
  refine KT.nil ?_
  refine thenK_n ?_
  refine KC.seq ?_
  refine KC.seq ?_
  refine KC.region ?_
  refine KT.step rfl rfl (K.move rfl) ?_
  refine KT.step rfl rfl (K.not rfl) ?_
  refine KT.nil ?_
  refine thenK_n ?_
  refine KC.cond rfl (fun hc15 => ?_) (fun hc15 => ?_)
  · skip
    refine KC.seq ?_
    refine KC.region ?_
    refine KT.step rfl rfl (K.assign rfl) ?_
    refine KT.step rfl rfl (K.assign rfl) ?_
    refine KT.nil ?_
    refine thenK_n ?_
    refine KC.ret ?_
    refine thenK_r ?_
    exact ⟨.inl rfl, _, rfl, rfl⟩
  · skip
    exact absurd hc15 (by decide)
set_option maxRecDepth 10000 in
theorem pinchesP_no {d : DV} {l : List Sm} {gap : Int} (hd : StD d l) (hl : l.length ≤ 9223372036854775807)  (hno : okH l gap = false) : DeepCall Try.prog 26 [d, DI gap] (.tup [Dnil, DI 2]) := by
  refine deepCall_K 5 Try.func26 rfl (Nat.le_of_ble_eq_true rfl) fun M W0 => ?_
  refine KC.seq ?_
  refine KC.region ?_
  refine KT.step rfl rfl (K.assign rfl) ?_
  refine KT.step rfl rfl (K.assign rfl) ?_
  refine KT.nil ?_
  refine thenK_n ?_
  refine KC.seq ?_
  refine KC.region ?_
  refine KT.step rfl rfl (K.move rfl) ?_
  refine KT.step rfl rfl (K.move rfl) ?_
  refine KT.step rfl rfl (K.call2 rfl rfl plainTry_45 (read_no hd hl hno)) ?_
  refine KT.step rfl rfl (K.move rfl) ?_
  refine KT.step rfl rfl (K.extract rfl rfl) ?_
  refine KT.step rfl rfl (K.extract rfl rfl) ?_
  refine KT.step rfl rfl (K.alloc Try.zero75) ?_
  refine KT.putAll (cs := [.d Dnil, .d Dnil]) rfl rfl rfl rfl rfl rfl rfl rfl Try.size75 ?_
  refine KT.step rfl rfl (K.assign rfl) ?_
  refine KT.nil ?_
  refine thenK_n ?_
  refine KC.seq ?_
  refine KC.seq ?_
  refine KC.region ?_
  refine KT.step rfl rfl (K.move rfl) ?_
  refine KT.step rfl rfl (K.not rfl) ?_
  refine KT.nil ?_
  refine thenK_n ?_
  refine KC.cond rfl (fun hc15 => ?_) (fun hc15 => ?_)
  · skip
    refine KC.seq ?_
    refine KC.region ?_
    refine KT.step rfl rfl (K.assign rfl) ?_
    refine KT.step rfl rfl (K.assign rfl) ?_
    refine KT.nil ?_
    refine thenK_n ?_
    refine KC.ret ?_
    refine thenK_r ?_
    exact ⟨.inl rfl, _, rfl, rfl⟩
  · skip
    exact absurd hc15 (by decide)
set_option maxRecDepth 10000 in
theorem utilities_no {d : DV} {l : List Sm} {gap : Int} (hd : StD d l) (hl : l.length ≤ 9223372036854775807)  (hno : okH l gap = false) : DeepCall Try.prog 25 [d, DI gap] (.tup [DI 0, DI 0, DI 2]) := by
  refine deepCall_K 5 Try.func25 rfl (Nat.le_of_ble_eq_true rfl) fun M W0 => ?_
  refine KC.seq ?_
  refine KC.region ?_
  refine KT.step rfl rfl (K.assign rfl) ?_
  refine KT.step rfl rfl (K.assign rfl) ?_
  refine KT.step rfl rfl (K.assign rfl) ?_
  refine KT.nil ?_
  refine thenK_n ?_
  refine KC.seq ?_
  refine KC.region ?_
  refine KT.step rfl rfl (K.move rfl) ?_
  refine KT.step rfl rfl (K.move rfl) ?_
  refine KT.step rfl rfl (K.call2 rfl rfl plainTry_45 (read_no hd hl hno)) ?_
  refine KT.step rfl rfl (K.move rfl) ?_
  refine KT.step rfl rfl (K.extract rfl rfl) ?_
  refine KT.step rfl rfl (K.extract rfl rfl) ?_
  refine KT.step rfl rfl (K.alloc Try.zero75) ?_
  refine KT.putAll (cs := [.d Dnil, .d Dnil]) rfl rfl rfl rfl rfl rfl rfl rfl Try.size75 ?_
  refine KT.step rfl rfl (K.assign rfl) ?_
  refine KT.nil ?_
  refine thenK_n ?_
  refine KC.seq ?_
  refine KC.seq ?_
  refine KC.region ?_
  refine KT.step rfl rfl (K.move rfl) ?_
  refine KT.step rfl rfl (K.not rfl) ?_
  refine KT.nil ?_
  refine thenK_n ?_
  refine KC.cond rfl (fun hc17 => ?_) (fun hc17 => ?_)
  · skip
    refine KC.seq ?_
    refine KC.region ?_
    refine KT.step rfl rfl (K.assign rfl) ?_
    refine KT.step rfl rfl (K.assign rfl) ?_
    refine KT.step rfl rfl (K.assign rfl) ?_
    refine KT.nil ?_
    refine thenK_n ?_
    refine KC.ret ?_
    refine thenK_r ?_
    exact ⟨.inl rfl, _, rfl, rfl⟩
  · skip
    exact absurd hc17 (by decide)
set_option maxRecDepth 10000 in
theorem cascadeP_no {d : DV} {l : List Sm} {gap : Int} (hd : StD d l) (hl : l.length ≤ 9223372036854775807) {h : Int} (hno : okH l gap = false) : DeepCall Try.prog 18 [d, DI gap, DI h] (.tup [Dnil, DI 2]) := by
  refine deepCall_K 5 Try.func18 rfl (Nat.le_of_ble_eq_true rfl) fun M W0 => ?_
  refine KC.seq ?_
  refine KC.region ?_
  refine KT.step rfl rfl (K.assign rfl) ?_
  refine KT.step rfl rfl (K.assign rfl) ?_
  refine KT.nil ?_
  refine thenK_n ?_
  refine KC.seq ?_
  refine KC.region ?_
  refine KT.step rfl rfl (K.move rfl) ?_
  refine KT.step rfl rfl (K.move rfl) ?_
  refine KT.step rfl rfl (K.call2 rfl rfl plainTry_45 (read_no hd hl hno)) ?_
  refine KT.step rfl rfl (K.move rfl) ?_
  refine KT.step rfl rfl (K.extract rfl rfl) ?_
  refine KT.step rfl rfl (K.extract rfl rfl) ?_
  refine KT.step rfl rfl (K.alloc Try.zero75) ?_
  refine KT.putAll (cs := [.d Dnil, .d Dnil]) rfl rfl rfl rfl rfl rfl rfl rfl Try.size75 ?_
  refine KT.step rfl rfl (K.assign rfl) ?_
  refine KT.nil ?_
  refine thenK_n ?_
  refine KC.seq ?_
  refine KC.seq ?_
  refine KC.region ?_
  refine KT.step rfl rfl (K.move rfl) ?_
  refine KT.step rfl rfl (K.not rfl) ?_
  refine KT.step rfl rfl (K.move rfl) ?_
  refine KT.skip rfl rfl ?_
  refine KT.skip rfl rfl ?_
  refine KT.skip rfl rfl ?_
  refine KT.step rfl rfl (K.pick rfl (fun _ => rfl) (fun h => by cases h)) ?_
  refine KT.nil ?_
  refine thenK_n ?_
  refine KC.cond rfl (fun hc22 => ?_) (fun hc22 => ?_)
  · skip
    refine KC.seq ?_
    refine KC.region ?_
    refine KT.step rfl rfl (K.assign rfl) ?_
    refine KT.step rfl rfl (K.assign rfl) ?_
    refine KT.nil ?_
    refine thenK_n ?_
    refine KC.ret ?_
    refine thenK_r ?_
    exact ⟨.inl rfl, _, rfl, rfl⟩
  · cases hc22
set_option maxRecDepth 10000 in
theorem bound_no {d : DV} {l : List Sm} {gap : Int} (hd : StD d l) (hl : l.length ≤ 9223372036854775807) {t : Int} (hno : okH l gap = false) : DeepCall Try.prog 29 [d, DI gap, DI t] (.tup [DI 0, DI 2]) := by
  refine deepCall_K 5 Try.func29 rfl (Nat.le_of_ble_eq_true rfl) fun M W0 => ?_
  refine KC.seq ?_
  refine KC.region ?_
  refine KT.step rfl rfl (K.assign rfl) ?_
  refine KT.step rfl rfl (K.assign rfl) ?_
  refine KT.nil ?_
  refine thenK_n ?_
  refine KC.seq ?_
  refine KC.region ?_
  refine KT.step rfl rfl (K.move rfl) ?_
  refine KT.step rfl rfl (K.move rfl) ?_
  refine KT.step rfl rfl (K.call2 rfl rfl plainTry_45 (read_no hd hl hno)) ?_
  refine KT.step rfl rfl (K.move rfl) ?_
  refine KT.step rfl rfl (K.extract rfl rfl) ?_
  refine KT.step rfl rfl (K.extract rfl rfl) ?_
  refine KT.step rfl rfl (K.alloc Try.zero75) ?_
  refine KT.putAll (cs := [.d Dnil, .d Dnil]) rfl rfl rfl rfl rfl rfl rfl rfl Try.size75 ?_
  refine KT.step rfl rfl (K.assign rfl) ?_
  refine KT.nil ?_
  refine thenK_n ?_
  refine KC.seq ?_
  refine KC.seq ?_
  refine KC.region ?_
  refine KT.step rfl rfl (K.move rfl) ?_
  refine KT.step rfl rfl (K.not rfl) ?_
  refine KT.step rfl rfl (K.move rfl) ?_
  refine KT.skip rfl rfl ?_
  refine KT.skip rfl rfl ?_
  refine KT.skip rfl rfl ?_
  refine KT.step rfl rfl (K.pick rfl (fun _ => rfl) (fun h => by cases h)) ?_
  refine KT.nil ?_
  refine thenK_n ?_
  refine KC.cond rfl (fun hc22 => ?_) (fun hc22 => ?_)
  · skip
    refine KC.seq ?_
    refine KC.region ?_
    refine KT.step rfl rfl (K.assign rfl) ?_
    refine KT.step rfl rfl (K.assign rfl) ?_
    refine KT.nil ?_
    refine thenK_n ?_
    refine KC.ret ?_
    refine thenK_r ?_
    exact ⟨.inl rfl, _, rfl, rfl⟩
  · cases hc22
set_option maxRecDepth 10000 in
theorem levels_ok {d : DV} {l : List Sm} {gap : Int} (hd : StD d l) (hl : l.length ≤ 9223372036854775807)  (hok : okH l gap = true)  : DeepCall Try.prog 16 [d, DI gap] (.tup [.sl (ints (lvls gap l)) (lvls gap l).length none, DI 0]) := by
  refine deepCall_K 5 Try.func16 rfl (Nat.le_of_ble_eq_true rfl) fun M W0 => ?_
  refine KC.seq ?_
  refine KC.region ?_
  refine KT.step rfl rfl (K.assign rfl) ?_
  refine KT.step rfl rfl (K.assign rfl) ?_
  refine KT.nil ?_
  refine thenK_n ?_
  refine KC.seq ?_
  refine KC.region ?_
  refine KT.step rfl rfl (K.move rfl) ?_
  refine KT.step rfl rfl (K.move rfl) ?_
  refine KT.step rfl rfl (K.call2 rfl rfl plainTry_45 (read_ok hd hl hok)) ?_
  refine KT.step rfl rfl (K.move rfl) ?_
  refine KT.step rfl rfl (K.extract rfl rfl) ?_
  refine KT.step rfl rfl (K.extract rfl rfl) ?_
  refine KT.step rfl rfl (K.alloc Try.zero75) ?_
  refine KT.putAll (cs := [.d (.sl (l.flatMap (c5 gap)) l.length none), .d (.sl (ints (lvls gap l)) (lvls gap l).length none)]) rfl rfl rfl rfl rfl rfl rfl rfl Try.size75 ?_
  refine KT.step rfl rfl (K.assign rfl) ?_
  refine KT.nil ?_
  refine thenK_n ?_
  refine KC.seq ?_
  refine KC.seq ?_
  refine KC.region ?_
  refine KT.step rfl rfl (K.move rfl) ?_
  refine KT.step rfl rfl (K.not rfl) ?_
  refine KT.nil ?_
  refine thenK_n ?_
  refine KC.cond rfl (fun hc15 => ?_) (fun hc15 => ?_)
  · skip
    exact absurd hc15 (by decide)
  · skip
    refine KC.skip ?_
    refine thenK_n ?_
    refine KC.seq ?_
    refine KC.region ?_
    refine KT.step rfl rfl (K.fieldAddrO rfl Try.fld75_1 Try.size23) ?_
    refine KT.step rfl rfl (K.loadO rfl rfl (by simp) rfl Try.agg23) ?_
    refine KT.step rfl rfl (K.assign rfl) ?_
    refine KT.step rfl rfl (K.assign rfl) ?_
    refine KT.nil ?_
    refine thenK_n ?_
    refine KC.ret ?_
    exact ⟨.inl rfl, _, rfl, rfl⟩
set_option maxRecDepth 10000 in
theorem pinchesP_ok {d : DV} {l : List Sm} {gap : Int} (hd : StD d l) (hl : l.length ≤ 9223372036854775807)  (hok : okH l gap = true)  : DeepCall Try.prog 26 [d, DI gap] (.tup [intsV (pins (lvls gap l) (casc gap l (hotU gap l))), DI 0]) := by
  refine deepCall_K 5 Try.func26 rfl (Nat.le_of_ble_eq_true rfl) fun M W0 => ?_
  refine KC.seq ?_
  refine KC.region ?_
  refine KT.step rfl rfl (K.assign rfl) ?_
  refine KT.step rfl rfl (K.assign rfl) ?_
  refine KT.nil ?_
  refine thenK_n ?_
  refine KC.seq ?_
  refine KC.region ?_
  refine KT.step rfl rfl (K.move rfl) ?_
  refine KT.step rfl rfl (K.move rfl) ?_
  refine KT.step rfl rfl (K.call2 rfl rfl plainTry_45 (read_ok hd hl hok)) ?_
  refine KT.step rfl rfl (K.move rfl) ?_
  refine KT.step rfl rfl (K.extract rfl rfl) ?_
  refine KT.step rfl rfl (K.extract rfl rfl) ?_
  refine KT.step rfl rfl (K.alloc Try.zero75) ?_
  refine KT.putAll (cs := [.d (.sl (l.flatMap (c5 gap)) l.length none), .d (.sl (ints (lvls gap l)) (lvls gap l).length none)]) rfl rfl rfl rfl rfl rfl rfl rfl Try.size75 ?_
  refine KT.step rfl rfl (K.assign rfl) ?_
  refine KT.nil ?_
  refine thenK_n ?_
  refine KC.seq ?_
  refine KC.seq ?_
  refine KC.region ?_
  refine KT.step rfl rfl (K.move rfl) ?_
  refine KT.step rfl rfl (K.not rfl) ?_
  refine KT.nil ?_
  refine thenK_n ?_
  refine KC.cond rfl (fun hc15 => ?_) (fun hc15 => ?_)
  · skip
    exact absurd hc15 (by decide)
  · skip
    refine KC.skip ?_
    refine thenK_n ?_
    refine KC.seq ?_
    refine KC.region ?_
    refine KT.step rfl rfl (K.loadOA [.sl (l.flatMap (c5 gap)) l.length none, .sl (ints (lvls gap l)) (lvls gap l).length none] rfl rfl (by decide) Try.agg75 Try.size75 rfl) ?_
    refine KT.step rfl rfl (K.call1 rfl plainTry_52 (pinches52 hok)) ?_
    refine KT.step rfl rfl (K.assign rfl) ?_
    refine KT.step rfl rfl (K.assign rfl) ?_
    refine KT.nil ?_
    refine thenK_n ?_
    refine KC.ret ?_
    exact ⟨.inl rfl, _, rfl, rfl⟩
set_option maxRecDepth 10000 in
theorem utilities_ok {d : DV} {l : List Sm} {gap : Int} (hd : StD d l) (hl : l.length ≤ 9223372036854775807)  (hok : okH l gap = true)  : DeepCall Try.prog 25 [d, DI gap] (.tup [DI (hotU gap l), DI (coldU gap l), DI 0]) := by
  have hb := hotU_bd hok
  have hcl := casc_lvls hok (hotU gap l)
  have n2 := lvls_two hok
  have nl := lvls_length gap l
  have n8 := (okH_iff.1 hok).2.1
  refine deepCall_K 5 Try.func25 rfl (Nat.le_of_ble_eq_true rfl) fun M W0 => ?_
  refine KC.seq ?_
  refine KC.region ?_
  refine KT.step rfl rfl (K.assign rfl) ?_
  refine KT.step rfl rfl (K.assign rfl) ?_
  refine KT.step rfl rfl (K.assign rfl) ?_
  refine KT.nil ?_
  refine thenK_n ?_
  refine KC.seq ?_
  refine KC.region ?_
  refine KT.step rfl rfl (K.move rfl) ?_
  refine KT.step rfl rfl (K.move rfl) ?_
  refine KT.step rfl rfl (K.call2 rfl rfl plainTry_45 (read_ok hd hl hok)) ?_
  refine KT.step rfl rfl (K.move rfl) ?_
  refine KT.step rfl rfl (K.extract rfl rfl) ?_
  refine KT.step rfl rfl (K.extract rfl rfl) ?_
  refine KT.step rfl rfl (K.alloc Try.zero75) ?_
  refine KT.putAll (cs := [.d (.sl (l.flatMap (c5 gap)) l.length none), .d (.sl (ints (lvls gap l)) (lvls gap l).length none)]) rfl rfl rfl rfl rfl rfl rfl rfl Try.size75 ?_
  refine KT.step rfl rfl (K.assign rfl) ?_
  refine KT.nil ?_
  refine thenK_n ?_
  refine KC.seq ?_
  refine KC.seq ?_
  refine KC.region ?_
  refine KT.step rfl rfl (K.move rfl) ?_
  refine KT.step rfl rfl (K.not rfl) ?_
  refine KT.nil ?_
  refine thenK_n ?_
  refine KC.cond rfl (fun hc17 => ?_) (fun hc17 => ?_)
  · skip
    exact absurd hc17 (by decide)
  · skip
    refine KC.skip ?_
    refine thenK_n ?_
    refine KC.seq ?_
    refine KC.draw Try.mixed ?_
    refine KT.step rfl rfl (K.loadOA [.sl (l.flatMap (c5 gap)) l.length none, .sl (ints (lvls gap l)) (lvls gap l).length none] rfl rfl (by decide) Try.agg75 Try.size75 rfl) ?_
    refine KT.step rfl rfl (K.loadOA [.sl (l.flatMap (c5 gap)) l.length none, .sl (ints (lvls gap l)) (lvls gap l).length none] rfl rfl (by decide) Try.agg75 Try.size75 rfl) ?_
    refine KT.step rfl rfl (K.call1 rfl plainTry_51 (hotUtility51 hok)) ?_
    refine KT.step rfl rfl (K.call2 rfl rfl plainTry_47 (cascade47 hok hb.1 (by omega))) ?_
    refine KT.step rfl rfl (K.assign rfl) ?_
    refine KT.nil ?_
    refine ⟨by kernel_rfl, ?_⟩
    refine thenK_n ?_
    refine KC.seq ?_
    refine KC.draw Try.mixed ?_
    refine KT.step rfl rfl (K.move rfl) ?_
    refine KT.idxI (m := 0) rfl rfl rfl ints_ok rfl (by omega) Try.underlying23 Try.size3 fun cs23 => ?_
    refine KT.step rfl rfl (K.load rfl Try.agg3) ?_
    refine KT.step rfl rfl (K.move rfl) ?_
    refine KT.step rfl rfl (K.move rfl) ?_
    refine KT.step rfl rfl (K.len rfl ints_ok Try.underlying23) ?_
    refine KT.step rfl rfl (K.sub rfl rfl (wrap_id (by omega))) ?_
    have hix : ((casc gap l (hotU gap l)).length : Int) - 1 = (((casc gap l (hotU gap l)).length - 1 : Nat) : Int) := by omega
    rw [hix]
    refine KT.idxI (m := (casc gap l (hotU gap l)).length - 1) rfl rfl rfl ints_ok rfl (by omega) Try.underlying23 Try.size3 fun cs29 => ?_
    refine KT.step rfl rfl (K.load rfl Try.agg3) ?_
    refine KT.step rfl rfl (K.assign rfl) ?_
    refine KT.step rfl rfl (K.assign rfl) ?_
    refine KT.step rfl rfl (K.assign rfl) ?_
    refine KT.nil ?_
    refine ⟨by kernel_rfl, ?_⟩
    refine thenK_n ?_
    refine KC.ret ?_
    have e1 : (casc gap l (hotU gap l))[0]'(by omega) = hotU gap l := by rw [casc_get, cat_zero]
    have e2 : (casc gap l (hotU gap l))[(casc gap l (hotU gap l)).length - 1]'(by omega) = coldU gap l := by rw [casc_get]; unfold coldU; congr 1; rw [casc_length]; omega
    refine ⟨.inl rfl, _, rfl, ?_⟩
    show some (DV.tup [DI _, DI _, DI 0]) = _
    rw [e1, e2]
set_option maxRecDepth 10000 in
theorem cascadeP_ok {d : DV} {l : List Sm} {gap : Int} (hd : StD d l) (hl : l.length ≤ 9223372036854775807) {h : Int} (hok : okH l gap = true) (hh : 0 ≤ h ∧ h ≤ 1000000) : DeepCall Try.prog 18 [d, DI gap, DI h] (.tup [cascV gap l h, DI 0]) := by
  refine deepCall_K 5 Try.func18 rfl (Nat.le_of_ble_eq_true rfl) fun M W0 => ?_
  refine KC.seq ?_
  refine KC.region ?_
  refine KT.step rfl rfl (K.assign rfl) ?_
  refine KT.step rfl rfl (K.assign rfl) ?_
  refine KT.nil ?_
  refine thenK_n ?_
  refine KC.seq ?_
  refine KC.region ?_
  refine KT.step rfl rfl (K.move rfl) ?_
  refine KT.step rfl rfl (K.move rfl) ?_
  refine KT.step rfl rfl (K.call2 rfl rfl plainTry_45 (read_ok hd hl hok)) ?_
  refine KT.step rfl rfl (K.move rfl) ?_
  refine KT.step rfl rfl (K.extract rfl rfl) ?_
  refine KT.step rfl rfl (K.extract rfl rfl) ?_
  refine KT.step rfl rfl (K.alloc Try.zero75) ?_
  refine KT.putAll (cs := [.d (.sl (l.flatMap (c5 gap)) l.length none), .d (.sl (ints (lvls gap l)) (lvls gap l).length none)]) rfl rfl rfl rfl rfl rfl rfl rfl Try.size75 ?_
  refine KT.step rfl rfl (K.assign rfl) ?_
  refine KT.nil ?_
  refine thenK_n ?_
  refine KC.seq ?_
  refine KC.seq ?_
  refine KC.region ?_
  refine KT.step rfl rfl (K.move rfl) ?_
  refine KT.step rfl rfl (K.not rfl) ?_
  refine KT.step rfl rfl (K.move rfl) ?_
  refine KT.step rfl rfl (K.move rfl) ?_
  refine KT.step rfl rfl (K.call3 rfl rfl rfl plainTry_46 (in46 _ _ _)) ?_
  refine KT.step rfl rfl (K.not rfl) ?_
  refine KT.step rfl rfl (K.pick rfl (fun h => by cases h) (fun _ => rfl)) ?_
  refine KT.nil ?_
  refine thenK_n ?_
  refine KC.cond rfl (fun hc22 => ?_) (fun hc22 => ?_)
  · skip
    exact absurd hc22 (by simp; omega)
  · skip
    refine KC.skip ?_
    refine thenK_n ?_
    refine KC.seq ?_
    refine KC.region ?_
    refine KT.step rfl rfl (K.loadOA [.sl (l.flatMap (c5 gap)) l.length none, .sl (ints (lvls gap l)) (lvls gap l).length none] rfl rfl (by decide) Try.agg75 Try.size75 rfl) ?_
    refine KT.step rfl rfl (K.move rfl) ?_
    refine KT.step rfl rfl (K.call2 rfl rfl plainTry_47 (cascade47 hok hh.1 (by omega))) ?_
    refine KT.step rfl rfl (K.assign rfl) ?_
    refine KT.step rfl rfl (K.assign rfl) ?_
    refine KT.nil ?_
    refine thenK_n ?_
    refine KC.ret ?_
    exact ⟨.inl rfl, _, rfl, rfl⟩
set_option maxRecDepth 10000 in
theorem cascadeP_far {d : DV} {l : List Sm} {gap : Int} (hd : StD d l) (hl : l.length ≤ 9223372036854775807) {h : Int} (hok : okH l gap = true) (hh : ¬ (0 ≤ h ∧ h ≤ 1000000)) : DeepCall Try.prog 18 [d, DI gap, DI h] (.tup [Dnil, DI 2]) := by
  refine deepCall_K 5 Try.func18 rfl (Nat.le_of_ble_eq_true rfl) fun M W0 => ?_
  refine KC.seq ?_
  refine KC.region ?_
  refine KT.step rfl rfl (K.assign rfl) ?_
  refine KT.step rfl rfl (K.assign rfl) ?_
  refine KT.nil ?_
  refine thenK_n ?_
  refine KC.seq ?_
  refine KC.region ?_
  refine KT.step rfl rfl (K.move rfl) ?_
  refine KT.step rfl rfl (K.move rfl) ?_
  refine KT.step rfl rfl (K.call2 rfl rfl plainTry_45 (read_ok hd hl hok)) ?_
  refine KT.step rfl rfl (K.move rfl) ?_
  refine KT.step rfl rfl (K.extract rfl rfl) ?_
  refine KT.step rfl rfl (K.extract rfl rfl) ?_
  refine KT.step rfl rfl (K.alloc Try.zero75) ?_
  refine KT.putAll (cs := [.d (.sl (l.flatMap (c5 gap)) l.length none), .d (.sl (ints (lvls gap l)) (lvls gap l).length none)]) rfl rfl rfl rfl rfl rfl rfl rfl Try.size75 ?_
  refine KT.step rfl rfl (K.assign rfl) ?_
  refine KT.nil ?_
  refine thenK_n ?_
  refine KC.seq ?_
  refine KC.seq ?_
  refine KC.region ?_
  refine KT.step rfl rfl (K.move rfl) ?_
  refine KT.step rfl rfl (K.not rfl) ?_
  refine KT.step rfl rfl (K.move rfl) ?_
  refine KT.step rfl rfl (K.move rfl) ?_
  refine KT.step rfl rfl (K.call3 rfl rfl rfl plainTry_46 (in46 _ _ _)) ?_
  refine KT.step rfl rfl (K.not rfl) ?_
  refine KT.step rfl rfl (K.pick rfl (fun h => by cases h) (fun _ => rfl)) ?_
  refine KT.nil ?_
  refine thenK_n ?_
  refine KC.cond rfl (fun hc22 => ?_) (fun hc22 => ?_)
  · skip
    refine KC.seq ?_
    refine KC.region ?_
    refine KT.step rfl rfl (K.assign rfl) ?_
    refine KT.step rfl rfl (K.assign rfl) ?_
    refine KT.nil ?_
    refine thenK_n ?_
    refine KC.ret ?_
    refine thenK_r ?_
    exact ⟨.inl rfl, _, rfl, rfl⟩
  · skip
    exact absurd hc22 (by simp; omega)
set_option maxRecDepth 10000 in
theorem bound_ok {d : DV} {l : List Sm} {gap : Int} (hd : StD d l) (hl : l.length ≤ 9223372036854775807) {t : Int} (hok : okH l gap = true) (ht : -20 ≤ t ∧ t ≤ 200) : DeepCall Try.prog 29 [d, DI gap, DI t] (.tup [DI (bnd gap l t), DI 0]) := by
  have hsb := surp_bd (gap := gap) (okH_iff.1 hok).2.2.2.2 (okH_iff.1 hok).2.1 200 t
  refine deepCall_K 5 Try.func29 rfl (Nat.le_of_ble_eq_true rfl) fun M W0 => ?_
  refine KC.seq ?_
  refine KC.region ?_
  refine KT.step rfl rfl (K.assign rfl) ?_
  refine KT.step rfl rfl (K.assign rfl) ?_
  refine KT.nil ?_
  refine thenK_n ?_
  refine KC.seq ?_
  refine KC.region ?_
  refine KT.step rfl rfl (K.move rfl) ?_
  refine KT.step rfl rfl (K.move rfl) ?_
  refine KT.step rfl rfl (K.call2 rfl rfl plainTry_45 (read_ok hd hl hok)) ?_
  refine KT.step rfl rfl (K.move rfl) ?_
  refine KT.step rfl rfl (K.extract rfl rfl) ?_
  refine KT.step rfl rfl (K.extract rfl rfl) ?_
  refine KT.step rfl rfl (K.alloc Try.zero75) ?_
  refine KT.putAll (cs := [.d (.sl (l.flatMap (c5 gap)) l.length none), .d (.sl (ints (lvls gap l)) (lvls gap l).length none)]) rfl rfl rfl rfl rfl rfl rfl rfl Try.size75 ?_
  refine KT.step rfl rfl (K.assign rfl) ?_
  refine KT.nil ?_
  refine thenK_n ?_
  refine KC.seq ?_
  refine KC.seq ?_
  refine KC.region ?_
  refine KT.step rfl rfl (K.move rfl) ?_
  refine KT.step rfl rfl (K.not rfl) ?_
  refine KT.step rfl rfl (K.move rfl) ?_
  refine KT.step rfl rfl (K.move rfl) ?_
  refine KT.step rfl rfl (K.call3 rfl rfl rfl plainTry_46 (in46 _ _ _)) ?_
  refine KT.step rfl rfl (K.not rfl) ?_
  refine KT.step rfl rfl (K.pick rfl (fun h => by cases h) (fun _ => rfl)) ?_
  refine KT.nil ?_
  refine thenK_n ?_
  refine KC.cond rfl (fun hc22 => ?_) (fun hc22 => ?_)
  · skip
    exact absurd hc22 (by simp; omega)
  · skip
    refine KC.skip ?_
    refine thenK_n ?_
    refine KC.seq ?_
    refine KC.region ?_
    refine KT.step rfl rfl (K.loadOA [.sl (l.flatMap (c5 gap)) l.length none, .sl (ints (lvls gap l)) (lvls gap l).length none] rfl rfl (by decide) Try.agg75 Try.size75 rfl) ?_
    refine KT.step rfl rfl (K.move rfl) ?_
    refine KT.step rfl rfl (K.call3 rfl rfl rfl plainTry_53 (surplus53 (.sl _ _ _) hok ⟨by decide, by decide⟩ ⟨by omega, by omega⟩)) ?_
    refine KT.step rfl rfl (K.unI rfl (wrap_id (by omega))) ?_
    refine KT.step rfl rfl (K.max2 rfl rfl) ?_
    refine KT.step rfl rfl (K.assign rfl) ?_
    refine KT.step rfl rfl (K.assign rfl) ?_
    refine KT.nil ?_
    refine thenK_n ?_
    refine KC.ret ?_
    have e : max 0 (0 - surp gap l 200 t) = bnd gap l t := by unfold bnd; omega
    refine ⟨.inl rfl, _, rfl, ?_⟩
    show some (DV.tup [DI _, DI 0]) = _
    rw [e]
set_option maxRecDepth 10000 in
theorem bound_far {d : DV} {l : List Sm} {gap : Int} (hd : StD d l) (hl : l.length ≤ 9223372036854775807) {t : Int} (hok : okH l gap = true) (ht : ¬ (-20 ≤ t ∧ t ≤ 200)) : DeepCall Try.prog 29 [d, DI gap, DI t] (.tup [DI 0, DI 2]) := by
  refine deepCall_K 5 Try.func29 rfl (Nat.le_of_ble_eq_true rfl) fun M W0 => ?_
  refine KC.seq ?_
  refine KC.region ?_
  refine KT.step rfl rfl (K.assign rfl) ?_
  refine KT.step rfl rfl (K.assign rfl) ?_
  refine KT.nil ?_
  refine thenK_n ?_
  refine KC.seq ?_
  refine KC.region ?_
  refine KT.step rfl rfl (K.move rfl) ?_
  refine KT.step rfl rfl (K.move rfl) ?_
  refine KT.step rfl rfl (K.call2 rfl rfl plainTry_45 (read_ok hd hl hok)) ?_
  refine KT.step rfl rfl (K.move rfl) ?_
  refine KT.step rfl rfl (K.extract rfl rfl) ?_
  refine KT.step rfl rfl (K.extract rfl rfl) ?_
  refine KT.step rfl rfl (K.alloc Try.zero75) ?_
  refine KT.putAll (cs := [.d (.sl (l.flatMap (c5 gap)) l.length none), .d (.sl (ints (lvls gap l)) (lvls gap l).length none)]) rfl rfl rfl rfl rfl rfl rfl rfl Try.size75 ?_
  refine KT.step rfl rfl (K.assign rfl) ?_
  refine KT.nil ?_
  refine thenK_n ?_
  refine KC.seq ?_
  refine KC.seq ?_
  refine KC.region ?_
  refine KT.step rfl rfl (K.move rfl) ?_
  refine KT.step rfl rfl (K.not rfl) ?_
  refine KT.step rfl rfl (K.move rfl) ?_
  refine KT.step rfl rfl (K.move rfl) ?_
  refine KT.step rfl rfl (K.call3 rfl rfl rfl plainTry_46 (in46 _ _ _)) ?_
  refine KT.step rfl rfl (K.not rfl) ?_
  refine KT.step rfl rfl (K.pick rfl (fun h => by cases h) (fun _ => rfl)) ?_
  refine KT.nil ?_
  refine thenK_n ?_
  refine KC.cond rfl (fun hc22 => ?_) (fun hc22 => ?_)
  · skip
    refine KC.seq ?_
    refine KC.region ?_
    refine KT.step rfl rfl (K.assign rfl) ?_
    refine KT.step rfl rfl (K.assign rfl) ?_
    refine KT.nil ?_
    refine thenK_n ?_
    refine KC.ret ?_
    refine thenK_r ?_
    exact ⟨.inl rfl, _, rfl, rfl⟩
  · skip
    exact absurd hc22 (by simp; omega)
end Go.Proofs.Ytmfbakipfobaeaa

