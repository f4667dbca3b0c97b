import Derived.Test.YtmfbakipfobaeaaHtC
import Derived.Test.YtmfbakipfobaeaaVmSo
import Derived.Test.YtmfbakipfobaeaaVmTb
/-
  Heat: neighbouring levels, the cascade.
-/
namespace Go.Proofs.Ytmfbakipfobaeaa
open Go.Vm Go.Ht
theorem plainTry_66 : plainFn Try.prog 66 = true := by kernel_rfl
theorem plainTry_79 : plainFn Try.prog 79 = true := by kernel_rfl
theorem plainTry_47 : plainFn Try.prog 47 = true := by kernel_rfl
theorem plainTry_51 : plainFn Try.prog 51 = true := by kernel_rfl
set_option maxRecDepth 10000 in
theorem pairs66 {a b : DV} (_ : SlD a) (_ : SlD b) : DeepCall Try.prog 66 [.agg [a, b]] (.fn (.func 79) [] [.ptr [a, b]]) := by
  refine deepCall_K 5 Try.func66 rfl (Nat.le_of_ble_eq_true rfl) fun M W0 => ?_
  refine KC.seq ?_
  refine KC.region ?_
  refine KT.step rfl rfl (K.box rfl) ?_
  refine KT.step rfl rfl (K.assign rfl) ?_
  refine KT.nil ?_
  refine thenK_n ?_
  refine KC.seq ?_
  refine KC.region ?_
  refine KT.step rfl rfl (K.makeF (xs := [.optr 0 0]) (m := 0) rfl rfl rfl rfl) ?_
  refine KT.step rfl rfl (K.assign rfl) ?_
  refine KT.nil ?_
  refine thenK_n ?_
  refine KC.ret ?_
  exact ⟨.inl rfl, _, rfl, rfl⟩
set_option maxRecDepth 10000 in
theorem pairsIter {a : DV} {ls : List Int} {cl : Option Nat} (h1 : 1 ≤ ls.length) (hl : ls.length ≤ 1000) : IterR Try.prog 79 [] [.d (.ptr [a, .sl (ints ls) ls.length cl])] ((prs ls).map fun p => [XV.d (DI p.1), XV.d (DI p.2)]) := by
  intro M W0 id I J σ0 hid hlen hround hI0
  have hpl := prs_length ls
  refine inCall_K Try.func79 rfl (Nat.le_of_ble_eq_true rfl) ?_
  refine KC.seq ?_
  refine KC.region ?_
  refine KT.step rfl rfl (K.fieldAddrD rfl Try.fld75_1 Try.size23) ?_
  refine KT.step rfl rfl (K.load (cs := []) rfl Try.agg23) ?_
  refine KT.step rfl rfl (K.tailI rfl h1 Try.underlying23 Try.size3) ?_
  refine KT.step rfl rfl (K.len rfl ints_ok Try.underlying23) ?_
  refine KT.step rfl rfl (K.move rfl) ?_
  refine KT.nil ?_
  refine thenK_n ?_
  refine KC.block ?_
  have hpx : ((prs ls).map fun p => [XV.d (DI p.1), XV.d (DI p.2)]).length = ls.length - 1 := by rw [List.length_map, hpl]
  refine KC.loop (fun p : List VObj × Nat => p.1) (fun p => [(0, .yl id), (1, .d (.ptr [a, .sl (ints ls) ls.length cl])), (7, .d (.sl (ints ls.tail) ls.tail.length (cl.map (· - 1)))), (8, .d (DI (ls.tail.length : Nat))), (9, .d (DI (p.2 : Nat)))]) (fun p => p.2 ≤ ls.length - 1 ∧ I p.2 p.1) (fun p => ls.length - p.2) (σ0, 0) ⟨Nat.zero_le _, hI0⟩ rfl (by simp [Go.Vm.look, extK, enterK]) ?_
  intro p hp
  refine KC.seq ?_
  refine KC.region ?_
  refine KT.step rfl rfl (K.lss rfl rfl) ?_
  refine KT.nil ?_
  refine thenK_n ?_
  refine KC.seq ?_
  refine KC.cond rfl (fun hc10 => ?_) (fun hc10 => ?_)
  · skip
    replace hc10 := of_decide_eq_true hc10
    rw [List.length_tail] at hc10
    refine KC.skip ?_
    refine thenK_n ?_
    refine KC.seq ?_
    refine KC.block ?_
    refine KC.seq ?_
    refine KC.region ?_
    refine KT.step rfl rfl (K.move rfl) ?_
    refine KT.idxI (m := p.2) rfl rfl rfl ints_ok rfl (by rw [List.length_tail]; omega) Try.underlying23 Try.size3 fun cs12 => ?_
    refine KT.step rfl rfl (K.load rfl Try.agg3) ?_
    refine KT.step rfl rfl (K.assign rfl) ?_
    refine KT.step rfl rfl (K.assign rfl) ?_
    refine KT.nil ?_
    refine thenK_n ?_
    refine KC.seq ?_
    refine KC.regionL ?_
    refine KL.step rfl rfl (K.move rfl) ?_
    refine KL.step rfl rfl (K.fieldAddrD rfl Try.fld75_1 Try.size23) ?_
    refine KL.step rfl rfl (K.load (cs := []) rfl Try.agg23) ?_
    refine KL.step rfl rfl (K.move rfl) ?_
    refine KL.step rfl rfl (K.idxV (m := p.2) rfl ints_ok rfl (by omega) Try.underlying23 Try.size3) ?_
    refine KL.step rfl rfl (K.load rfl Try.agg3) ?_
    rw [show getV (.sl (ints ls) ls.length cl) p.2 = DI (ls[p.2]'(by omega)) from getV_vec ints_ok (by omega)]
    refine KL.step rfl rfl (K.move rfl) ?_
    have hr := hround p.2 p.1 (by rw [List.length_map]; omega) hp.2
    rw [show (((prs ls).map fun p => [XV.d (DI p.1), XV.d (DI p.2)]))[p.2]'(by rw [List.length_map]; omega) = [XV.d (DI (ls[p.2]'(by omega))), XV.d (DI (ls.tail[p.2]'(by rw [List.length_tail]; omega)))] by rw [List.getElem_map, prs_get (by omega)]; simp] at hr
    refine KL.yld rfl rfl rfl (hlen _ _ hp.2) rfl (hr) fun σ1 b1 hq1 => ?_
    refine KL.step rfl rfl (K.not rfl) ?_
    refine KL.nil ?_
    refine thenK_n ?_
    refine KC.cond rfl (fun hc22 => ?_) (fun hc22 => ?_)
    · skip
      refine KC.ret ?_
      refine blockK_r ?_
      refine thenK_r ?_
      refine thenK_r ?_
      refine blockK_r ?_
      rcases hq1 with ⟨hb, _⟩ | ⟨_, h⟩
      · rw [hb] at hc22; cases hc22
      · exact ⟨.inl rfl, _, rfl, .inr h⟩
    · skip
      refine KC.skip ?_
      refine blockK_n ?_
      refine thenK_n ?_
      refine KC.region ?_
      refine KT.step rfl rfl (K.add rfl rfl (wrap_id (by omega))) ?_
      refine KT.step rfl rfl (K.move rfl) ?_
      refine KT.nil ?_
      refine thenK_n ?_
      refine ⟨(σ1, p.2 + 1), ⟨by simp only; omega, ?_⟩, by simp only; omega, rfl, by simp [Go.Vm.look, extK]⟩
      rcases hq1 with ⟨_, h⟩ | ⟨hb, _⟩
      · exact h
      · rw [hb] at hc22; cases hc22
  · skip
    replace hc10 := of_decide_eq_false hc10
    refine KC.exit ?_
    refine thenK_x ?_
    refine thenK_x ?_
    refine blockK_e ?_
    refine ⟨.inr rfl, _, rfl, .inl ?_⟩
    rw [hpx]
    have e : p.2 = ls.length - 1 := by rw [List.length_tail] at hc10; omega
    rw [← e]; exact hp.2
theorem own_deep {σ : List VObj} {x : XV} {zs : List Int} {k : Nat} (h : OwnK 1 σ x (xs zs)) (hne : zs ≠ []) : deepen (freezeAll σ) (k + 2) x = some (.sl (ints zs) zs.length none) := by
  obtain ⟨id, rfl, hs⟩ := own_xs h hne
  have f2 : (freezeAll σ)[id]? = some ⟨xs zs, 1⟩ := by simp [freezeAll, hs]
  rw [deepen_osl f2 rfl (by rw [xs_len]; omega), List.drop_zero, Nat.mul_one, List.take_of_length_le (by rw [xs_len]; exact Nat.le_refl _), xs_ints, mapM_deep]; rfl
theorem cat_zero {f : Int → Int → Int} {h : Int} {ps : List (Int × Int)} : cat f h ps 0 = h := by simp [cat]
theorem cscan_ne {f : Int → Int → Int} {h : Int} {ps : List (Int × Int)} : cscan f h ps ≠ [] := by cases ps <;> simp [cscan]
/-- The value of a cascade. -/
def cascV (gap : Int) (l : List Sm) (h : Int) : DV := .sl (ints (casc gap l h)) (casc gap l h).length none
set_option maxRecDepth 10000 in
theorem cascade47 {l : List Sm} {gap h : Int} {cs cl : Option Nat} (hok : okH l gap = true) (h0 : 0 ≤ h) (h1 : h ≤ 2000000) : DeepCall Try.prog 47 [.agg [.sl (l.flatMap (c5 gap)) l.length cs, .sl (ints (lvls gap l)) (lvls gap l).length cl], DI h] (cascV gap l h) := by
  have n2 := lvls_two hok
  have n8 := (okH_iff.1 hok).2.1
  have nl := lvls_length gap l
  have hpl := prs_length (lvls gap l)
  refine deepCall_K 5 Try.func47 rfl (Nat.le_of_ble_eq_true rfl) fun M W0 => ?_
  refine KC.seq ?_
  refine KC.region ?_
  refine KT.step rfl rfl (K.box rfl) ?_
  refine KT.step rfl rfl (K.box rfl) ?_
  refine KT.step rfl rfl (K.assign rfl) ?_
  refine KT.nil ?_
  refine thenK_n ?_
  refine KC.seq ?_
  refine KC.region ?_
  refine KT.step rfl rfl (K.loadO rfl rfl (by simp) rfl Try.agg3) ?_
  refine KT.step rfl rfl (K.build1' rfl rfl Try.underlying23 Try.one3) ?_
  refine KT.step rfl rfl (K.alloc Try.one23.zero) ?_
  refine KT.step rfl rfl (K.storeN rfl rfl rfl (Nat.le_refl 1) rfl Try.size23) ?_
  refine KT.nil ?_
  refine thenK_n ?_
  refine KC.seq ?_
  refine KC.seq ?_
  refine KC.region ?_
  refine KT.step rfl rfl (K.loadOA [.sl (l.flatMap (c5 gap)) l.length cs, .sl (ints (lvls gap l)) (lvls gap l).length cl] rfl rfl (by decide) Try.agg75 Try.size75 rfl) ?_
  refine KT.step rfl rfl (K.call1 rfl plainTry_66 (pairs66 (.sl _ _ _) (.sl _ _ _))) ?_
  refine KT.nil ?_
  refine thenK_n ?_
  refine KC.block ?_
  refine KC.rangeR rfl rfl plainTry_79 (pairsIter (by omega) (by omega)) (by intro x hx; obtain ⟨p, _, rfl⟩ := List.mem_map.1 hx; rfl) (by decide) (fun k => [(2, .optr 0 0), (3, .optr 1 0), (5, .optr 3 0), (12, .d (DI ((prs (lvls gap l)).getD k (0, 0)).1)), (13, .d (DI ((prs (lvls gap l)).getD k (0, 0)).2))]) (fun k τ => τ[0]? = some ⟨[.d (.sl (l.flatMap (c5 gap)) l.length cs), .d (.sl (ints (lvls gap l)) (lvls gap l).length cl)], 0⟩ ∧ τ[1]? = some ⟨[.d (DI (cat (surp gap l) h (prs (lvls gap l)) k))], 0⟩ ∧ ∃ x, τ[3]? = some ⟨[x], 0⟩ ∧ OwnL 1 τ x (xs (cscan (surp gap l) h ((prs (lvls gap l)).take k))) ∧ (1 ≤ k → OwnK 1 τ x (xs (cscan (surp gap l) h ((prs (lvls gap l)).take k)))) ∧ (∀ j, idX x = some j → j = 2 ∨ 5 ≤ j)) (fun _ => False) (by
    intro k hk p hp
    have hk' : k < (prs (lvls gap l)).length := by simpa using hk
    rw [List.getElem_map]
    have e1 : ((prs (lvls gap l)).getD k (0, 0)) = (prs (lvls gap l))[k] := by simp [hk']
    simp only [e1] at hp
    simp only [List.mem_cons, List.not_mem_nil, or_false] at hp
    rcases hp with rfl | rfl | rfl | rfl | rfl <;> exact ⟨Nat.le_of_ble_eq_true rfl, rfl⟩) (⟨rfl, by rw [cat_zero]; rfl, _, rfl, .lit rfl rfl, fun h => absurd h (by decide), fun j hj => by cases hj; exact .inl rfl⟩) (fun k hk lo σk hlo hl hI => ?_) (fun τ hI => ?_) (fun τ h => h.elim)
  · skip
    have hk' : k < (prs (lvls gap l)).length := by simpa using hk
    obtain ⟨y0, y1, x, y3, o, oK, dj⟩ := hI
    have e1 : ((prs (lvls gap l)).getD k (0, 0)) = (prs (lvls gap l))[k] := by simp [hk']
    have hlv := lvls_in hok
    have m1 := hlv _ (List.getElem_mem (show k < (lvls gap l).length by omega))
    have m2 := hlv _ (List.getElem_mem (show k + 1 < (lvls gap l).length by omega))
    have e2 : (prs (lvls gap l))[k] = ((lvls gap l)[k], (lvls gap l)[k + 1]) := prs_get (by omega)
    have m3 : ((prs (lvls gap l)).getD k (0, 0)).1 = (lvls gap l)[k] := by rw [e1, e2]
    have m4 : ((prs (lvls gap l)).getD k (0, 0)).2 = (lvls gap l)[k + 1] := by rw [e1, e2]
    refine KC.seq ?_
    refine KC.region ?_
    refine KT.step rfl rfl (K.assign rfl) ?_
    refine KT.nil ?_
    refine thenK_n ?_
    refine KC.region ?_
    refine KT.step rfl rfl (K.assign rfl) ?_
    refine KT.nil ?_
    refine ⟨rfl, rfl, fun lo2 hlo2 => ?_⟩
    have z0 := mask_get (j := 4) (b := lo2) (by decide) y0
    have z1 := mask_get (j := 4) (b := lo2) (by decide) y1
    have z3 := mask_get (j := 4) (b := lo2) (by decide) y3
    have z4 : (σk.set 4 lo2)[4]? = some lo2 := List.getElem?_set_self (lt_of_get hl)
    have o1 : OwnL 1 (σk.set 4 lo2) x (xs (cscan (surp gap l) h ((prs (lvls gap l)).take k))) := OwnL.mask (j := 4) o (fun j hj => by rcases dj j hj with e | e <;> omega)
    revert z0 z1 z3 z4 o1
    show _ → _ → _ → _ → _ → KC Try.prog M W0 _ _ (σk.set 4 lo2) _ _
    generalize σk.set 4 lo2 = σ1
    intro z0 z1 z3 z4 o1
    refine KC.block ?_
    refine KC.seq ?_
    refine KC.draw Try.mixed ?_
    refine KT.step rfl rfl (K.loadO rfl z1 (by simp) rfl Try.agg3) ?_
    refine KT.step rfl rfl (K.loadOA [.sl (l.flatMap (c5 gap)) l.length cs, .sl (ints (lvls gap l)) (lvls gap l).length cl] rfl z0 (by simp) Try.agg75 Try.size75 rfl) ?_
    refine KT.step rfl rfl (K.move rfl) ?_
    refine KT.step rfl rfl (K.move rfl) ?_
    refine KT.step rfl rfl (K.call3 rfl rfl rfl plainTry_53 (surplus53 (.sl _ _ _) hok ⟨by omega, by omega⟩ ⟨by omega, by omega⟩)) ?_
    have c1 := casc_bd hok h k
    have c2 := casc_bd hok h (k + 1)
    have cs' := cat_succ (f := surp gap l) (h := h) hk'
    have e1 : ((prs (lvls gap l)).getD k (0, 0)) = (prs (lvls gap l))[k] := by simp [hk']
    rw [e1]
    refine KT.step rfl rfl (K.add rfl rfl (wrap_id (by omega))) ?_
    refine KT.storeG rfl rfl rfl rfl z1 (by simp) rfl rfl Try.size3 fun σ2 l2 u2 v2 => ?_
    replace z0 := (v2 0 (by decide)).trans z0
    replace z3 := (v2 3 (by decide)).trans z3
    replace z4 := (v2 4 (by decide)).trans z4
    have o2 : OwnL 1 σ2 x (xs (cscan (surp gap l) h ((prs (lvls gap l)).take k))) := o1.keep fun j hj => v2 j (by rcases dj j hj with e | e <;> omega)
    refine KT.nil ?_
    refine ⟨by kernel_rfl, ?_⟩
    refine thenK_n ?_
    refine KC.region ?_
    refine KT.step rfl rfl (K.loadO rfl z3 (by simp) rfl Try.agg23) ?_
    refine KT.step rfl rfl (K.loadO rfl u2 (by simp) rfl Try.agg3) ?_
    refine KT.step rfl rfl (K.build1' rfl rfl Try.underlying23 Try.one3) ?_
    refine KT.appL (k := 1) (q := 1) rfl rfl rfl rfl (o2.pushed _) (List.getElem?_concat_length ..) rfl (by decide) (by decide) rfl (by rw [xs_len, cscan_length, List.length_take]; omega) Try.underlying23 Try.size3 (of_decide_eq_true (by kernel_rfl)) (by kernel_rfl) (by decide) fun σ3 x3 ho3 k3 w3 => ?_
    obtain ⟨j3, w4, w5⟩ := w3
    simp only [List.length_append, List.length_cons, List.length_nil] at w5
    have l4 := lt_of_get z4
    have hnx : ∀ j, j < 5 → j ≠ 2 → idX x ≠ some j := fun j h1 h2 h => by rcases dj j h with e | e <;> omega
    replace z0 := (k3 0 (hnx 0 (by decide) (by decide)) (by rw [List.length_append]; omega)).trans (get_left z0)
    have z1' := (k3 1 (hnx 1 (by decide) (by decide)) (by rw [List.length_append]; omega)).trans (get_left u2)
    replace z3 := (k3 3 (hnx 3 (by decide) (by decide)) (by rw [List.length_append]; omega)).trans (get_left z3)
    replace z4 := (k3 4 (hnx 4 (by decide) (by decide)) (by rw [List.length_append]; omega)).trans (get_left z4)
    refine KT.storeG rfl rfl rfl rfl z3 (by simp) ho3.cells.1 ho3.cells.2 Try.size23 fun σ4 l4' u4 v4 => ?_
    replace z0 := (v4 0 (by decide)).trans z0
    replace z1' := (v4 1 (by decide)).trans z1'
    replace z4 := (v4 4 (by decide)).trans z4
    refine KT.nil ?_
    refine blockK_n ?_
    have hcs := cscan_snoc (surp gap l) h (prs (lvls gap l)) hk'
    have hown : OwnK 1 (σ4.set 4 dead) x3 (xs (cscan (surp gap l) h ((prs (lvls gap l)).take (k + 1)))) := by
      rw [hcs, xs_app, cs']
      refine ho3.keep fun j hj => ?_
      rw [w4] at hj
      cases hj
      rw [List.getElem?_set_ne (by omega)]
      exact v4 _ (by omega)
    refine ⟨z4, .inl ⟨rfl, ?_, ?_, x3, ?_, .own hown, fun _ => hown, fun j hj => ?_⟩⟩
    · exact get_set (i := 4) (by decide) z0
    · rw [cs']; exact get_set (i := 4) (by decide) z1'
    · exact get_set (i := 4) (by decide) u4
    · rw [w4] at hj; cases hj; omega
  · skip
    rw [List.length_map] at hI
    obtain ⟨y0, y1, x, y3, o, oK, dj⟩ := hI
    have oK := oK (by omega)
    rw [List.take_of_length_le (Nat.le_refl _)] at oK
    refine blockK_n ?_
    refine thenK_n ?_
    refine KC.seq ?_
    refine KC.region ?_
    refine KT.step rfl rfl (K.loadO rfl y3 (by simp) rfl Try.agg23) ?_
    refine KT.step rfl rfl (K.assign rfl) ?_
    refine KT.nil ?_
    refine thenK_n ?_
    refine KC.ret ?_
    exact ⟨.inl rfl, _, rfl, own_deep oK cscan_ne⟩
end Go.Proofs.Ytmfbakipfobaeaa

