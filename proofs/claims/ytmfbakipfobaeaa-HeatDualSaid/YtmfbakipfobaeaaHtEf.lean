import Derived.Test.YtmfbakipfobaeaaHtEb
import Derived.Test.YtmfbakipfobaeaaHtGu
/-
  Heat: the plan that is made.
-/
namespace Go.Proofs.Ytmfbakipfobaeaa
open Go.Vm Go.Ht
theorem plainTry_54 : plainFn Try.prog 54 = true := by kernel_rfl
theorem plainTry_71 : plainFn Try.prog 71 = true := by kernel_rfl
theorem Try.agg111 : isAggT Try.prog 111 = some false := by kernel_rfl
theorem Try.size111 : sizeT Try.prog 111 = some 1 := by kernel_rfl
theorem Try.zero111 : zeroT Try.prog 111 = some .nilFunc := by kernel_rfl
set_option maxHeartbeats 1000000 in
set_option maxRecDepth 10000 in
theorem plan1 {M : Nat → Prop} {W0 : World} {σ : List VObj} {ds es : List DV} {n m : Nat} {cn cm : Option Nat} {t : Int} {s : Ps} {x : Ld} {N : Nat} {o : VObj} (hP : PS σ (.sl ds n cn) (.sl es m cm) t s) (hI : PI 1000000 N s) (hN : N ≤ 1000000) (h9 : σ[9]? = some o) :
    InCall Try.prog M W0 71 σ [.d (.agg (c4 x)), .optr 6 0, .optr 1 0] (fun σ' _ => PS σ' (.sl ds n cn) (.sl es m cm) t (pushP s x) ∧ σ'[9]? = some o) := by
  refine inCall_K Try.func71 rfl (Nat.le_of_ble_eq_true rfl) ?_
  refine KC.seq ?_
  refine KC.region ?_
  refine KT.step rfl rfl (K.box rfl) ?_
  have yX : (σ ++ [(⟨(c4 x).map .d, 0⟩ : VObj)])[σ.length]? = some ⟨(c4 x).map .d, 0⟩ := List.getElem?_concat_length ..
  have hl10 := lt_of_get h9
  replace hP := hP.left [⟨(c4 x).map .d, 0⟩]
  replace h9 := get_left (B := [(⟨(c4 x).map .d, 0⟩ : VObj)]) h9
  change KT _ _ _ _ (σ ++ [(⟨(c4 x).map .d, 0⟩ : VObj)]) _ _
  refine KT.nil ?_
  refine thenK_n ?_
  refine KC.seq ?_
  refine KC.region ?_
  refine KT.step rfl rfl (K.loadOX [.d (.sl ds n cn), .d (.sl es m cm), .omp 4, .omp 5] rfl hP.y6 (by decide) Try.agg108 Try.size108 rfl rfl) ?_
  refine KT.step rfl rfl (K.loadOA (c4 x) rfl yX (by decide) Try.agg65 Try.size65 rfl) ?_
  refine KT.step rfl rfl (K.callO (xs := [.agg [.d (.sl ds n cn), .d (.sl es m cm), .omp 4, .omp 5], .d (.agg (c4 x))]) rfl plainTry_72 (pass72 (x := x) hP.y4 hP.y5 (by decide) hI.g.1 hI.w.1 (fun k => Int.le_trans (hI.gb k) (by decide)) (fun k => Int.le_trans (hI.wb k) (by decide)))) ?_
  replace hP := hP.acc [⟨[.d (.sl ds n cn), .d (.sl es m cm), .omp 4, .omp 5], 0⟩, ⟨(c4 x).map .d, 0⟩] (passM s.1 s.2.1 x).2.1 (passM s.1 s.2.1 x).2.2
  replace h9 := sw45_9 (B := [⟨[.d (.sl ds n cn), .d (.sl es m cm), .omp 4, .omp 5], 0⟩, ⟨(c4 x).map .d, 0⟩]) (g := (passM s.1 s.2.1 x).2.1) (w := (passM s.1 s.2.1 x).2.2) h9
  replace yX := (sw_o (gi := 4) (wi := 5) (a := (passM s.1 s.2.1 x).2.1) (b := (passM s.1 s.2.1 x).2.2) (show σ.length ≠ 4 by omega) (show σ.length ≠ 5 by omega)).trans (get_left (B := [(⟨[.d (.sl ds n cn), .d (.sl es m cm), .omp 4, .omp 5], 0⟩ : VObj), ⟨(c4 x).map .d, 0⟩]) yX)
  generalize hρ : sw (σ ++ [(⟨(c4 x).map .d, 0⟩ : VObj)] ++ [⟨[.d (.sl ds n cn), .d (.sl es m cm), .omp 4, .omp 5], 0⟩, ⟨(c4 x).map .d, 0⟩]) 4 5 (passM s.1 s.2.1 x).2.1 (passM s.1 s.2.1 x).2.2 = ρ at hP h9 yX
  unfold sw at hρ
  rw [hρ]
  refine KT.nil ?_
  refine thenK_n ?_
  refine KC.cond rfl (fun hc6 => ?_) (fun hc6 => ?_)
  · skip
    refine KC.region ?_
    obtain ⟨xx, k1, ow, hn, dj⟩ := hP.y1
    refine KT.step rfl rfl (K.loadO (y := xx) rfl k1 (by simp) rfl Try.agg44) ?_
    refine KT.step rfl rfl (K.loadOA (c4 x) rfl yX (by decide) Try.agg65 Try.size65 rfl) ?_
    refine KT.step rfl rfl (K.buildK (k := 4) (ds := c4 x) rfl rfl Try.underlying44 Try.size65 Try.zero65 (by decide)) ?_
    refine KT.appK (k := 4) rfl rfl rfl rfl (ow.pushed _) (List.getElem?_concat_length ..) rfl rfl (by rw [List.length_map, flat_len c4_len]; have := hI.n; simp only; omega) Try.underlying44 Try.size65 (of_decide_eq_true (by kernel_rfl)) (by kernel_rfl) (by decide) fun σ2 x2 ho2 k2 w2 => ?_
    have hk10 : ∀ j, j < 10 → σ2[j]? = ρ[j]? := fun j hj => (k2 j (fun h => by have := dj j h; omega) (by rw [List.length_append]; have := lt_of_get h9; omega)).trans (List.getElem?_append_left (by have := lt_of_get h9; omega))
    have k1b := (hk10 1 (by decide)).trans k1
    refine KT.storeG rfl rfl rfl rfl k1b (by simp) ho2.cells.1 ho2.cells.2 Try.size44 fun σ3 l3 u3 v3 => ?_
    refine KT.nil ?_
    obtain ⟨j2, w3, w4⟩ := w2
    have hj10 : 10 ≤ j2 := by have := lt_of_get h9; rw [List.length_append] at w4; omega
    refine ⟨.inr rfl, _, rfl, ?_, (v3 9 (by decide)).trans ((hk10 9 (by decide)).trans h9)⟩
    unfold pushP
    rw [if_pos hc6]
    refine hP.app (x := x2) u3 ?_ (fun h => by simp at h) (fun j hj => by rw [w3] at hj; cases hj; exact hj10) (fun j hj hj1 => (v3 j hj1).trans (hk10 j hj))
    have e4 : ((s.2.2 ++ [x]).flatMap c4).map XV.d = (s.2.2.flatMap c4).map .d ++ (c4 x).map .d := by rw [List.flatMap_append, List.map_append]; simp
    rw [e4]
    refine ho2.keep fun j hj => v3 j ?_
    rw [w3] at hj; cases hj; omega
  · skip
    refine KC.skip ?_
    refine ⟨.inr rfl, _, rfl, ?_, h9⟩
    unfold pushP
    rw [if_neg (by rw [hc6]; decide)]; exact hP
set_option maxHeartbeats 2000000 in
set_option maxRecDepth 10000 in
theorem plan54 {l : List Sm} {gap : Int} {cs cl : Option Nat} (hok : okH l gap = true) : DeepCall Try.prog 54 [.agg [(.sl (l.flatMap (c5 gap)) l.length cs), (.sl (ints (lvls gap l)) (lvls gap l).length cl)]] (flV c4 (planM gap l)) := by
  have n2 := lvls_two hok
  have n8 := (okH_iff.1 hok).2.1
  have hall := (okH_iff.1 hok).2.2.2.2
  have nl := lvls_length gap l
  have hpl := prs_length (lvls gap l)
  refine deepCall_K 5 Try.func54 rfl (Nat.le_of_ble_eq_true rfl) fun M W0 => ?_
  refine KC.seq ?_
  refine KC.region ?_
  refine KT.step rfl rfl (K.box rfl) ?_
  refine KT.step rfl rfl (K.assign rfl) ?_
  refine KT.nil ?_
  refine thenK_n ?_
  refine KC.seq ?_
  refine KC.region ?_
  refine KT.step rfl rfl (K.alloc Try.one44.zero) ?_
  refine KT.nil ?_
  refine thenK_n ?_
  refine KC.seq ?_
  refine KC.region ?_
  refine KT.step rfl rfl (K.loadOA [(.sl (l.flatMap (c5 gap)) l.length cs), (.sl (ints (lvls gap l)) (lvls gap l).length cl)] rfl rfl (by decide) Try.agg75 Try.size75 rfl) ?_
  refine KT.step rfl rfl (K.callO (xs := [.d (.agg [(.sl (l.flatMap (c5 gap)) l.length cs), (.sl (ints (lvls gap l)) (lvls gap l).length cl)])]) rfl plainTry_70 exchange70) ?_
  refine KT.step rfl rfl (K.alloc Try.zero108) ?_
  refine KT.putAll (cells := [.d Dnil, .d Dnil, .d (.lit (.map none)), .d (.lit (.map none))]) (cs := [.d (.sl (l.flatMap (c5 gap)) l.length cs), .d (.sl (ints (lvls gap l)) (lvls gap l).length cl), .omp 4, .omp 5]) rfl rfl rfl rfl rfl rfl rfl rfl Try.size108 ?_
  refine KT.nil ?_
  refine thenK_n ?_
  refine KC.seq ?_
  refine KC.region ?_
  refine KT.step rfl rfl (K.makeF (xs := [.optr 6 0, .optr 1 0]) (m := 0) rfl rfl rfl rfl) ?_
  refine KT.step rfl rfl (K.alloc Try.zero111) ?_
  refine KT.step rfl rfl (K.storeO rfl rfl rfl (by simp [Value.cells]) rfl rfl Try.size111) ?_
  refine KT.nil ?_
  refine thenK_n ?_
  refine KC.seq ?_
  refine KC.region ?_
  refine KT.step rfl rfl (K.alloc Try.one3.zero) ?_
  refine KT.step rfl rfl (K.storeO rfl rfl rfl (by simp [Value.cells]) rfl rfl Try.size3) ?_
  refine KT.nil ?_
  refine thenK_n ?_
  refine KC.seq ?_
  refine KC.seq ?_
  refine KC.region ?_
  refine KT.step rfl rfl (K.loadOA [(.sl (l.flatMap (c5 gap)) l.length cs), (.sl (ints (lvls gap l)) (lvls gap l).length cl)] rfl rfl (by decide) Try.agg75 Try.size75 rfl) ?_
  refine KT.step rfl rfl (K.call1 rfl plainTry_66 (pairs66 (.sl _ _ _) (.sl _ _ _))) ?_
  refine KT.nil ?_
  refine thenK_n ?_
  refine KC.block ?_
  refine KC.rangeR rfl rfl plainTry_79 (pairsIter (by omega) (by omega)) (by intro x hx; obtain ⟨p, _, rfl⟩ := List.mem_map.1 hx; rfl) (by decide) (fun k => [(1, .optr 0 0), (3, .optr 1 0), (4, .optr 6 0), (5, .optr 7 0), (6, .optr 8 0), (17, .d (DI (lvQ gap l k).1)), (18, .d (DI (lvQ gap l k).2))]) (fun k τ => PS τ (.sl (l.flatMap (c5 gap)) l.length cs) (.sl (ints (lvls gap l)) (lvls gap l).length cl) (plT gap l k) (plL gap l k) ∧ ∃ o, τ[9]? = some o) (fun _ => False) (by
    intro k hk p hp
    have hk' : k < (prs (lvls gap l)).length := by simpa using hk
    rw [List.getElem_map]
    have e1 : (lvQ gap l k) = (prs (lvls gap l))[k] := by simp [lvQ, hk']
    simp only [e1] at hp
    simp only [List.mem_cons, List.not_mem_nil, or_false] at hp
    rcases hp with rfl | rfl | rfl | rfl | rfl | rfl | rfl <;> exact ⟨Nat.le_of_ble_eq_true rfl, rfl⟩) (⟨⟨rfl, ⟨_, rfl, .nil, fun _ => rfl, fun j hj => by cases hj⟩, rfl, rfl, rfl, rfl, rfl⟩, _, rfl⟩) (fun k hk lo σk hlo hl hI => ?_) (fun τ hI => ?_) (fun τ h => h.elim)
  · skip
    have hk' : k < (prs (lvls gap l)).length := by simpa using hk
    have e1 : (lvQ gap l k) = (prs (lvls gap l))[k] := by simp [lvQ, hk']
    have hlv := lvls_in hok
    have m1 := hlv _ (List.getElem_mem (show k < (lvls gap l).length by omega))
    have m2 := hlv _ (List.getElem_mem (show k + 1 < (lvls gap l).length by omega))
    have e2 : (prs (lvls gap l))[k] = ((lvls gap l)[k], (lvls gap l)[k + 1]) := prs_get (by omega)
    have m3 : (lvQ gap l k).1 = (lvls gap l)[k] := by rw [e1, e2]
    have m4 : (lvQ gap l k).2 = (lvls gap l)[k + 1] := by rw [e1, e2]
    obtain ⟨hP0, o9, _⟩ := hI
    refine KC.seq ?_
    refine KC.region ?_
    refine KT.step rfl rfl (K.assign rfl) ?_
    refine KT.nil ?_
    refine thenK_n ?_
    refine KC.region ?_
    refine KT.step rfl rfl (K.assign rfl) ?_
    refine KT.nil ?_
    refine ⟨rfl, rfl, fun lo2 hlo2 => ?_⟩
    have hP : PS (σk.set 9 lo2) (.sl (l.flatMap (c5 gap)) l.length cs) (.sl (ints (lvls gap l)) (lvls gap l).length cl) (plT gap l k) (plL gap l k) := hP0.swap9
    have z9 : (σk.set 9 lo2)[9]? = some lo2 := List.getElem?_set_self (lt_of_get hl)
    revert hP z9
    show _ → _ → KC Try.prog M W0 _ _ (σk.set 9 lo2) _ _
    generalize σk.set 9 lo2 = σ1
    intro hP z9
    refine KC.block ?_
    refine KC.seq ?_
    refine KC.region ?_
    refine KT.step rfl rfl (K.loadOX [.d (.sl (l.flatMap (c5 gap)) l.length cs), .d (.sl (ints (lvls gap l)) (lvls gap l).length cl), .omp 4, .omp 5] rfl hP.y6 (by decide) Try.agg108 Try.size108 rfl rfl) ?_
    refine KT.step rfl rfl (K.move rfl) ?_
    refine KT.step rfl rfl (K.move rfl) ?_
    have hJ := PI.plL (gap := gap) hall n8 k
    refine KT.step rfl rfl (K.callO (xs := [.agg [.d (.sl (l.flatMap (c5 gap)) l.length cs), .d (.sl (ints (lvls gap l)) (lvls gap l).length cl), .omp 4, .omp 5], .d (DI (lvQ gap l k).1), .d (DI (lvQ gap l k).2)]) rfl plainTry_73 (descend73 hok hP.y4 hP.y5 (by decide) hJ.g hJ.w (fun k => Int.le_trans (hJ.gb k) (by omega)) (fun k => Int.le_trans (hJ.wb k) (by omega)) ⟨by omega, by omega⟩ ⟨by omega, by omega⟩)) ?_
    replace hP := hP.acc (⟨[.d (.sl (l.flatMap (c5 gap)) l.length cs), .d (.sl (ints (lvls gap l)) (lvls gap l).length cl), .omp 4, .omp 5], 0⟩ :: dsJ gap l l.length) (dsP gap l k (plL gap l k)).1 (dsP gap l k (plL gap l k)).2.1
    replace z9 := sw45_9 (B := ⟨[.d (.sl (l.flatMap (c5 gap)) l.length cs), .d (.sl (ints (lvls gap l)) (lvls gap l).length cl), .omp 4, .omp 5], 0⟩ :: dsJ gap l l.length) (g := (dsP gap l k (plL gap l k)).1) (w := (dsP gap l k (plL gap l k)).2.1) z9
    change KT _ _ _ _ (sw (σ1 ++ ⟨[.d (.sl (l.flatMap (c5 gap)) l.length cs), .d (.sl (ints (lvls gap l)) (lvls gap l).length cl), .omp 4, .omp 5], 0⟩ :: dsJ gap l l.length) 4 5 (dsP gap l k (plL gap l k)).1 (dsP gap l k (plL gap l k)).2.1) _ _
    change PS (sw (σ1 ++ ⟨[.d (.sl (l.flatMap (c5 gap)) l.length cs), .d (.sl (ints (lvls gap l)) (lvls gap l).length cl), .omp 4, .omp 5], 0⟩ :: dsJ gap l l.length) 4 5 (dsP gap l k (plL gap l k)).1 (dsP gap l k (plL gap l k)).2.1) (.sl (l.flatMap (c5 gap)) l.length cs) (.sl (ints (lvls gap l)) (lvls gap l).length cl) (plT gap l k) (dsP gap l k (plL gap l k)) at hP
    generalize sw (σ1 ++ (⟨[.d (.sl (l.flatMap (c5 gap)) l.length cs), .d (.sl (ints (lvls gap l)) (lvls gap l).length cl), .omp 4, .omp 5], 0⟩ : VObj) :: dsJ gap l l.length) 4 5 (dsP gap l k (plL gap l k)).1 (dsP gap l k (plL gap l k)).2.1 = σ2 at hP z9 ⊢
    refine KT.nil ?_
    refine thenK_n ?_
    refine KC.seq ?_
    refine KC.seq ?_
    refine KC.region ?_
    refine KT.step rfl rfl (K.fieldAddrO rfl Try.fld75_0 Try.size73) ?_
    refine KT.step rfl rfl (K.loadO (y := .d (.sl (l.flatMap (c5 gap)) l.length cs)) rfl hP.y0 (by simp) rfl Try.agg73) ?_
    refine KT.step rfl rfl (K.lenF (f := c5 gap) (k := 5) rfl .sl Try.underlying73) ?_
    refine KT.step rfl rfl (K.move rfl) ?_
    refine KT.nil ?_
    refine thenK_n ?_
    refine KC.block ?_
    refine KC.loop (fun z : List VObj × Nat => z.1) (fun z => [(1, .optr 0 0), (3, .optr 1 0), (4, .optr 6 0), (5, .optr 7 0), (6, .optr 8 0), (7, .d (DI (lvQ gap l k).1)), (8, .d (DI (lvQ gap l k).2)), (24, .d (.sl (l.flatMap (c5 gap)) l.length cs)), (25, .d (DI (l.length : Nat))), (26, .d (DI (z.2 : Nat)))]) (fun z => z.2 ≤ l.length ∧ PS z.1 (.sl (l.flatMap (c5 gap)) l.length cs) (.sl (ints (lvls gap l)) (lvls gap l).length cl) (plT gap l k) (plC (lvQ gap l k).1 l.length z.2 (dsP gap l k (plL gap l k))) ∧ z.1[9]? = some lo2) (fun z => l.length - z.2) (_, 0) ⟨Nat.zero_le _, hP, z9⟩ rfl (by simp [Go.Vm.look, extK]) ?_
    clear hP z9
    intro z hz
    obtain ⟨σ3, i⟩ := z
    obtain ⟨hi, hP, z9⟩ := hz
    simp only at hi hP z9 ⊢
    refine KC.seq ?_
    refine KC.region ?_
    refine KT.step rfl rfl (K.lss rfl rfl) ?_
    refine KT.nil ?_
    refine thenK_n ?_
    refine KC.seq ?_
    refine KC.cond rfl (fun hc27 => ?_) (fun hc27 => ?_)
    · skip
      replace hc27 := of_decide_eq_true hc27
      have hil : i < l.length := by omega
      refine KC.skip ?_
      refine thenK_n ?_
      refine KC.seq ?_
      refine KC.block ?_
      refine KC.seq ?_
      refine KC.region ?_
      refine KT.step rfl rfl (K.move rfl) ?_
      refine KT.step rfl rfl (K.assign rfl) ?_
      refine KT.nil ?_
      refine thenK_n ?_
      refine KC.seq ?_
      refine KC.seq ?_
      refine KC.region ?_
      refine KT.step rfl rfl (K.fieldAddrO rfl Try.fld75_0 Try.size73) ?_
      refine KT.step rfl rfl (K.loadO (y := .d (.sl (l.flatMap (c5 gap)) l.length cs)) rfl hP.y0 (by simp) rfl Try.agg73) ?_
      refine KT.step rfl rfl (K.lenF (f := c5 gap) (k := 5) rfl .sl Try.underlying73) ?_
      refine KT.step rfl rfl (K.move rfl) ?_
      refine KT.nil ?_
      refine thenK_n ?_
      refine KC.block ?_
      refine KC.loop (fun z : List VObj × Nat => z.1) (fun z => [(1, .optr 0 0), (3, .optr 1 0), (4, .optr 6 0), (5, .optr 7 0), (6, .optr 8 0), (7, .d (DI (lvQ gap l k).1)), (8, .d (DI (lvQ gap l k).2)), (24, .d (.sl (l.flatMap (c5 gap)) l.length cs)), (25, .d (DI (l.length : Nat))), (26, .d (DI (i : Nat))), (9, .d (DI (i : Nat))), (30, .d (.sl (l.flatMap (c5 gap)) l.length cs)), (31, .d (DI (l.length : Nat))), (32, .d (DI (z.2 : Nat)))]) (fun z => z.2 ≤ l.length ∧ PS z.1 (.sl (l.flatMap (c5 gap)) l.length cs) (.sl (ints (lvls gap l)) (lvls gap l).length cl) (plT gap l k) (plH (lvQ gap l k).1 i z.2 (plC (lvQ gap l k).1 l.length i (dsP gap l k (plL gap l k)))) ∧ z.1[9]? = some lo2) (fun z => l.length - z.2) (_, 0) ⟨Nat.zero_le _, hP, z9⟩ rfl (by simp [Go.Vm.look, extK]) ?_
      clear hP z9
      intro z hz
      obtain ⟨σ4, h⟩ := z
      obtain ⟨hh, hP, z9⟩ := hz
      simp only at hh hP z9 ⊢
      refine KC.seq ?_
      refine KC.region ?_
      refine KT.step rfl rfl (K.lss rfl rfl) ?_
      refine KT.nil ?_
      refine thenK_n ?_
      refine KC.seq ?_
      refine KC.cond rfl (fun hc33 => ?_) (fun hc33 => ?_)
      · skip
        replace hc33 := of_decide_eq_true hc33
        have hhl : h < l.length := by omega
        have hJ := (((PI.plL (gap := gap) hall n8 k).ds (gap := gap) (k := k) hall).plC (lvQ gap l k).1 n8 i).plH (lvQ gap l k).1 i h
        refine KC.skip ?_
        refine thenK_n ?_
        refine KC.seq ?_
        refine KC.block ?_
        refine KC.seq ?_
        refine KC.region ?_
        refine KT.step rfl rfl (K.move rfl) ?_
        refine KT.step rfl rfl (K.assign rfl) ?_
        refine KT.nil ?_
        refine thenK_n ?_
        refine KC.regionL ?_
        refine KL.step rfl rfl (K.loadO (y := .fn (.func 71) [] [.optr 6 0, .optr 1 0]) rfl hP.y7 (by simp) rfl Try.agg111) ?_
        refine KL.step rfl rfl (K.move rfl) ?_
        refine KL.step rfl rfl (K.move rfl) ?_
        refine KL.step rfl rfl (K.move rfl) ?_
        refine KL.step rfl rfl (K.fieldAddrO rfl Try.fld108_1 Try.size106) ?_
        refine KL.step rfl rfl (K.loadO (y := .omp 4) rfl hP.y6 (by simp) rfl Try.agg106) ?_
        refine KL.step rfl rfl (K.move rfl) ?_
        refine KL.step rfl rfl (K.lookI rfl hP.y4 hJ.g.1 rfl Try.underlying106 Try.underlying3 zeroI) ?_
        refine KL.step rfl rfl (K.fieldAddrO rfl Try.fld108_2 Try.size106) ?_
        refine KL.step rfl rfl (K.loadO (y := .omp 5) rfl hP.y6 (by simp) rfl Try.agg106) ?_
        refine KL.step rfl rfl (K.move rfl) ?_
        refine KL.step rfl rfl (K.lookI rfl hP.y5 hJ.w.1 rfl Try.underlying106 Try.underlying3 zeroI) ?_
        refine KL.step rfl rfl (K.min2 rfl rfl) ?_
        refine KL.step rfl rfl (K.buildS rfl (build65_4 _ _ _ _)) ?_
        refine KL.call (xs := [.d (.agg (c4 (⟨(h : Int), (i : Int), (lvQ gap l k).1, min (mlk (plH (lvQ gap l k).1 i h (plC (lvQ gap l k).1 l.length i (dsP gap l k (plL gap l k)))).1 h) (mlk (plH (lvQ gap l k).1 i h (plC (lvQ gap l k).1 l.length i (dsP gap l k (plL gap l k)))).2.1 i)⟩)))]) rfl rfl rfl rfl rfl plainTry_71 (plan1 (x := ⟨(h : Int), (i : Int), (lvQ gap l k).1, min (mlk (plH (lvQ gap l k).1 i h (plC (lvQ gap l k).1 l.length i (dsP gap l k (plL gap l k)))).1 h) (mlk (plH (lvQ gap l k).1 i h (plC (lvQ gap l k).1 l.length i (dsP gap l k (plL gap l k)))).2.1 i)⟩) hP (hJ.wk (by omega)) (by omega) z9) fun σ5 x5 hR => ?_
        replace hP := hR.1
        replace z9 := hR.2
        refine KL.nil ?_
        refine blockK_n ?_
        refine thenK_n ?_
        refine KC.region ?_
        refine KT.step rfl rfl (K.add rfl rfl (wrap_id (by omega))) ?_
        refine KT.step rfl rfl (K.move rfl) ?_
        refine KT.nil ?_
        refine thenK_n ?_
        exact ⟨(_, h + 1), ⟨by simp only; omega, hP, z9⟩, by simp only; omega, rfl, by simp [Go.Vm.look, extK]⟩
      · skip
        replace hc33 := of_decide_eq_false hc33
        obtain rfl : h = l.length := by omega
        have hJ := (((PI.plL (gap := gap) hall n8 k).ds (gap := gap) (k := k) hall).plC (lvQ gap l k).1 n8 i).plH (lvQ gap l k).1 i l.length
        refine KC.exit ?_
        refine thenK_x ?_
        refine thenK_x ?_
        refine blockK_e ?_
        refine thenK_n ?_
        refine KC.regionL ?_
        refine KL.step rfl rfl (K.loadO (y := .fn (.func 71) [] [.optr 6 0, .optr 1 0]) rfl hP.y7 (by simp) rfl Try.agg111) ?_
        refine KL.step rfl rfl (K.move rfl) ?_
        refine KL.step rfl rfl (K.move rfl) ?_
        refine KL.step rfl rfl (K.fieldAddrO rfl Try.fld108_2 Try.size106) ?_
        refine KL.step rfl rfl (K.loadO (y := .omp 5) rfl hP.y6 (by simp) rfl Try.agg106) ?_
        refine KL.step rfl rfl (K.move rfl) ?_
        refine KL.step rfl rfl (K.lookI rfl hP.y5 hJ.w.1 rfl Try.underlying106 Try.underlying3 zeroI) ?_
        refine KL.step rfl rfl (K.buildS rfl (build65_4 _ _ _ _)) ?_
        refine KL.call (xs := [.d (.agg (c4 (⟨-1, (i : Int), (lvQ gap l k).1, mlk (plH (lvQ gap l k).1 i l.length (plC (lvQ gap l k).1 l.length i (dsP gap l k (plL gap l k)))).2.1 i⟩)))]) rfl rfl rfl rfl rfl plainTry_71 (plan1 (x := ⟨-1, (i : Int), (lvQ gap l k).1, mlk (plH (lvQ gap l k).1 i l.length (plC (lvQ gap l k).1 l.length i (dsP gap l k (plL gap l k)))).2.1 i⟩) hP (hJ.wk (by omega)) (by omega) z9) fun σ6 x6 hR => ?_
        replace hP := hR.1
        replace z9 := hR.2
        refine KL.nil ?_
        refine blockK_n ?_
        refine thenK_n ?_
        refine KC.region ?_
        refine KT.step rfl rfl (K.add rfl rfl (wrap_id (by omega))) ?_
        refine KT.step rfl rfl (K.move rfl) ?_
        refine KT.nil ?_
        refine thenK_n ?_
        exact ⟨(_, i + 1), ⟨by simp only; omega, hP, z9⟩, by simp only; omega, rfl, by simp [Go.Vm.look, extK]⟩
    · skip
      replace hc27 := of_decide_eq_false hc27
      obtain rfl : i = l.length := by omega
      refine KC.exit ?_
      refine thenK_x ?_
      refine thenK_x ?_
      refine blockK_e ?_
      refine thenK_n ?_
      refine KC.region ?_
      refine KT.step rfl rfl (K.move rfl) ?_
      refine KT.storeG rfl rfl rfl rfl hP.y8 (by simp) rfl rfl Try.size3 fun σ8 l8 u8 v8 => ?_
      replace hP := hP.top u8 v8
      replace z9 := (v8 9 (by decide)).trans z9
      refine KT.nil ?_
      refine blockK_n ?_
      exact ⟨z9, .inl ⟨rfl, hP.set9, _, List.getElem?_set_self (lt_of_get z9)⟩⟩
  · skip
    rw [List.length_map] at hI
    obtain ⟨hP, o9, z9⟩ := hI
    refine blockK_n ?_
    refine thenK_n ?_
    refine KC.seq ?_
    refine KC.seq ?_
    refine KC.region ?_
    refine KT.step rfl rfl (K.fieldAddrO rfl Try.fld75_0 Try.size73) ?_
    refine KT.step rfl rfl (K.loadO (y := .d (.sl (l.flatMap (c5 gap)) l.length cs)) rfl hP.y0 (by simp) rfl Try.agg73) ?_
    refine KT.step rfl rfl (K.lenF (f := c5 gap) (k := 5) rfl .sl Try.underlying73) ?_
    refine KT.step rfl rfl (K.move rfl) ?_
    refine KT.nil ?_
    refine thenK_n ?_
    refine KC.block ?_
    refine KC.loop (fun z : List VObj × Nat => z.1) (fun z => [(1, .optr 0 0), (3, .optr 1 0), (4, .optr 6 0), (5, .optr 7 0), (6, .optr 8 0), (63, .d (.sl (l.flatMap (c5 gap)) l.length cs)), (64, .d (DI (l.length : Nat))), (65, .d (DI (z.2 : Nat)))]) (fun z => z.2 ≤ l.length ∧ PS z.1 (.sl (l.flatMap (c5 gap)) l.length cs) (.sl (ints (lvls gap l)) (lvls gap l).length cl) (plT gap l (prs (lvls gap l)).length) (plE (plT gap l (prs (lvls gap l)).length) z.2 (plL gap l (prs (lvls gap l)).length)) ∧ z.1[9]? = some o9) (fun z => l.length - z.2) (_, 0) ⟨Nat.zero_le _, hP, z9⟩ rfl (by simp [Go.Vm.look, extK, enterK]) ?_
    clear hP z9
    intro z hz
    obtain ⟨σ5, h⟩ := z
    obtain ⟨hh, hP, z9⟩ := hz
    simp only at hh hP z9 ⊢
    refine KC.seq ?_
    refine KC.region ?_
    refine KT.step rfl rfl (K.lss rfl rfl) ?_
    refine KT.nil ?_
    refine thenK_n ?_
    refine KC.seq ?_
    refine KC.cond rfl (fun hc66 => ?_) (fun hc66 => ?_)
    · skip
      replace hc66 := of_decide_eq_true hc66
      have hhl : h < l.length := by omega
      have hJ := (PI.plL (gap := gap) hall n8 (prs (lvls gap l)).length).plE (plT gap l (prs (lvls gap l)).length) h
      refine KC.skip ?_
      refine thenK_n ?_
      refine KC.seq ?_
      refine KC.block ?_
      refine KC.seq ?_
      refine KC.region ?_
      refine KT.step rfl rfl (K.move rfl) ?_
      refine KT.step rfl rfl (K.assign rfl) ?_
      refine KT.nil ?_
      refine thenK_n ?_
      refine KC.regionL ?_
      refine KL.step rfl rfl (K.loadO (y := .fn (.func 71) [] [.optr 6 0, .optr 1 0]) rfl hP.y7 (by simp) rfl Try.agg111) ?_
      refine KL.step rfl rfl (K.move rfl) ?_
      refine KL.step rfl rfl (K.loadO rfl hP.y8 (by simp) rfl Try.agg3) ?_
      refine KL.step rfl rfl (K.fieldAddrO rfl Try.fld108_1 Try.size106) ?_
      refine KL.step rfl rfl (K.loadO (y := .omp 4) rfl hP.y6 (by simp) rfl Try.agg106) ?_
      refine KL.step rfl rfl (K.move rfl) ?_
      refine KL.step rfl rfl (K.lookI rfl hP.y4 hJ.g.1 rfl Try.underlying106 Try.underlying3 zeroI) ?_
      refine KL.step rfl rfl (K.buildS rfl (build65_4 _ _ _ _)) ?_
      refine KL.call (xs := [.d (.agg (c4 (⟨(h : Int), -1, (plT gap l (prs (lvls gap l)).length), mlk (plE (plT gap l (prs (lvls gap l)).length) h (plL gap l (prs (lvls gap l)).length)).1 h⟩)))]) rfl rfl rfl rfl rfl plainTry_71 (plan1 (x := ⟨(h : Int), -1, (plT gap l (prs (lvls gap l)).length), mlk (plE (plT gap l (prs (lvls gap l)).length) h (plL gap l (prs (lvls gap l)).length)).1 h⟩) hP (hJ.wk (by omega)) (by omega) z9) fun σ7 x7 hR => ?_
      replace hP := hR.1
      replace z9 := hR.2
      refine KL.nil ?_
      refine blockK_n ?_
      refine thenK_n ?_
      refine KC.region ?_
      refine KT.step rfl rfl (K.add rfl rfl (wrap_id (by omega))) ?_
      refine KT.step rfl rfl (K.move rfl) ?_
      refine KT.nil ?_
      refine thenK_n ?_
      exact ⟨(_, h + 1), ⟨by simp only; omega, hP, z9⟩, by simp only; omega, rfl, by simp [Go.Vm.look, extK]⟩
    · skip
      replace hc66 := of_decide_eq_false hc66
      obtain rfl : h = l.length := by omega
      refine KC.exit ?_
      refine thenK_x ?_
      refine thenK_x ?_
      refine blockK_e ?_
      refine thenK_n ?_
      refine KC.seq ?_
      refine KC.region ?_
      obtain ⟨xx, k1, ow, hn, dj⟩ := hP.y1
      refine KT.step rfl rfl (K.loadO (y := xx) rfl k1 (by simp) rfl Try.agg44) ?_
      refine KT.step rfl rfl (K.assign rfl) ?_
      refine KT.nil ?_
      refine thenK_n ?_
      refine KC.ret ?_
      exact ⟨.inl rfl, _, rfl, own_fl c4_len (by decide) ow hn⟩
end Go.Proofs.Ytmfbakipfobaeaa

