import Derived.Test.YthbnnffmhnjpjaaCyJ
import Derived.Test.YthbnnffmhnjpjaaCyEg
/-
  Times: the greatest mean.
-/
namespace Go.Proofs.Ythbnnffmhnjpjaa
open Go.Vm Go.Cy
theorem plainTry_66 : plainFn Try.prog 66 = true := by kernel_rfl

theorem own_sl {σ : List VObj} {x v : XV} {cells : List XV} (h : OwnK 1 σ x (cells ++ [v])) : ∃ id, x = .osl id 0 (cells.length + 1) 1 (cells.length + 1) false ∧ σ[id]? = some ⟨cells ++ [v], 0⟩ := by
  generalize hc : cells ++ [v] = l at h
  cases h with
  | nil => simp at hc
  | sl h hn =>
    subst hc
    simp at hn
    subst hn
    exact ⟨_, rfl, h⟩
/-- The rows of the best ways. -/
def bRow (n : Nat) (a : Nat → Nat → Int) (k : Nat) : XV := .d (rowG n (bestI n a k))
def bRows (n : Nat) (a : Nat → Nat → Int) (k : Nat) : List XV := (List.range k).map (bRow n a)
theorem bRows_succ (n : Nat) (a : Nat → Nat → Int) (k : Nat) : bRows n a (k + 1) = bRows n a k ++ [bRow n a k] := by simp [bRows, List.range_succ]
theorem bRows_len (n : Nat) (a : Nat → Nat → Int) (k : Nat) : (bRows n a k).length = k := by simp [bRows]
theorem bRows_get {n : Nat} {a : Nat → Nat → Int} {k i : Nat} (h : i < k) : (bRows n a k)[0 + i]? = some (bRow n a i) := by simp [bRows, h]
theorem zero_deep {n : Nat} {σ : List VObj} {id : Nat} (h : σ[id]? = some ⟨List.replicate n (.d (.lit (.int .i64 0))), 1⟩) (a : Nat → Nat → Int) : deepen σ 5 (.osl id 0 n 1 n true) = some (rowG n (bestI n a 0)) := by
  rw [deepen_cells (k := 3) (ds := (List.range n).map fun _ => DI 0) h (by rw [List.map_map, show (XV.d ∘ fun _ : Nat => DI 0) = (fun _ => XV.d (DI 0)) from rfl, List.map_const', List.length_range]) (by simp)]
  rfl
structure Bds (n : Nat) (a : Nat → Nat → Int) : Prop where
  n1 : 1 ≤ n
  n12 : n ≤ 12
  ga : GoodM 1000000000 a
theorem Bds.best {n : Nat} {a : Nat → Nat → Int} (h : Bds n a) {k : Nat} (hk : k ≤ 12) (j : Nat) : Cy.Good 1000000000000 (bestI n a k j) := (best_good h.ga (by omega) k j).mono (by omega)
theorem Bds.b2 {n : Nat} {a : Nat → Nat → Int} (h : Bds n a) {k : Nat} (hk : k ≤ 12) (j : Nat) : -2000000000000 ≤ bestI n a k j ∧ bestI n a k j ≤ 2000000000000 := good_bd (h.best hk j) (Int.le_refl _)
theorem Bds.rate {n : Nat} {a : Nat → Nat → Int} (h : Bds n a) (j : Nat) {k : Nat} (h0 : 0 < k) (hk : k ≤ n) : (-4000000000000 ≤ (rateI n a j k).1 ∧ (rateI n a j k).1 ≤ 4000000000000) ∧ 1 ≤ (rateI n a j k).2 ∧ (rateI n a j k).2 ≤ 12 := by
  obtain ⟨⟨k0, e1, e2⟩, _⟩ := rate_spec (a := a) (j := j) h0 hk
  have b1 := h.b2 (k := n) h.n12 j
  have b2 := h.b2 (k := k0) (by have := h.n12; omega) j
  have := h.n12
  rw [e2]; simp only; omega
def topV (n : Nat) (a : Nat → Nat → Int) (j : Nat) : Int × Int := (topI n a j).getD (0, 0)
theorem Bds.top {n : Nat} {a : Nat → Nat → Int} (h : Bds n a) {j : Nat} (ht : (topI n a j).isSome = true) : (-4000000000000 ≤ (topV n a j).1 ∧ (topV n a j).1 ≤ 4000000000000) ∧ 1 ≤ (topV n a j).2 ∧ (topV n a j).2 ≤ 12 := by
  obtain ⟨m, hm⟩ := Option.isSome_iff_exists.1 ht
  obtain ⟨⟨i, _, _, e⟩, _⟩ := (top_spec (a := a) (show 0 < n from h.n1)).2 m hm
  have : topV n a j = rateI n a i n := by unfold topV; rw [hm, e]; rfl
  rw [this]; exact h.rate i h.n1 (Nat.le_refl n)
theorem prod_bd {x y : Int} (hx : -4000000000000 ≤ x ∧ x ≤ 4000000000000) (hy : 1 ≤ y ∧ y ≤ 12) : -9223372036854775808 ≤ x * y ∧ x * y ≤ 9223372036854775807 := by
  have := mul_bd (a := 4000000000000) (b := 12) hx (y := y) (by omega) (by omega) (by omega); omega
theorem rate_step_yes {n : Nat} {a : Nat → Nat → Int} {j k : Nat} (h : k = 0 ∨ belowI (bestI n a n j - bestI n a k j, (n : Int) - k) (rateI n a j k) = true) : rateI n a j (k + 1) = (bestI n a n j - bestI n a k j, (n : Int) - k) := if_pos h
theorem rate_step_no {n : Nat} {a : Nat → Nat → Int} {j k : Nat} (h : ¬ k = 0) (h2 : ¬ belowI (bestI n a n j - bestI n a k j, (n : Int) - k) (rateI n a j k) = true) : rateI n a j (k + 1) = rateI n a j k := if_neg (by rintro (e | e); exact h e; exact h2 e)
theorem top_nv {n : Nat} {a : Nat → Nat → Int} {j : Nat} (h : bestI n a n j = Nv) : topI n a (j + 1) = topI n a j := if_pos h
theorem top_yes {n : Nat} {a : Nat → Nat → Int} {j : Nat} (h : bestI n a n j ≠ Nv) (h2 : (topI n a j).isSome = false ∨ belowI (topV n a j) (rateI n a j n) = true) : topI n a (j + 1) = some (rateI n a j n) := by
  have e : topI n a (j + 1) = _ := if_neg h
  rw [e]
  cases ht : topI n a j with
  | none => rfl
  | some m =>
    rcases h2 with h2 | h2
    · rw [ht] at h2; cases h2
    · unfold topV at h2; rw [ht] at h2; simp only [Option.getD_some] at h2; simp only [h2, if_true]
theorem top_no {n : Nat} {a : Nat → Nat → Int} {j : Nat} (h : bestI n a n j ≠ Nv) (h1 : (topI n a j).isSome = true) (h2 : ¬ belowI (topV n a j) (rateI n a j n) = true) : topI n a (j + 1) = topI n a j := by
  have e : topI n a (j + 1) = _ := if_neg h
  rw [e]
  cases ht : topI n a j with
  | none => rw [ht] at h1; cases h1
  | some m => unfold topV at h2; rw [ht] at h2; simp only [Option.getD_some] at h2; simp only [h2, if_false]; rfl
def meanD (n : Nat) (a : Nat → Nat → Int) : DV := match meanI n a with
  | none => .tup [.agg [DI 0, DI 0], DB false]
  | some m => .tup [.agg [DI m.1, DI m.2], DB true]

structure MSt (n : Nat) (a : Nat → Nat → Int) (σ : List VObj) (ib im j : Nat) : Prop where
  y0 : σ[0]? = some ⟨[.d (DI 0), .d (DI 0)], 0⟩
  yb : σ[ib]? = some ⟨bRows n a (n + 1), 0⟩
  ym : σ[im]? = some ⟨[.d (DI (topV n a j).1), .d (DI (topV n a j).2)], 0⟩
theorem MSt.keep {n : Nat} {a : Nat → Nat → Int} {σ σ2 : List VObj} {ib im j j2 : Nat} (h : MSt n a σ ib im j) (hj : topV n a j2 = topV n a j) (hk : ∀ i, i < σ.length → σ2[i]? = σ[i]?) : MSt n a σ2 ib im j2 := by
  have lt : ∀ {i : Nat} {o : VObj}, σ[i]? = some o → i < σ.length := fun e => (List.getElem?_eq_some_iff.1 e).1
  exact ⟨(hk _ (lt h.y0)).trans h.y0, (hk _ (lt h.yb)).trans h.yb, by rw [hj]; exact (hk _ (lt h.ym)).trans h.ym⟩
theorem app_lt {σ : List VObj} {o : VObj} {i : Nat} (h : i < σ.length) : (σ ++ [o])[i]? = σ[i]? := List.getElem?_append_left h
set_option maxHeartbeats 1600000 in
set_option maxRecDepth 10000 in
theorem mean66 {d : DV} {n : Nat} {a : Nat → Nat → Int} (hd : Mat d (genM n n a)) (B : Bds n a) : DeepCall Try.prog 66 [d] (meanD n a) := by
  have hb := B.ga
  have hn1 := B.n1
  have hn12 := B.n12
  refine deepCall_K 5 Try.func66 rfl (Nat.le_of_ble_eq_true rfl) fun M W0 => ?_
  refine KC.seq ?_
  refine KC.region ?_
  refine KT.step rfl rfl (K.alloc Try.zero59) ?_
  refine KT.step rfl rfl (K.assign rfl) ?_
  refine KT.nil ?_
  refine thenK_n ?_
  refine KC.seq ?_
  refine KC.region ?_
  refine KT.step rfl rfl (K.move rfl) ?_
  refine KT.step rfl rfl (K.len rfl hd Try.underlying22) ?_
  rw [genM_len]
  refine KT.step rfl rfl (K.assign rfl) ?_
  refine KT.nil ?_
  refine thenK_n ?_
  refine KC.seq ?_
  refine KC.region ?_
  refine KT.step rfl rfl (K.move rfl) ?_
  refine KT.step rfl rfl (K.make rfl rfl (Nat.le_refl _) (by omega) Try.underlying33 Try.one3) ?_
  refine KT.step rfl rfl (K.build1' (v := .osl 1 0 n 1 n true) rfl rfl Try.underlying22 Try.one33) ?_
  refine KT.step rfl rfl (K.assign rfl) ?_
  refine KT.nil ?_
  refine thenK_n ?_
  refine KC.seq ?_
  refine KC.seq ?_
  refine KC.ghostC [1] 5 (id := 2) (i := 0) (ob := ⟨[.osl 1 0 n 1 n true], 0⟩) (x := .osl 1 0 n 1 n true) (d := rowG n (bestI n a 0)) rfl (by simp) rfl (zero_deep rfl a) ?_
  refine KC.ghostX (t := 5) (y := .osl 2 0 1 1 1 false) rfl (fun w ι F v h => osl_loose h) ?_
  refine KC.region ?_
  refine KT.step rfl rfl (K.move rfl) ?_
  refine KT.step rfl rfl (K.move rfl) ?_
  refine KT.nil ?_
  refine thenK_n ?_
  refine KC.block ?_
  refine KC.loop (fun p : List VObj × XV × Nat => p.1) (fun p => [(0, .d d), (2, .optr 0 0), (4, .d (DI (n : Nat))), (5, p.2.1), (19, .d (DI (n : Nat))), (20, .d (DI (p.2.2 : Nat)))]) (fun p => p.2.2 ≤ n ∧ p.1[0]? = some ⟨[.d (DI 0), .d (DI 0)], 0⟩ ∧ OwnK 1 p.1 p.2.1 (bRows n a (p.2.2 + 1)) ∧ ∀ j, idX p.2.1 = some j → 1 ≤ j) (fun p => n - p.2.2) (_, .osl 2 0 1 1 1 false, 0) ⟨Nat.zero_le _, rfl, .sl rfl (by simp [bRows]), fun j h => by cases h; omega⟩ rfl (by simp [Go.Vm.look, extK, enterK]) ?_
  intro p hp
  obtain ⟨σ0, x0, k⟩ := p
  obtain ⟨hk, y0, hown, hid⟩ := hp
  simp only at hk y0 hown hid ⊢
  have hown' := hown
  rw [bRows_succ] at hown'
  obtain ⟨ib, hxb, yb⟩ := own_sl hown'
  rw [bRows_len] at hxb
  rw [← bRows_succ] at yb
  subst hxb
  have hib := hid ib rfl
  refine KC.seq ?_
  refine KC.region ?_
  refine KT.step rfl rfl (K.lss rfl rfl) ?_
  refine KT.nil ?_
  refine thenK_n ?_
  refine KC.seq ?_
  refine KC.cond rfl (fun hc21 => ?_) (fun hc21 => ?_)
  · skip
    replace hc21 := of_decide_eq_true hc21
    refine KC.skip ?_
    refine thenK_n ?_
    refine KC.seq ?_
    refine KC.block ?_
    refine KC.seq ?_
    refine KC.region ?_
    refine KT.step rfl rfl (K.move rfl) ?_
    refine KT.step rfl rfl (K.assign rfl) ?_
    refine KT.nil ?_
    refine thenK_n ?_
    refine KC.region ?_
    refine KT.step rfl rfl (K.move rfl) ?_
    refine KT.step rfl rfl (K.move rfl) ?_
    refine KT.step rfl rfl (K.move rfl) ?_
    refine KT.step rfl rfl (K.idxO rfl rfl (by omega) Try.underlying22 Try.size33) ?_
    refine KT.step rfl rfl (K.loadO rfl yb (by simp) (bRows_get (by omega)) Try.agg33) ?_
    refine KT.step rfl rfl (K.move rfl) ?_
    refine KT.step rfl rfl (K.call2 rfl rfl plainTry_93 (extended93 hd (rowG_ints _) (by omega) (fun i j => (hb i j).mono (by omega)) (fun i => B.best (by omega) i))) ?_
    refine KT.step rfl rfl (K.build1' (v := bRow n a (k + 1)) rfl rfl Try.underlying22 Try.one33) ?_
    refine KT.appK (k := 1) (vs := [bRow n a (k + 1)]) rfl rfl rfl rfl (hown.pushed _) (by simp) rfl rfl (by rw [bRows_len]; omega) Try.underlying22 Try.size33 bytes33 cells33 (by omega) fun σ1 x1 ho1 k1 w1 => ?_
    rw [← bRows_succ] at ho1
    have z0 := (k1 0 (by simp [idX]; omega) (by simp)).trans ((List.getElem?_append_left (List.getElem?_eq_some_iff.1 y0).1).trans y0)
    refine KT.step rfl rfl (K.assign rfl) ?_
    refine KT.nil ?_
    refine blockK_n ?_
    refine thenK_n ?_
    refine KC.region ?_
    refine KT.step rfl rfl (K.add rfl rfl (wrap_id (by omega))) ?_
    refine KT.step rfl rfl (K.move rfl) ?_
    refine KT.nil ?_
    refine thenK_n ?_
    refine ⟨(σ1, x1, k + 1), ⟨by simp only; omega, z0, ho1, fun j hj => ?_⟩, by simp only; omega, rfl, by simp [Go.Vm.look, extK]⟩
    obtain ⟨j1, w2, w3⟩ := w1
    simp only at hj
    rw [w2] at hj; cases hj
    have := (List.getElem?_eq_some_iff.1 y0).1
    simp only [List.length_append, List.length_cons, List.length_nil] at w3
    omega
  · skip
    replace hc21 := of_decide_eq_false hc21
    refine KC.exit ?_
    refine thenK_x ?_
    refine thenK_x ?_
    refine blockK_e ?_
    refine thenK_n ?_
    refine KC.seq ?_
    refine KC.region ?_
    refine KT.step rfl rfl (K.alloc Try.zero59) ?_
    refine KT.nil ?_
    refine thenK_n ?_
    refine KC.seq ?_
    refine KC.region ?_
    refine KT.step rfl rfl (K.assign rfl) ?_
    refine KT.nil ?_
    refine thenK_n ?_
    refine KC.seq ?_
    refine KC.seq ?_
    refine KC.region ?_
    have hkn : k = n := by omega
    rw [hkn] at hown' yb
    refine KT.step rfl rfl (K.move rfl) ?_
    refine KT.step rfl rfl (K.move rfl) ?_
    refine KT.step rfl rfl (K.idxO rfl rfl (by omega) Try.underlying22 Try.size33) ?_
    refine KT.step rfl rfl (K.loadO rfl ((app_lt (List.getElem?_eq_some_iff.1 yb).1).trans yb) (by simp) (bRows_get (k := n + 1) (i := n) (by omega)) Try.agg33) ?_
    refine KT.step rfl rfl (K.len rfl (rowG_ints _) Try.underlying33) ?_
    rw [show ((List.range n).map (bestI n a n)).length = n by simp]
    refine KT.step rfl rfl (K.move rfl) ?_
    refine KT.nil ?_
    refine thenK_n ?_
    refine KC.block ?_
    have hl0 := (List.getElem?_eq_some_iff.1 y0).1
    have hlb := (List.getElem?_eq_some_iff.1 yb).1
    refine KC.weaken (kn' := [(0, .d d), (2, .optr 0 0), (4, .d (DI (n : Nat))), (5, .osl ib 0 (n + 1) 1 (n + 1) false), (7, .optr σ0.length 0), (8, .d (DB false)), (36, .d (rowG n (bestI n a n))), (37, .d (DI (n : Nat))), (38, .d (DI (0 : Nat)))]) ?_ (by simp [Go.Vm.look, extK, hkn, bRow])
    obtain ⟨im, him⟩ : ∃ im, im = σ0.length := ⟨_, rfl⟩
    rw [← him]
    refine KC.loop (fun p : List VObj × Nat => p.1) (fun p => [(0, .d d), (2, .optr 0 0), (4, .d (DI (n : Nat))), (5, .osl ib 0 (n + 1) 1 (n + 1) false), (7, .optr im 0), (36, .d (rowG n (bestI n a n))), (37, .d (DI (n : Nat))), (8, .d (DB (topI n a p.2).isSome)), (38, .d (DI (p.2 : Nat)))]) (fun p => p.2 ≤ n ∧ MSt n a p.1 ib im p.2) (fun p => n - p.2) (σ0 ++ [⟨[.d (DI 0), .d (DI 0)], 0⟩], 0) ⟨Nat.zero_le _, (app_lt hl0).trans y0, (app_lt (by omega)).trans yb, by rw [him]; exact List.getElem?_concat_length ..⟩ rfl (by simp [Go.Vm.look, extK, topI]) ?_
    have hne : ib ≠ im := by omega
    have hne0 : im ≠ 0 := by omega
    intro p hp
    obtain ⟨σ2, j⟩ := p
    obtain ⟨hj, hs⟩ := hp
    simp only at hj hs ⊢
    refine KC.seq ?_
    refine KC.region ?_
    refine KT.step rfl rfl (K.lss rfl rfl) ?_
    refine KT.nil ?_
    refine thenK_n ?_
    refine KC.seq ?_
    refine KC.cond rfl (fun hc39 => ?_) (fun hc39 => ?_)
    · skip
      replace hc39 := of_decide_eq_true hc39
      have hjn : j < n := by omega
      refine KC.skip ?_
      refine thenK_n ?_
      refine KC.seq ?_
      refine KC.block ?_
      refine KC.seq ?_
      refine KC.region ?_
      refine KT.step rfl rfl (K.move rfl) ?_
      refine KT.idxI rfl rfl rfl (rowG_ints _) rfl (by simp; omega) Try.underlying33 Try.size3 fun cs41 => ?_
      rw [get_range]
      refine KT.step rfl rfl (K.load rfl Try.agg3) ?_
      refine KT.step rfl rfl (K.assign rfl) ?_
      refine KT.step rfl rfl (K.assign rfl) ?_
      refine KT.nil ?_
      refine thenK_n ?_
      refine KC.seq ?_
      refine KC.seq ?_
      refine KC.region ?_
      refine KT.step rfl rfl (K.move rfl) ?_
      refine KT.step rfl rfl (K.eql rfl rfl) ?_
      refine KT.nil ?_
      refine thenK_n ?_
      refine KC.cond rfl (fun hc44 => ?_) (fun hc44 => ?_)
      · skip
        replace hc44 := of_decide_eq_true hc44
        refine KC.exit ?_
        refine thenK_x ?_
        refine blockK_e ?_
        refine thenK_n ?_
        refine KC.region ?_
        refine KT.step rfl rfl (K.add rfl rfl (wrap_id (by omega))) ?_
        refine KT.step rfl rfl (K.move rfl) ?_
        refine KT.nil ?_
        refine thenK_n ?_
        have etop := top_nv (a := a) (n := n) (j := j) hc44
        refine ⟨(σ2, j + 1), ⟨by simp only; omega, hs.keep (by unfold topV; rw [etop]) fun _ _ => rfl⟩, by simp only; omega, rfl, by simp [Go.Vm.look, extK, etop]⟩
      · skip
        replace hc44 := of_decide_eq_false hc44
        have hlast : bestI n a n j ≠ Nv := hc44
        refine KC.skip ?_
        refine thenK_n ?_
        refine KC.seq ?_
        refine KC.region ?_
        refine KT.step rfl rfl (K.alloc Try.zero59) ?_
        refine KT.nil ?_
        refine thenK_n ?_
        refine KC.seq ?_
        refine KC.seq ?_
        refine KC.region ?_
        refine KT.step rfl rfl (K.move rfl) ?_
        refine KT.step rfl rfl (K.move rfl) ?_
        refine KT.nil ?_
        refine thenK_n ?_
        refine KC.block ?_
        have hir : σ2.length < (σ2 ++ [(⟨[.d (DI 0), .d (DI 0)], 0⟩ : VObj)]).length := by simp
        have hlm := (List.getElem?_eq_some_iff.1 hs.ym).1
        have hs1 : MSt n a (σ2 ++ [⟨[.d (DI 0), .d (DI 0)], 0⟩]) ib im j := hs.keep rfl fun i hi => app_lt hi
        have yr0 : (σ2 ++ [(⟨[.d (DI 0), .d (DI 0)], 0⟩ : VObj)])[σ2.length]? = some ⟨[.d (DI (rateI n a j 0).1), .d (DI (rateI n a j 0).2)], 0⟩ := List.getElem?_concat_length ..
        have l0 := (List.getElem?_eq_some_iff.1 hs.y0).1
        have lb := (List.getElem?_eq_some_iff.1 hs.yb).1
        have hd0 : σ2.length ≠ 0 ∧ σ2.length ≠ ib ∧ σ2.length ≠ im := by omega
        refine KC.weaken (kn' := [(0, .d d), (2, .optr 0 0), (4, .d (DI (n : Nat))), (5, .osl ib 0 (n + 1) 1 (n + 1) false), (7, .optr im 0), (36, .d (rowG n (bestI n a n))), (37, .d (DI (n : Nat))), (8, .d (DB (topI n a j).isSome)), (38, .d (DI (j : Nat))), (9, .d (DI (j : Nat))), (10, .d (DI (bestI n a n j))), (11, .optr σ2.length 0), (45, .d (DI (n : Nat))), (46, .d (DI (0 : Nat)))]) ?_ (by simp [Go.Vm.look, extK])
        generalize σ2.length = ir at hir yr0 hd0 ⊢
        refine KC.loop (fun p : List VObj × Nat => p.1) (fun p => [(0, .d d), (2, .optr 0 0), (4, .d (DI (n : Nat))), (5, .osl ib 0 (n + 1) 1 (n + 1) false), (7, .optr im 0), (36, .d (rowG n (bestI n a n))), (37, .d (DI (n : Nat))), (8, .d (DB (topI n a j).isSome)), (38, .d (DI (j : Nat))), (9, .d (DI (j : Nat))), (10, .d (DI (bestI n a n j))), (11, .optr ir 0), (45, .d (DI (n : Nat))), (46, .d (DI (p.2 : Nat)))]) (fun p => p.2 ≤ n ∧ MSt n a p.1 ib im j ∧ ir < p.1.length ∧ p.1[ir]? = some ⟨[.d (DI (rateI n a j p.2).1), .d (DI (rateI n a j p.2).2)], 0⟩) (fun p => n - p.2) (_, 0) ⟨Nat.zero_le _, hs1, hir, yr0⟩ rfl (by simp [Go.Vm.look, extK]) ?_
        clear yr0 hs1 hir hs
        intro p hp
        obtain ⟨σ2, k⟩ := p
        obtain ⟨hk, hs2, hir, yr⟩ := hp
        simp only at hk hs2 hir yr ⊢
        refine KC.seq ?_
        refine KC.region ?_
        refine KT.step rfl rfl (K.lss rfl rfl) ?_
        refine KT.nil ?_
        refine thenK_n ?_
        refine KC.seq ?_
        refine KC.cond rfl (fun hc47 => ?_) (fun hc47 => ?_)
        · skip
          replace hc47 := of_decide_eq_true hc47
          refine KC.skip ?_
          refine thenK_n ?_
          refine KC.seq ?_
          refine KC.block ?_
          refine KC.seq ?_
          refine KC.region ?_
          refine KT.step rfl rfl (K.move rfl) ?_
          refine KT.step rfl rfl (K.assign rfl) ?_
          refine KT.nil ?_
          refine thenK_n ?_
          refine KC.seq ?_
          refine KC.region ?_
          refine KT.step rfl rfl (K.move rfl) ?_
          refine KT.step rfl rfl (K.move rfl) ?_
          refine KT.step rfl rfl (K.move rfl) ?_
          refine KT.step rfl rfl (K.idxO rfl rfl (by omega) Try.underlying22 Try.size33) ?_
          refine KT.step rfl rfl (K.loadO rfl hs2.yb (by simp) (bRows_get (k := n + 1) (i := k) (by omega)) Try.agg33) ?_
          refine KT.step rfl rfl (K.move rfl) ?_
          refine KT.idxI rfl rfl rfl (rowG_ints _) rfl (by simp; omega) Try.underlying33 Try.size3 fun cs55 => ?_
          rw [get_range]
          refine KT.step rfl rfl (K.load rfl Try.agg3) ?_
          refine KT.step rfl rfl (K.sub rfl rfl (wrap_id (by have := B.b2 (k := n) hn12 j; have := B.b2 (k := k) (by omega) j; omega))) ?_
          refine KT.step rfl rfl (K.move rfl) ?_
          refine KT.step rfl rfl (K.move rfl) ?_
          refine KT.step rfl rfl (K.sub rfl rfl (wrap_id (by omega))) ?_
          refine KT.step rfl rfl (K.buildL rfl (build59n _ _)) ?_
          refine KT.step rfl rfl (K.alloc Try.zero59) ?_
          refine KT.storeH (cs := [.d (DI (bestI n a n j - bestI n a k j)), .d (DI ((n : Int) - k))]) rfl rfl rfl rfl (List.getElem?_concat_length ..) rfl (by simp [Value.cells]) rfl Try.size59 fun σr lr ur vr => ?_
          replace ur := ur.trans (congrArg (fun c => some (VObj.mk c 0)) (splice_all (by simp [Value.cells])))
          simp only [List.length_append, List.length_cons, List.length_nil] at lr
          have vr2 : ∀ i, i < σ2.length → σr[i]? = σ2[i]? := fun i hi => (vr i (by omega)).trans (app_lt hi)
          have hs3 : MSt n a σr ib im j := hs2.keep rfl vr2
          have yr2 : σr[ir]? = some ⟨[.d (DI (rateI n a j k).1), .d (DI (rateI n a j k).2)], 0⟩ := (vr2 _ hir).trans yr
          refine KT.nil ?_
          refine thenK_n ?_
          refine KC.seq ?_
          refine KC.region ?_
          refine KT.step rfl rfl (K.move rfl) ?_
          refine KT.step rfl rfl (K.eql rfl rfl) ?_
          refine KT.step rfl rfl (K.move rfl) ?_
          refine KT.bcase (fun hb64 => ?_) (fun hb64 => ?_)
          · skip
            replace hb64 := of_decide_eq_true hb64
            refine KT.skip rfl rfl ?_
            refine KT.skip rfl rfl ?_
            refine KT.skip rfl rfl ?_
            refine KT.step rfl rfl (K.pick rfl (fun _ => rfl) (fun h => by cases h)) ?_
            refine KT.nil ?_
            refine thenK_n ?_
            refine KC.cond rfl (fun hc68 => ?_) (fun hc68 => ?_)
            · skip
              refine KC.region ?_
              refine KT.step rfl rfl (K.loadOA [DI (bestI n a n j - bestI n a k j), DI ((n : Int) - k)] rfl ur (by decide) Try.agg59 Try.size59 rfl) ?_
              refine KT.storeH (cs := [.d (DI (bestI n a n j - bestI n a k j)), .d (DI ((n : Int) - k))]) rfl rfl rfl rfl yr2 rfl (by simp) rfl Try.size59 fun σs ls us vs => ?_
              replace us := us.trans (congrArg (fun c => some (VObj.mk c 0)) (splice_all (by simp)))
              refine KT.nil ?_
              refine blockK_n ?_
              refine thenK_n ?_
              refine KC.region ?_
              refine KT.step rfl rfl (K.add rfl rfl (wrap_id (by omega))) ?_
              refine KT.step rfl rfl (K.move rfl) ?_
              refine KT.nil ?_
              refine thenK_n ?_
              have er : rateI n a j (k + 1) = (bestI n a n j - bestI n a k j, (n : Int) - k) := rate_step_yes (.inl (by omega))
              refine ⟨(σs, k + 1), ⟨by simp only; omega, ⟨(vs _ (by omega)).trans hs3.y0, (vs _ (by omega)).trans hs3.yb, (vs _ (by omega)).trans hs3.ym⟩, by simp only; omega, by simp only [er]; exact us⟩, by simp only; omega, rfl, by simp [Go.Vm.look, extK]⟩
            · cases hc68
          · skip
            replace hb64 := of_decide_eq_false hb64
            refine KT.step rfl rfl (K.loadOA [DI (bestI n a n j - bestI n a k j), DI ((n : Int) - k)] rfl ur (by decide) Try.agg59 Try.size59 rfl) ?_
            refine KT.step rfl rfl (K.loadOA [DI (rateI n a j k).1, DI (rateI n a j k).2] rfl yr2 (by decide) Try.agg59 Try.size59 rfl) ?_
            refine KT.step rfl rfl (K.call2 rfl rfl plainTry_94 (below94 (prod_bd (by have := B.b2 (k := n) hn12 j; have := B.b2 (k := k) (by omega) j; omega) (B.rate j (show 0 < k by omega) (by omega)).2) (prod_bd (B.rate j (show 0 < k by omega) (by omega)).1 (by omega)))) ?_
            refine KT.step rfl rfl (K.pick rfl (fun h => by cases h) (fun _ => rfl)) ?_
            refine KT.nil ?_
            refine thenK_n ?_
            refine KC.cond rfl (fun hc68 => ?_) (fun hc68 => ?_)
            · skip
              refine KC.region ?_
              refine KT.step rfl rfl (K.loadOA [DI (bestI n a n j - bestI n a k j), DI ((n : Int) - k)] rfl ur (by decide) Try.agg59 Try.size59 rfl) ?_
              refine KT.storeH (cs := [.d (DI (bestI n a n j - bestI n a k j)), .d (DI ((n : Int) - k))]) rfl rfl rfl rfl yr2 rfl (by simp) rfl Try.size59 fun σs ls us vs => ?_
              replace us := us.trans (congrArg (fun c => some (VObj.mk c 0)) (splice_all (by simp)))
              refine KT.nil ?_
              refine blockK_n ?_
              refine thenK_n ?_
              refine KC.region ?_
              refine KT.step rfl rfl (K.add rfl rfl (wrap_id (by omega))) ?_
              refine KT.step rfl rfl (K.move rfl) ?_
              refine KT.nil ?_
              refine thenK_n ?_
              have er : rateI n a j (k + 1) = (bestI n a n j - bestI n a k j, (n : Int) - k) := rate_step_yes (.inr hc68)
              refine ⟨(σs, k + 1), ⟨by simp only; omega, ⟨(vs _ (by omega)).trans hs3.y0, (vs _ (by omega)).trans hs3.yb, (vs _ (by omega)).trans hs3.ym⟩, by simp only; omega, by simp only [er]; exact us⟩, by simp only; omega, rfl, by simp [Go.Vm.look, extK]⟩
            · skip
              refine KC.skip ?_
              refine blockK_n ?_
              refine thenK_n ?_
              refine KC.region ?_
              refine KT.step rfl rfl (K.add rfl rfl (wrap_id (by omega))) ?_
              refine KT.step rfl rfl (K.move rfl) ?_
              refine KT.nil ?_
              refine thenK_n ?_
              have er : rateI n a j (k + 1) = rateI n a j k := rate_step_no (by omega) (by rw [show belowI (bestI n a n j - bestI n a k j, (n : Int) - k) (rateI n a j k) = false from hc68]; simp)
              refine ⟨(σr, k + 1), ⟨by simp only; omega, hs3, by simp only; omega, by simp only [er]; exact yr2⟩, by simp only; omega, rfl, by simp [Go.Vm.look, extK]⟩
        · skip
          replace hc47 := of_decide_eq_false hc47
          refine KC.exit ?_
          refine thenK_x ?_
          refine thenK_x ?_
          refine blockK_e ?_
          refine thenK_n ?_
          refine KC.seq ?_
          refine KC.region ?_
          have hkn2 : k = n := by omega
          rw [hkn2] at yr
          refine KT.step rfl rfl (K.move rfl) ?_
          refine KT.step rfl rfl (K.not rfl) ?_
          refine KT.step rfl rfl (K.move rfl) ?_
          refine KT.bcase (fun hb73 => ?_) (fun hb73 => ?_)
          · skip
            refine KT.skip rfl rfl ?_
            refine KT.skip rfl rfl ?_
            refine KT.skip rfl rfl ?_
            refine KT.step rfl rfl (K.pick rfl (fun _ => rfl) (fun h => by cases h)) ?_
            refine KT.nil ?_
            refine thenK_n ?_
            refine KC.cond rfl (fun hc77 => ?_) (fun hc77 => ?_)
            · skip
              refine KC.region ?_
              refine KT.step rfl rfl (K.loadOA [DI (rateI n a j n).1, DI (rateI n a j n).2] rfl yr (by decide) Try.agg59 Try.size59 rfl) ?_
              refine KT.storeH (cs := [.d (DI (rateI n a j n).1), .d (DI (rateI n a j n).2)]) rfl rfl rfl rfl hs2.ym rfl (by simp) rfl Try.size59 fun σs ls us vs => ?_
              replace us := us.trans (congrArg (fun c => some (VObj.mk c 0)) (splice_all (by simp)))
              refine KT.step rfl rfl (K.assign rfl) ?_
              refine KT.nil ?_
              refine blockK_n ?_
              refine thenK_n ?_
              refine KC.region ?_
              refine KT.step rfl rfl (K.add rfl rfl (wrap_id (by omega))) ?_
              refine KT.step rfl rfl (K.move rfl) ?_
              refine KT.nil ?_
              refine thenK_n ?_
              have etop : topI n a (j + 1) = some (rateI n a j n) := top_yes hlast (.inl (by simpa using hb73))
              have ev : topV n a (j + 1) = rateI n a j n := by unfold topV; rw [etop]; rfl
              refine ⟨(σs, j + 1), ⟨by simp only; omega, (vs _ (by omega)).trans hs2.y0, (vs _ (by omega)).trans hs2.yb, by rw [ev]; exact us⟩, by simp only; omega, rfl, by simp [Go.Vm.look, extK, etop]⟩
            · cases hc77
          · skip
            have hfound : (topI n a j).isSome = true := by simpa using hb73
            refine KT.step rfl rfl (K.loadOA [DI (topV n a j).1, DI (topV n a j).2] rfl hs2.ym (by decide) Try.agg59 Try.size59 rfl) ?_
            refine KT.step rfl rfl (K.loadOA [DI (rateI n a j n).1, DI (rateI n a j n).2] rfl yr (by decide) Try.agg59 Try.size59 rfl) ?_
            refine KT.step rfl rfl (K.call2 rfl rfl plainTry_94 (below94 (prod_bd (B.top hfound).1 (B.rate j hn1 (Nat.le_refl n)).2) (prod_bd (B.rate j hn1 (Nat.le_refl n)).1 (B.top hfound).2))) ?_
            refine KT.step rfl rfl (K.pick rfl (fun h => by cases h) (fun _ => rfl)) ?_
            refine KT.nil ?_
            refine thenK_n ?_
            refine KC.cond rfl (fun hc77 => ?_) (fun hc77 => ?_)
            · skip
              refine KC.region ?_
              refine KT.step rfl rfl (K.loadOA [DI (rateI n a j n).1, DI (rateI n a j n).2] rfl yr (by decide) Try.agg59 Try.size59 rfl) ?_
              refine KT.storeH (cs := [.d (DI (rateI n a j n).1), .d (DI (rateI n a j n).2)]) rfl rfl rfl rfl hs2.ym rfl (by simp) rfl Try.size59 fun σs ls us vs => ?_
              replace us := us.trans (congrArg (fun c => some (VObj.mk c 0)) (splice_all (by simp)))
              refine KT.step rfl rfl (K.assign rfl) ?_
              refine KT.nil ?_
              refine blockK_n ?_
              refine thenK_n ?_
              refine KC.region ?_
              refine KT.step rfl rfl (K.add rfl rfl (wrap_id (by omega))) ?_
              refine KT.step rfl rfl (K.move rfl) ?_
              refine KT.nil ?_
              refine thenK_n ?_
              have etop : topI n a (j + 1) = some (rateI n a j n) := top_yes hlast (.inr hc77)
              have ev : topV n a (j + 1) = rateI n a j n := by unfold topV; rw [etop]; rfl
              refine ⟨(σs, j + 1), ⟨by simp only; omega, (vs _ (by omega)).trans hs2.y0, (vs _ (by omega)).trans hs2.yb, by rw [ev]; exact us⟩, by simp only; omega, rfl, by simp [Go.Vm.look, extK, etop]⟩
            · skip
              refine KC.skip ?_
              refine blockK_n ?_
              refine thenK_n ?_
              refine KC.region ?_
              refine KT.step rfl rfl (K.add rfl rfl (wrap_id (by omega))) ?_
              refine KT.step rfl rfl (K.move rfl) ?_
              refine KT.nil ?_
              refine thenK_n ?_
              have etop := top_no (a := a) (n := n) (j := j) hlast hfound (by rw [show belowI (topV n a j) (rateI n a j n) = false from hc77]; simp)
              refine ⟨(σ2, j + 1), ⟨by simp only; omega, hs2.keep (by unfold topV; rw [etop]) fun _ _ => rfl⟩, by simp only; omega, rfl, by simp [Go.Vm.look, extK, etop]⟩
    · skip
      replace hc39 := of_decide_eq_false hc39
      refine KC.exit ?_
      refine thenK_x ?_
      refine thenK_x ?_
      refine blockK_e ?_
      refine thenK_n ?_
      refine KC.seq ?_
      refine KC.seq ?_
      refine KC.region ?_
      have hjn : j = n := by omega
      rw [hjn] at hs ⊢
      refine KT.step rfl rfl (K.move rfl) ?_
      refine KT.step rfl rfl (K.not rfl) ?_
      refine KT.nil ?_
      refine thenK_n ?_
      refine KC.cond rfl (fun hc81 => ?_) (fun hc81 => ?_)
      · skip
        refine KC.seq ?_
        refine KC.region ?_
        refine KT.step rfl rfl (K.buildL rfl build59z) ?_
        refine KT.storeH (cs := [.d (DI 0), .d (DI 0)]) rfl rfl rfl rfl hs.y0 rfl (by simp) rfl Try.size59 fun σs ls us vs => ?_
        refine KT.step rfl rfl (K.assign rfl) ?_
        refine KT.nil ?_
        refine thenK_n ?_
        refine KC.ret ?_
        refine thenK_r ?_
        have ht : topI n a n = none := by
          cases h : topI n a n with
          | none => rfl
          | some m => rw [h] at hc81; cases hc81
        refine ⟨.inl rfl, _, resK_ct (m := 2) [DI 0, DI 0] rfl rfl us (by decide) Try.agg59 Try.size59 rfl rfl, ?_⟩
        show some _ = _
        unfold meanD meanI
        rw [ht]; rfl
      · skip
        have hfound : (topI n a n).isSome = true := by simpa using hc81
        refine KC.skip ?_
        refine thenK_n ?_
        refine KC.seq ?_
        refine KC.region ?_
        refine KT.step rfl rfl (K.loadOA [DI (topV n a n).1, DI (topV n a n).2] rfl hs.ym (by decide) Try.agg59 Try.size59 rfl) ?_
        refine KT.step rfl rfl (K.call1 rfl plainTry_95 (lowest95 (by have := (B.top hfound).1; omega) (by have := (B.top hfound).2; omega))) ?_
        refine KT.storeH (cs := [.d (DI (lowI (topV n a n)).1), .d (DI (lowI (topV n a n)).2)]) rfl rfl rfl rfl hs.y0 rfl (by simp) rfl Try.size59 fun σs ls us vs => ?_
        refine KT.step rfl rfl (K.assign rfl) ?_
        refine KT.nil ?_
        refine thenK_n ?_
        refine KC.ret ?_
        obtain ⟨m, hm⟩ := Option.isSome_iff_exists.1 hfound
        have hv : topV n a n = m := by unfold topV; rw [hm]; rfl
        refine ⟨.inl rfl, _, resK_ct (m := 2) [DI (lowI (topV n a n)).1, DI (lowI (topV n a n)).2] rfl rfl us (by decide) Try.agg59 Try.size59 rfl rfl, ?_⟩
        show some _ = _
        unfold meanD meanI
        rw [hm, hv]; rfl
end Go.Proofs.Ythbnnffmhnjpjaa

