/-
  EIGENVECTORS: a critical node, and the equation.
-/
import Derived.Test.YthbnnffmhnjpjaaCyN
namespace Go.Cy
open Go.Vm

theorem tpow_left {n : Nat} {A : TM} (hs : Sup n A) (k : Nat) : tpow n A (k + 1) = tmul n A (tpow n A k) := by
  rw [Nat.add_comm, tpow_add hs 1 k, tpow_one hs]
theorem star_zero {n : Nat} {A : TM} (hs : Sup n A) (hp : NP n A) {c : Nat} (hc : c < n) : star n A c c = some 0 := by
  obtain ⟨w, h1, h2⟩ := star_ge hs hp (k := 0) (i := c) (j := c) (w := 0) (by show tone n c c = _; unfold tone; rw [if_pos ⟨rfl, hc⟩])
  obtain ⟨k, hk⟩ := star_some h1
  by_cases h0 : k = 0
  · subst h0
    have hk' : tone n c c = some w := hk
    unfold tone at hk'
    rw [if_pos ⟨rfl, hc⟩] at hk'
    rw [h1, hk']
  · have := hp k c (by omega) w hk
    rw [h1, show w = 0 by omega]
/-- A node on a closed path of weight 0. -/
def Crit (n : Nat) (A : TM) (c : Nat) : Prop := tmul n A (star n A) c c = some 0
theorem crit_of {n : Nat} {A : TM} (hs : Sup n A) (hp : NP n A) {L c : Nat} (hL : 0 < L) (h : tpow n A L c c = some 0) : Crit n A c := by
  obtain ⟨k, rfl⟩ : ∃ k, L = k + 1 := ⟨L - 1, by omega⟩
  rw [tpow_left hs] at h
  obtain ⟨l, x, y, hl, hx, hy, e⟩ := mul_some h
  obtain ⟨y', h1, h2⟩ := star_ge hs hp hy
  obtain ⟨w, h3, h4⟩ := mul_ge (B := star n A) hl hx h1
  have h5 : w ≤ 0 := by
    obtain ⟨l2, x2, y2, hl2, hx2, hy2, rfl⟩ := mul_some h3
    obtain ⟨k2, hk2⟩ := star_some hy2
    obtain ⟨w2, g1, g2⟩ := mul_ge (n := n) (B := tpow n A k2) hl2 hx2 hk2
    rw [← tpow_left hs] at g1
    have := hp (k2 + 1) c (by omega) w2 g1; omega
  show tmul n A (star n A) c c = some 0
  rw [h3, show w = 0 by omega]
theorem crit_ex {n : Nat} {A : TM} {p q : Int} (hs : Sup n A) (h : MeanOf n A p q) : ∃ c, c < n ∧ Crit n (gain A p q) c := by
  obtain ⟨L, c, hL, hc⟩ := h.zero
  have hs' := gain_sup hs p q
  refine ⟨c, Classical.byContradiction fun hn => ?_, crit_of hs' h.np hL hc⟩
  rw [tpow_sup hs' L c c fun h => hn h.1] at hc; cases hc

/-- THE EIGENVECTOR: the best ways to a critical node solve the equation. -/
theorem eig_eq {n : Nat} {A : TM} (hs : Sup n A) (hp : NP n A) {c : Nat} (hc : c < n) (hcr : Crit n A c) (i : Nat) : tmul n A (star n A) i c = star n A i c := by
  have hle : ∀ w, tmul n A (star n A) i c = some w → ∃ w', star n A i c = some w' ∧ w ≤ w' := by
    intro w hw
    obtain ⟨l, x, y, hl, hx, hy, rfl⟩ := mul_some hw
    obtain ⟨k, hk⟩ := star_some hy
    obtain ⟨w2, g1, g2⟩ := mul_ge (n := n) (B := tpow n A k) hl hx hk
    rw [← tpow_left hs] at g1
    obtain ⟨w3, g3, g4⟩ := star_ge hs hp g1
    exact ⟨w3, g3, by omega⟩
  have hge : ∀ w, star n A i c = some w → ∃ w', tmul n A (star n A) i c = some w' ∧ w ≤ w' := by
    intro w hw
    by_cases e : i = c
    · subst e
      rw [star_zero hs hp hc] at hw
      cases hw
      exact ⟨0, hcr, Int.le_refl _⟩
    · obtain ⟨k, hk⟩ := star_some hw
      cases k with
      | zero =>
        have hk' : tone n i c = some w := hk
        unfold tone at hk'
        rw [if_neg (fun h => e h.1)] at hk'; cases hk'
      | succ k =>
        rw [tpow_left hs] at hk
        obtain ⟨l, x, y, hl, hx, hy, rfl⟩ := mul_some hk
        obtain ⟨y', h1, h2⟩ := star_ge hs hp hy
        obtain ⟨w', h3, h4⟩ := mul_ge (B := star n A) hl hx h1
        exact ⟨w', h3, by omega⟩
  cases h1 : tmul n A (star n A) i c with
  | none =>
    cases h2 : star n A i c with
    | none => rfl
    | some w => obtain ⟨w', h3, _⟩ := hge w h2; rw [h1] at h3; cases h3
  | some w =>
    obtain ⟨w', h3, h4⟩ := hle w h1
    obtain ⟨w2, h5, h6⟩ := hge w' h3
    rw [h1] at h5; cases h5
    rw [h3, show w = w' by omega]

/-- The first node whose element of the diagonal is 0. -/
def firstZ (P : Nat → Nat → Int) (n : Nat) : Nat → Nat
  | 0 => 0
  | k + 1 => if P (n - (k + 1)) (n - (k + 1)) = 0 then n - (k + 1) else firstZ P n k
def leastC (P : Nat → Nat → Int) (n : Nat) : Nat := firstZ P n n
theorem firstZ_spec {P : Nat → Nat → Int} {n : Nat} : ∀ {k : Nat}, k ≤ n → (∃ i, n - k ≤ i ∧ i < n ∧ P i i = 0) → firstZ P n k < n ∧ P (firstZ P n k) (firstZ P n k) = 0
  | 0, _, h => by obtain ⟨i, h1, h2, _⟩ := h; omega
  | k + 1, hk, h => by
    unfold firstZ
    split
    · rename_i hz; exact ⟨by omega, hz⟩
    · rename_i hz
      obtain ⟨i, h1, h2, h3⟩ := h
      refine firstZ_spec (by omega) ⟨i, ?_, h2, h3⟩
      by_cases e : i = n - (k + 1)
      · subst e; exact absurd h3 hz
      · omega
theorem leastC_yes {P : Nat → Nat → Int} {n i : Nat} (hi : i < n) (h : ∀ j, j < i → P j j ≠ 0) (h0 : P i i = 0) : leastC P n = i := by
  have key : ∀ k, k ≤ n → n - k ≤ i → firstZ P n k = i := by
    intro k
    induction k with
    | zero => intro _ h; omega
    | succ k ih =>
      intro hk hi'
      unfold firstZ
      by_cases e : n - (k + 1) = i
      · rw [e, if_pos h0]
      · rw [if_neg (h _ (by omega))]
        exact ih (by omega) (by omega)
  exact key n (Nat.le_refl _) (by omega)
theorem leastC_no {P : Nat → Nat → Int} {n : Nat} (h : ∀ j, j < n → P j j ≠ 0) : leastC P n = 0 := by
  have key : ∀ k, k ≤ n → firstZ P n k = 0 := by
    intro k
    induction k with
    | zero => intro _; rfl
    | succ k ih =>
      intro hk
      unfold firstZ
      rw [if_neg (h _ (by omega))]
      exact ih (by omega)
  exact key n (Nat.le_refl _)

/-- Where x is first. -/
def idxI : List Int → Int → Int → Int
  | [], _, _ => -1
  | y :: l, x, i => if x = y then i else idxI l x (i + 1)
theorem idxI_drop {l : List Int} {i : Nat} (hi : i < l.length) (x j : Int) : idxI (l.drop i) x j = if x = l[i] then j else idxI (l.drop (i + 1)) x (j + 1) := by
  rw [List.drop_eq_getElem_cons hi]; rfl
theorem idxI_mem : ∀ (l : List Int) (x i : Int), 0 ≤ i → (0 ≤ idxI l x i ↔ x ∈ l)
  | [], x, i, _ => by simp [idxI]
  | y :: l, x, i, h => by
    unfold idxI
    split
    · rename_i e; subst e; simp [h]
    · rename_i e
      rw [idxI_mem l x (i + 1) (by omega)]; simp [e]

/-- What is known of a gain matrix. -/
structure GSt (n : Nat) (g : Nat → Nat → Int) : Prop where
  n1 : 1 ≤ n
  n6 : n ≤ 6
  gd : GoodM 12000 g
  sup : Sup n (DM g)
  np : NP n (DM g)
  zero : ∃ L c, 0 < L ∧ tpow n (DM g) L c c = some 0
theorem Small.gst {n : Nat} {a : Nat → Nat → Int} (h : Small n a) {p q : Int} (hm : meanI n a = some (p, q)) : GSt n (gainI a p q) := by
  obtain ⟨h1, _, _, _, h5, h6, h7⟩ := h.mean hm
  exact ⟨h.n1, h.n6, h5, h7, by rw [h6]; exact h1.np, by rw [h6]; exact h1.zero⟩
theorem GSt.ways {n : Nat} {g : Nat → Nat → Int} (h : GSt n g) : DM (waysI n g) = star n (DM g) := ways_dec h.gd (by omega) h.sup (by omega) (by have := h.n6; omega)
theorem GSt.wgood {n : Nat} {g : Nat → Nat → Int} (h : GSt n g) : GoodM 60000 (waysI n g) := fun i j => (ways_good h.gd (by omega) i j).mono (by have := h.n6; omega)
theorem GSt.prod {n : Nat} {g : Nat → Nat → Int} (h : GSt n g) : DM (prodI n g (waysI n g)) = tmul n (DM g) (star n (DM g)) := by
  rw [prod_dec h.gd h.wgood (by omega), h.ways]
theorem GSt.crit {n : Nat} {g : Nat → Nat → Int} (h : GSt n g) : leastC (prodI n g (waysI n g)) n < n ∧ Crit n (DM g) (leastC (prodI n g (waysI n g)) n) := by
  obtain ⟨L, c, hL, hc⟩ := h.zero
  have hcn : c < n := Classical.byContradiction fun hn => by rw [tpow_sup h.sup L c c fun h => hn h.1] at hc; cases hc
  have key : ∀ i, Crit n (DM g) i ↔ prodI n g (waysI n g) i i = 0 := by
    intro i
    unfold Crit
    rw [← h.prod]
    show dec _ = some 0 ↔ _
    constructor
    · intro e
      unfold dec at e
      split at e
      · cases e
      · simpa using e
    · intro e; rw [e]; exact dec_some (by decide)
  have h1 := (key c).1 (crit_of h.sup h.np hL hc)
  obtain ⟨h2, h3⟩ := firstZ_spec (P := prodI n g (waysI n g)) (n := n) (k := n) (Nat.le_refl _) ⟨c, by omega, hcn, h1⟩
  exact ⟨h2, (key _).2 h3⟩
/-- .. in numbers. -/
theorem GSt.eq {n : Nat} {g : Nat → Nat → Int} (h : GSt n g) {c : Nat} (hc : c < n) (hcr : Crit n (DM g) c) (hcon : ∀ i, i < n → waysI n g i c ≠ Nv) {i : Nat} (hi : i < n) :
    (∀ j, j < n → g i j ≠ Nv → g i j + waysI n g j c ≤ waysI n g i c) ∧ ∃ j, j < n ∧ g i j ≠ Nv ∧ g i j + waysI n g j c = waysI n g i c := by
  have e := eig_eq h.sup h.np hc hcr i
  have hS : ∀ j, j < n → star n (DM g) j c = some (waysI n g j c) := fun j hj => by
    rw [← h.ways]; exact dec_some (hcon j hj)
  rw [hS i hi] at e
  constructor
  · intro j hj hne
    obtain ⟨w, h1, h2⟩ := mul_ge (n := n) (A := DM g) (i := i) hj (dec_some hne) (hS j hj)
    rw [e] at h1; cases h1; exact h2
  · obtain ⟨l, x, y, hl, hx, hy, he⟩ := mul_some e
    rw [hS l hl] at hy
    cases hy
    have hx' : dec (g i l) = some x := hx
    unfold dec at hx'
    split at hx'
    · cases hx'
    · rename_i hne
      cases hx'
      exact ⟨l, hl, hne, by omega⟩
end Go.Cy
