import Derived.Test.YthbnnffmhnjpjaaCyN
/-
  EIGENVECTORS: a critical node, and the equation.
-/
namespace Go.Cy
open Go.Vm

theorem tpow_left {n : Nat} {A : TM} (hs : Sup n A) (k : Nat) : tpow n A (k + 1) = tmul n A (tpow n A k) := by
  rw [Nat.add_comm, tpow_add hs 1 k, tpow_one hs]
theorem star_zero {n : Nat} {A : TM} (hs : Sup n A) (hp : NP n A) {c : Nat} (hc : c < n) : star n A c c = some 0 := by
  obtain ⟨w, h1, h2⟩ := star_ge hs hp (k := 0) (i := c) (j := c) (w := 0) (by show tone n c c = _; unfold tone; rw [if_pos ⟨rfl, hc⟩])
  obtain ⟨k, hk⟩ := star_some h1
  by_cases h0 : k = 0
  · subst h0
    have hk' : tone n c c = some w := hk
    unfold tone at hk'
    rw [if_pos ⟨rfl, hc⟩] at hk'
    rw [h1, hk']
  · have := hp k c (by omega) w hk
    rw [h1, show w = 0 by omega]
/-- A node on a closed path of weight 0. -/
def Crit (n : Nat) (A : TM) (c : Nat) : Prop := tmul n A (star n A) c c = some 0
theorem crit_of {n : Nat} {A : TM} (hs : Sup n A) (hp : NP n A) {L c : Nat} (hL : 0 < L) (h : tpow n A L c c = some 0) : Crit n A c := by
  obtain ⟨k, rfl⟩ : ∃ k, L = k + 1 := ⟨L - 1, by omega⟩
  rw [tpow_left hs] at h
  obtain ⟨l, x, y, hl, hx, hy, e⟩ := mul_some h
  obtain ⟨y', h1, h2⟩ := star_ge hs hp hy
  obtain ⟨w, h3, h4⟩ := mul_ge (B := star n A) hl hx h1
  have h5 : w ≤ 0 := by
    obtain ⟨l2, x2, y2, hl2, hx2, hy2, rfl⟩ := mul_some h3
    obtain ⟨k2, hk2⟩ := star_some hy2
    obtain ⟨w2, g1, g2⟩ := mul_ge (n := n) (B := tpow n A k2) hl2 hx2 hk2
    rw [← tpow_left hs] at g1
    have := hp (k2 + 1) c (by omega) w2 g1; omega
  show tmul n A (star n A) c c = some 0
  rw [h3, show w = 0 by omega]
theorem crit_ex {n : Nat} {A : TM} {p q : Int} (hs : Sup n A) (h : MeanOf n A p q) : ∃ c, c < n ∧ Crit n (gain A p q) c := by
  obtain ⟨L, c, hL, hc⟩ := h.zero
  have hs' := gain_sup hs p q
  refine ⟨c, Classical.byContradiction fun hn => ?_, crit_of hs' h.np hL hc⟩
  rw [tpow_sup hs' L c c fun h => hn h.1] at hc; cases hc

/-- THE EIGENVECTOR: the best ways to a critical node solve the equation. -/
theorem eig_eq {n : Nat} {A : TM} (hs : Sup n A) (hp : NP n A) {c : Nat} (hc : c < n) (hcr : Crit n A c) (i : Nat) : tmul n A (star n A) i c = star n A i c := by
  have hle : ∀ w, tmul n A (star n A) i c = some w → ∃ w', star n A i c = some w' ∧ w ≤ w' := by
    intro w hw
    obtain ⟨l, x, y, hl, hx, hy, rfl⟩ := mul_some hw
    obtain ⟨k, hk⟩ := star_some hy
    obtain ⟨w2, g1, g2⟩ := mul_ge (n := n) (B := tpow n A k) hl hx hk
    rw [← tpow_left hs] at g1
    obtain ⟨w3, g3, g4⟩ := star_ge hs hp g1
    exact ⟨w3, g3, by omega⟩
  have hge : ∀ w, star n A i c = some w → ∃ w', tmul n A (star n A) i c = some w' ∧ w ≤ w' := by
    intro w hw
    by_cases e : i = c
    · subst e
      rw [star_zero hs hp hc] at hw
      cases hw
      exact ⟨0, hcr, Int.le_refl _⟩
    · obtain ⟨k, hk⟩ := star_some hw
      cases k with
      | zero =>
        have hk' : tone n i c = some w := hk
        unfold tone at hk'
        rw [if_neg (fun h => e h.1)] at hk'; cases hk'
      | succ k =>
        rw [tpow_left hs] at hk
        obtain ⟨l, x, y, hl, hx, hy, rfl⟩ := mul_some hk
        obtain ⟨y', h1, h2⟩ := star_ge hs hp hy
        obtain ⟨w', h3, h4⟩ := mul_ge (B := star n A) hl hx h1
        exact ⟨w', h3, by omega⟩
  cases h1 : tmul n A (star n A) i c with
  | none =>
    cases h2 : star n A i c with
    | none => rfl
    | some w => obtain ⟨w', h3, _⟩ := hge w h2; rw [h1] at h3; cases h3
  | some w =>
    obtain ⟨w', h3, h4⟩ := hle w h1
    obtain ⟨w2, h5, h6⟩ := hge w' h3
    rw [h1] at h5; cases h5
    rw [h3, show w = w' by omega]

/-- The first node whose element of the diagonal is 0. -/
def firstZ (P : Nat → Nat → Int) (n : Nat) : Nat → Nat
  | 0 => 0
  | k + 1 => if P (n - (k + 1)) (n - (k + 1)) = 0 then n - (k + 1) else firstZ P n k
def leastC (P : Nat → Nat → Int) (n : Nat) : Nat := firstZ P n n
theorem firstZ_spec {P : Nat → Nat → Int} {n : Nat} : ∀ {k : Nat}, k ≤ n → (∃ i, n - k ≤ i ∧ i < n ∧ P i i = 0) → firstZ P n k < n ∧ P (firstZ P n k) (firstZ P n k) = 0
  | 0, _, h => by obtain ⟨i, h1, h2, _⟩ := h; omega
  | k + 1, hk, h => by
    unfold firstZ
    split
    · rename_i hz; exact ⟨by omega, hz⟩
    · rename_i hz
      obtain ⟨i, h1, h2, h3⟩ := h
      refine firstZ_spec (by omega) ⟨i, ?_, h2, h3⟩
      by_cases e : i = n - (k + 1)
      · subst e; exact absurd h3 hz
      · omega
theorem leastC_yes {P : Nat → Nat → Int} {n i : Nat} (hi : i < n) (h : ∀ j, j < i → P j j ≠ 0) (h0 : P i i = 0) : leastC P n = i := by
  have key : ∀ k, k ≤ n → n - k ≤ i → firstZ P n k = i := by
    intro k
    induction k with
    | zero => intro _ h; omega
    | succ k ih =>
      intro hk hi'
      unfold firstZ
      by_cases e : n - (k + 1) = i
      · rw [e, if_pos h0]
      · rw [if_neg (h _ (by omega))]
        exact ih (by omega) (by omega)
  exact key n (Nat.le_refl _) (by omega)
theorem leastC_no {P : Nat → Nat → Int} {n : Nat} (h : ∀ j, j < n → P j j ≠ 0) : leastC P n = 0 := by
  have key : ∀ k, k ≤ n → firstZ P n k = 0 := by
    intro k
    induction k with
    | zero => intro _; rfl
    | succ k ih =>
      intro hk
      unfold firstZ
      rw [if_neg (h _ (by omega))]
      exact ih (by omega)
  exact key n (Nat.le_refl _)

/-- Where x is first. -/
def idxI : List Int → Int → Int → Int
  | [], _, _ => -1
  | y :: l, x, i => if x = y then i else idxI l x (i + 1)
theorem idxI_drop {l : List Int} {i : Nat} (hi : i < l.length) (x j : Int) : idxI (l.drop i) x j = if x = l[i] then j else idxI (l.drop (i + 1)) x (j + 1) := by
  rw [List.drop_eq_getElem_cons hi]; rfl
theorem idxI_mem : ∀ (l : List Int) (x i : Int), 0 ≤ i → (0 ≤ idxI l x i ↔ x ∈ l)
  | [], x, i, _ => by simp [idxI]
  | y :: l, x, i, h => by
    unfold idxI
    split
    · rename_i e; subst e; simp [h]
    · rename_i e
      rw [idxI_mem l x (i + 1) (by omega)]; simp [e]

/-- What is known of a gain matrix. -/
structure GSt (n : Nat) (g : Nat → Nat → Int) : Prop where
  n1 : 1 ≤ n
  n6 : n ≤ 6
  gd : GoodM 12000 g
  sup : Sup n (DM g)
  np : NP n (DM g)
  zero : ∃ L c, 0 < L ∧ tpow n (DM g) L c c = some 0
theorem Small.gst {n : Nat} {a : Nat → Nat → Int} (h : Small n a) {p q : Int} (hm : meanI n a = some (p, q)) : GSt n (gainI a p q) := by
  obtain ⟨h1, _, _, _, h5, h6, h7⟩ := h.mean hm
  exact ⟨h.n1, h.n6, h5, h7, by rw [h6]; exact h1.np, by rw [h6]; exact h1.zero⟩
theorem GSt.ways {n : Nat} {g : Nat → Nat → Int} (h : GSt n g) : DM (waysI n g) = star n (DM g) := ways_dec h.gd (by omega) h.sup (by omega) (by have := h.n6; omega)
theorem GSt.wgood {n : Nat} {g : Nat → Nat → Int} (h : GSt n g) : GoodM 60000 (waysI n g) := fun i j => (ways_good h.gd (by omega) i j).mono (by have := h.n6; omega)
theorem GSt.prod {n : Nat} {g : Nat → Nat → Int} (h : GSt n g) : DM (prodI n g (waysI n g)) = tmul n (DM g) (star n (DM g)) := by
  rw [prod_dec h.gd h.wgood (by omega), h.ways]
theorem GSt.crit {n : Nat} {g : Nat → Nat → Int} (h : GSt n g) : leastC (prodI n g (waysI n g)) n < n ∧ Crit n (DM g) (leastC (prodI n g (waysI n g)) n) := by
  obtain ⟨L, c, hL, hc⟩ := h.zero
  have hcn : c < n := Classical.byContradiction fun hn => by rw [tpow_sup h.sup L c c fun h => hn h.1] at hc; cases hc
  have key : ∀ i, Crit n (DM g) i ↔ prodI n g (waysI n g) i i = 0 := by
    intro i
    unfold Crit
    rw [← h.prod]
    show dec _ = some 0 ↔ _
    constructor
    · intro e
      unfold dec at e
      split at e
      · cases e
      · simpa using e
    · intro e; rw [e]; exact dec_some (by decide)
  have h1 := (key c).1 (crit_of h.sup h.np hL hc)
  obtain ⟨h2, h3⟩ := firstZ_spec (P := prodI n g (waysI n g)) (n := n) (k := n) (Nat.le_refl _) ⟨c, by omega, hcn, h1⟩
  exact ⟨h2, (key _).2 h3⟩
/-- .. in numbers. -/
theorem GSt.eq {n : Nat} {g : Nat → Nat → Int} (h : GSt n g) {c : Nat} (hc : c < n) (hcr : Crit n (DM g) c) (hcon : ∀ i, i < n → waysI n g i c ≠ Nv) {i : Nat} (hi : i < n) :
    (∀ j, j < n → g i j ≠ Nv → g i j + waysI n g j c ≤ waysI n g i c) ∧ ∃ j, j < n ∧ g i j ≠ Nv ∧ g i j + waysI n g j c = waysI n g i c := by
  have e := eig_eq h.sup h.np hc hcr i
  have hS : ∀ j, j < n → star n (DM g) j c = some (waysI n g j c) := fun j hj => by
    rw [← h.ways]; exact dec_some (hcon j hj)
  rw [hS i hi] at e
  constructor
  · intro j hj hne
    obtain ⟨w, h1, h2⟩ := mul_ge (n := n) (A := DM g) (i := i) hj (dec_some hne) (hS j hj)
    rw [e] at h1; cases h1; exact h2
  · obtain ⟨l, x, y, hl, hx, hy, he⟩ := mul_some e
    rw [hS l hl] at hy
    cases hy
    have hx' : dec (g i l) = some x := hx
    unfold dec at hx'
    split at hx'
    · cases hx'
    · rename_i hne
      cases hx'
      exact ⟨l, hl, hne, by omega⟩
end Go.Cy
namespace Go.Cy
open Go.Vm

/-- The divisor of the lengths of the closed paths of weight 0, up to k arcs. -/
def lenI (n : Nat) (g : Nat → Nat → Int) : Nat → Nat → Nat
  | 0, _ => 0
  | k + 1, i => if pwI n g (k + 1) i i = 0 then Nat.gcd (lenI n g k i) (k + 1) else lenI n g k i
theorem lenI_le (n : Nat) (g : Nat → Nat → Int) (i : Nat) : ∀ k, lenI n g k i ≤ k
  | 0 => Nat.le_refl _
  | k + 1 => by
    unfold lenI
    split
    · exact Nat.gcd_le_right _ (by omega)
    · exact Nat.le_succ_of_le (lenI_le n g i k)
/-- The least common multiple of the first i. -/
def comI (l : Nat → Nat) : Nat → Nat
  | 0 => 1
  | i + 1 => if 0 < l i then comI l i * (l i / Nat.gcd (comI l i) (l i)) else comI l i
theorem comI_pos (l : Nat → Nat) : ∀ i, 1 ≤ comI l i
  | 0 => Nat.le_refl _
  | i + 1 => by
    unfold comI
    split
    · rename_i h
      have h1 := comI_pos l i
      have : 1 ≤ l i / Nat.gcd (comI l i) (l i) := (Nat.le_div_iff_mul_le (Nat.gcd_pos_of_pos_right _ h)).2 (by rw [Nat.one_mul]; exact Nat.gcd_le_right _ h)
      exact Nat.mul_pos h1 this
    · exact comI_pos l i
theorem comI_le {l : Nat → Nat} {B : Nat} (hB : ∀ i, l i ≤ B) (h1 : 1 ≤ B) : ∀ i, comI l i ≤ B ^ i
  | 0 => Nat.le_refl _
  | i + 1 => by
    unfold comI
    rw [Nat.pow_succ]
    split
    · exact Nat.mul_le_mul (comI_le hB h1 i) (Nat.le_trans (Nat.div_le_self _ _) (hB i))
    · exact Nat.le_trans (comI_le hB h1 i) (Nat.le_mul_of_pos_right _ h1)
def cycI (n : Nat) (g : Nat → Nat → Int) : Nat := comI (lenI n g (3 * n)) n
theorem cycI_pos (n : Nat) (g : Nat → Nat → Int) : 1 ≤ cycI n g := comI_pos _ _

def eqK (n : Nat) (g : Nat → Nat → Int) (per k : Nat) : Bool := decide (per + 1 ≤ k) && decide (genM n n (pwI n g k) = genM n n (pwI n g (k - per)))
def repK (n : Nat) (g : Nat → Nat → Int) : Option Nat := (List.range 401).find? fun k => eqK n g (cycI n g) k
theorem repK_some {n : Nat} {g : Nat → Nat → Int} {k : Nat} (hk : k ≤ 400) (h : eqK n g (cycI n g) k = true) (hb : ∀ j, j < k → eqK n g (cycI n g) j = false) : repK n g = some k := by
  unfold repK
  rw [List.find?_range_eq_some]
  exact ⟨h, by simp; omega, fun j hj => by rw [hb j hj]; rfl⟩
theorem repK_none {n : Nat} {g : Nat → Nat → Int} (hb : ∀ j, j ≤ 400 → eqK n g (cycI n g) j = false) : repK n g = none := by
  unfold repK
  rw [List.find?_eq_none]
  intro j hj
  rw [hb j (by have := List.mem_range.1 hj; omega)]; simp
theorem repK_inv {n : Nat} {g : Nat → Nat → Int} {k : Nat} (h : repK n g = some k) : k ≤ 400 ∧ cycI n g + 1 ≤ k ∧ genM n n (pwI n g k) = genM n n (pwI n g (k - cycI n g)) := by
  unfold repK at h
  rw [List.find?_range_eq_some] at h
  obtain ⟨h1, h2, _⟩ := h
  unfold eqK at h1
  simp only [Bool.and_eq_true, decide_eq_true_eq] at h1
  exact ⟨by have := List.mem_range.1 h2; omega, h1.1, h1.2⟩

theorem genM_ext {n : Nat} {f g : Nat → Nat → Int} (h : genM n n f = genM n n g) : ∀ i, i < n → ∀ j, j < n → f i j = g i j := by
  intro i hi j hj
  have h1 : ((genM n n f).getD i []).getD j 0 = ((genM n n g).getD i []).getD j 0 := by rw [h]
  simpa [genM, hi, hj] using h1
theorem genM_eq {n : Nat} {f g : Nat → Nat → Int} (h : ∀ i, i < n → ∀ j, j < n → f i j = g i j) : genM n n f = genM n n g := by
  unfold genM
  refine List.map_congr_left fun i hi => List.map_congr_left fun j hj => h i (by simpa using hi) j (by simpa using hj)
theorem GSt.pow {n : Nat} {g : Nat → Nat → Int} (h : GSt n g) {k : Nat} (hk : k ≤ 1000) : DM (pwI n g k) = tpow n (DM g) k := pw_dec h.gd (by omega) (by omega)
/-- Where the powers have repeated once, they repeat. -/
theorem GSt.repeats {n : Nat} {g : Nat → Nat → Int} (h : GSt n g) {k : Nat} (hr : repK n g = some k) (t : Nat) : tpow n (DM g) (k + t) = tpow n (DM g) (k - cycI n g + t) := by
  obtain ⟨h1, h2, h3⟩ := repK_inv hr
  have e : tpow n (DM g) k = tpow n (DM g) (k - cycI n g) := by
    rw [← h.pow (by omega), ← h.pow (by omega)]
    funext i j
    by_cases hij : i < n ∧ j < n
    · show dec _ = dec _
      rw [genM_ext h3 i hij.1 j hij.2]
    · rw [h.pow (by omega), h.pow (by omega), tpow_sup h.sup _ _ _ hij, tpow_sup h.sup _ _ _ hij]
  rw [tpow_add h.sup, tpow_add h.sup, e]

/-- .. of a small matrix: the powers grow by the mean times the period. -/
theorem Small.repeats {n : Nat} {a : Nat → Nat → Int} (h : Small n a) {p q : Int} (hm : meanI n a = some (p, q)) {k : Nat} (hr : repK n (gainI a p q) = some k) :
    (∃ z : Int, (cycI n (gainI a p q) : Nat) * p = q * z ∧ ∀ t r s, tpow n (DM a) (k + t) r s = (tpow n (DM a) (k - cycI n (gainI a p q) + t) r s).map (· + z)) := by
  have hg := h.gst hm
  obtain ⟨m1, _, m3, _, _, m6, _⟩ := h.mean hm
  obtain ⟨h1, h2, _⟩ := repK_inv hr
  have hq : 0 < q := m3.1
  generalize hc : cycI n (gainI a p q) = c at *
  have key : ∀ t r s, (tpow n (DM a) (k + t) r s).map (fun x => q * x - p * ((k + t : Nat) : Int)) = (tpow n (DM a) (k - c + t) r s).map fun x => q * x - p * ((k - c + t : Nat) : Int) := by
    intro t r s
    rw [← pow_gain hq, ← pow_gain hq, ← m6]
    have := hg.repeats hr t
    rw [hc] at this
    rw [this]
  have key2 : ∀ t r s x, tpow n (DM a) (k - c + t) r s = some x → ∃ y, tpow n (DM a) (k + t) r s = some y ∧ q * (y - x) = (c : Int) * p := by
    intro t r s x hx
    have e := key t r s
    rw [hx] at e
    obtain ⟨y, hy, e2⟩ := Option.map_eq_some_iff.1 e
    refine ⟨y, hy, ?_⟩
    replace e2 : q * y - p * ((k + t : Nat) : Int) = q * x - p * ((k - c + t : Nat) : Int) := e2
    have e3 : ((k + t : Nat) : Int) = ((k - c + t : Nat) : Int) + (c : Int) := by omega
    rw [e3, Int.mul_add] at e2
    rw [Int.mul_sub, Int.mul_comm (c : Int) p]; omega
  obtain ⟨L, c0, hL, hz⟩ := m1.zero
  have hpos : ∀ t, ∃ w, tpow n (gain (DM a) p q) (L * t) c0 c0 = some w := by
    have hs := gain_sup h.sup p q
    have hcn : c0 < n := Classical.byContradiction fun hn => by rw [tpow_sup hs L c0 c0 fun h => hn h.1] at hz; cases hz
    intro t
    induction t with
    | zero => exact ⟨0, by show tone n c0 c0 = _; unfold tone; rw [if_pos ⟨rfl, hcn⟩]⟩
    | succ t ih =>
      obtain ⟨w, hw⟩ := ih
      rw [Nat.mul_succ, tpow_add hs]
      obtain ⟨w', h3, _⟩ := mul_ge (n := n) hcn hw hz
      exact ⟨w', h3⟩
  obtain ⟨w, hw⟩ := hpos k
  rw [pow_gain hq] at hw
  obtain ⟨x, hx, _⟩ := Option.map_eq_some_iff.1 hw
  have hLk : k ≤ L * k := Nat.le_mul_of_pos_left k hL
  obtain ⟨y, _, hy⟩ := key2 (L * k - (k - c)) c0 c0 x (by rw [show k - c + (L * k - (k - c)) = L * k by omega]; exact hx)
  refine ⟨y - x, hy.symm, fun t r s => ?_⟩
  cases h2 : tpow n (DM a) (k - c + t) r s with
  | none =>
    have e := key t r s
    rw [h2] at e
    cases h3 : tpow n (DM a) (k + t) r s with
    | none => rfl
    | some z => rw [h3] at e; cases e
  | some x2 =>
    obtain ⟨y2, h3, h4⟩ := key2 t r s x2 h2
    rw [h3]
    have : q * (y2 - x2) = q * (y - x) := by rw [h4, hy]
    have := Int.eq_of_mul_eq_mul_left (by omega) this
    simp; omega
end Go.Cy

