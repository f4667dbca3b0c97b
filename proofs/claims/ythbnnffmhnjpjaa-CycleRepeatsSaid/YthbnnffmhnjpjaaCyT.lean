/-
  THE PERIOD OF THE POWERS.
-/
import Derived.Test.YthbnnffmhnjpjaaCyQ
namespace Go.Cy
open Go.Vm

/-- The divisor of the lengths of the closed paths of weight 0, up to k arcs. -/
def lenI (n : Nat) (g : Nat → Nat → Int) : Nat → Nat → Nat
  | 0, _ => 0
  | k + 1, i => if pwI n g (k + 1) i i = 0 then Nat.gcd (lenI n g k i) (k + 1) else lenI n g k i
theorem lenI_le (n : Nat) (g : Nat → Nat → Int) (i : Nat) : ∀ k, lenI n g k i ≤ k
  | 0 => Nat.le_refl _
  | k + 1 => by
    unfold lenI
    split
    · exact Nat.gcd_le_right _ (by omega)
    · exact Nat.le_succ_of_le (lenI_le n g i k)
/-- The least common multiple of the first i. -/
def comI (l : Nat → Nat) : Nat → Nat
  | 0 => 1
  | i + 1 => if 0 < l i then comI l i * (l i / Nat.gcd (comI l i) (l i)) else comI l i
theorem comI_pos (l : Nat → Nat) : ∀ i, 1 ≤ comI l i
  | 0 => Nat.le_refl _
  | i + 1 => by
    unfold comI
    split
    · rename_i h
      have h1 := comI_pos l i
      have : 1 ≤ l i / Nat.gcd (comI l i) (l i) := (Nat.le_div_iff_mul_le (Nat.gcd_pos_of_pos_right _ h)).2 (by rw [Nat.one_mul]; exact Nat.gcd_le_right _ h)
      exact Nat.mul_pos h1 this
    · exact comI_pos l i
theorem comI_le {l : Nat → Nat} {B : Nat} (hB : ∀ i, l i ≤ B) (h1 : 1 ≤ B) : ∀ i, comI l i ≤ B ^ i
  | 0 => Nat.le_refl _
  | i + 1 => by
    unfold comI
    rw [Nat.pow_succ]
    split
    · exact Nat.mul_le_mul (comI_le hB h1 i) (Nat.le_trans (Nat.div_le_self _ _) (hB i))
    · exact Nat.le_trans (comI_le hB h1 i) (Nat.le_mul_of_pos_right _ h1)
def cycI (n : Nat) (g : Nat → Nat → Int) : Nat := comI (lenI n g (3 * n)) n
theorem cycI_pos (n : Nat) (g : Nat → Nat → Int) : 1 ≤ cycI n g := comI_pos _ _

def eqK (n : Nat) (g : Nat → Nat → Int) (per k : Nat) : Bool := decide (per + 1 ≤ k) && decide (genM n n (pwI n g k) = genM n n (pwI n g (k - per)))
def repK (n : Nat) (g : Nat → Nat → Int) : Option Nat := (List.range 401).find? fun k => eqK n g (cycI n g) k
theorem repK_some {n : Nat} {g : Nat → Nat → Int} {k : Nat} (hk : k ≤ 400) (h : eqK n g (cycI n g) k = true) (hb : ∀ j, j < k → eqK n g (cycI n g) j = false) : repK n g = some k := by
  unfold repK
  rw [List.find?_range_eq_some]
  exact ⟨h, by simp; omega, fun j hj => by rw [hb j hj]; rfl⟩
theorem repK_none {n : Nat} {g : Nat → Nat → Int} (hb : ∀ j, j ≤ 400 → eqK n g (cycI n g) j = false) : repK n g = none := by
  unfold repK
  rw [List.find?_eq_none]
  intro j hj
  rw [hb j (by have := List.mem_range.1 hj; omega)]; simp
theorem repK_inv {n : Nat} {g : Nat → Nat → Int} {k : Nat} (h : repK n g = some k) : k ≤ 400 ∧ cycI n g + 1 ≤ k ∧ genM n n (pwI n g k) = genM n n (pwI n g (k - cycI n g)) := by
  unfold repK at h
  rw [List.find?_range_eq_some] at h
  obtain ⟨h1, h2, _⟩ := h
  unfold eqK at h1
  simp only [Bool.and_eq_true, decide_eq_true_eq] at h1
  exact ⟨by have := List.mem_range.1 h2; omega, h1.1, h1.2⟩

theorem genM_ext {n : Nat} {f g : Nat → Nat → Int} (h : genM n n f = genM n n g) : ∀ i, i < n → ∀ j, j < n → f i j = g i j := by
  intro i hi j hj
  have h1 : ((genM n n f).getD i []).getD j 0 = ((genM n n g).getD i []).getD j 0 := by rw [h]
  simpa [genM, hi, hj] using h1
theorem genM_eq {n : Nat} {f g : Nat → Nat → Int} (h : ∀ i, i < n → ∀ j, j < n → f i j = g i j) : genM n n f = genM n n g := by
  unfold genM
  refine List.map_congr_left fun i hi => List.map_congr_left fun j hj => h i (by simpa using hi) j (by simpa using hj)
theorem GSt.pow {n : Nat} {g : Nat → Nat → Int} (h : GSt n g) {k : Nat} (hk : k ≤ 1000) : DM (pwI n g k) = tpow n (DM g) k := pw_dec h.gd (by omega) (by omega)
/-- Where the powers have repeated once, they repeat. -/
theorem GSt.repeats {n : Nat} {g : Nat → Nat → Int} (h : GSt n g) {k : Nat} (hr : repK n g = some k) (t : Nat) : tpow n (DM g) (k + t) = tpow n (DM g) (k - cycI n g + t) := by
  obtain ⟨h1, h2, h3⟩ := repK_inv hr
  have e : tpow n (DM g) k = tpow n (DM g) (k - cycI n g) := by
    rw [← h.pow (by omega), ← h.pow (by omega)]
    funext i j
    by_cases hij : i < n ∧ j < n
    · show dec _ = dec _
      rw [genM_ext h3 i hij.1 j hij.2]
    · rw [h.pow (by omega), h.pow (by omega), tpow_sup h.sup _ _ _ hij, tpow_sup h.sup _ _ _ hij]
  rw [tpow_add h.sup, tpow_add h.sup, e]

/-- .. of a small matrix: the powers grow by the mean times the period. -/
theorem Small.repeats {n : Nat} {a : Nat → Nat → Int} (h : Small n a) {p q : Int} (hm : meanI n a = some (p, q)) {k : Nat} (hr : repK n (gainI a p q) = some k) :
    (∃ z : Int, (cycI n (gainI a p q) : Nat) * p = q * z ∧ ∀ t r s, tpow n (DM a) (k + t) r s = (tpow n (DM a) (k - cycI n (gainI a p q) + t) r s).map (· + z)) := by
  have hg := h.gst hm
  obtain ⟨m1, _, m3, _, _, m6, _⟩ := h.mean hm
  obtain ⟨h1, h2, _⟩ := repK_inv hr
  have hq : 0 < q := m3.1
  generalize hc : cycI n (gainI a p q) = c at *
  have key : ∀ t r s, (tpow n (DM a) (k + t) r s).map (fun x => q * x - p * ((k + t : Nat) : Int)) = (tpow n (DM a) (k - c + t) r s).map fun x => q * x - p * ((k - c + t : Nat) : Int) := by
    intro t r s
    rw [← pow_gain hq, ← pow_gain hq, ← m6]
    have := hg.repeats hr t
    rw [hc] at this
    rw [this]
  have key2 : ∀ t r s x, tpow n (DM a) (k - c + t) r s = some x → ∃ y, tpow n (DM a) (k + t) r s = some y ∧ q * (y - x) = (c : Int) * p := by
    intro t r s x hx
    have e := key t r s
    rw [hx] at e
    obtain ⟨y, hy, e2⟩ := Option.map_eq_some_iff.1 e
    refine ⟨y, hy, ?_⟩
    replace e2 : q * y - p * ((k + t : Nat) : Int) = q * x - p * ((k - c + t : Nat) : Int) := e2
    have e3 : ((k + t : Nat) : Int) = ((k - c + t : Nat) : Int) + (c : Int) := by omega
    rw [e3, Int.mul_add] at e2
    rw [Int.mul_sub, Int.mul_comm (c : Int) p]; omega
  obtain ⟨L, c0, hL, hz⟩ := m1.zero
  have hpos : ∀ t, ∃ w, tpow n (gain (DM a) p q) (L * t) c0 c0 = some w := by
    have hs := gain_sup h.sup p q
    have hcn : c0 < n := Classical.byContradiction fun hn => by rw [tpow_sup hs L c0 c0 fun h => hn h.1] at hz; cases hz
    intro t
    induction t with
    | zero => exact ⟨0, by show tone n c0 c0 = _; unfold tone; rw [if_pos ⟨rfl, hcn⟩]⟩
    | succ t ih =>
      obtain ⟨w, hw⟩ := ih
      rw [Nat.mul_succ, tpow_add hs]
      obtain ⟨w', h3, _⟩ := mul_ge (n := n) hcn hw hz
      exact ⟨w', h3⟩
  obtain ⟨w, hw⟩ := hpos k
  rw [pow_gain hq] at hw
  obtain ⟨x, hx, _⟩ := Option.map_eq_some_iff.1 hw
  have hLk : k ≤ L * k := Nat.le_mul_of_pos_left k hL
  obtain ⟨y, _, hy⟩ := key2 (L * k - (k - c)) c0 c0 x (by rw [show k - c + (L * k - (k - c)) = L * k by omega]; exact hx)
  refine ⟨y - x, hy.symm, fun t r s => ?_⟩
  cases h2 : tpow n (DM a) (k - c + t) r s with
  | none =>
    have e := key t r s
    rw [h2] at e
    cases h3 : tpow n (DM a) (k + t) r s with
    | none => rfl
    | some z => rw [h3] at e; cases e
  | some x2 =>
    obtain ⟨y2, h3, h4⟩ := key2 t r s x2 h2
    rw [h3]
    have : q * (y2 - x2) = q * (y - x) := by rw [h4, hy]
    have := Int.eq_of_mul_eq_mul_left (by omega) this
    simp; omega
end Go.Cy
