/-
  Determinants by the first and by the last row; Hermite forms read in two ways. No program in it.
-/
import Derived.Test.YtlomhajhoecoiaaVmX
namespace Go.Det

def sumZ (f : Nat → Int) : Nat → Int
  | 0 => 0
  | n + 1 => sumZ f n + f n
theorem sumZ_congr {f g : Nat → Int} : ∀ n, (∀ i, i < n → f i = g i) → sumZ f n = sumZ g n
  | 0, _ => rfl
  | n + 1, h => by simp only [sumZ]; rw [sumZ_congr n (fun i hi => h i (by omega)), h n (by omega)]
def drow (rows : List (List Int)) (j : Nat) : List (List Int) := (rows.drop 1).map fun r => r.eraseIdx j
/-- The determinant by the first row. -/
def detP : Nat → List (List Int) → Int
  | 0, _ => 1
  | n + 1, rows => sumZ (fun j => if j % 2 = 1 then 0 - detP n (drow rows j) * (rows.headD []).getD j 0 else detP n (drow rows j) * (rows.headD []).getD j 0) (rows.headD []).length
/-- The determinant of the first k rows and some columns by the last row. -/
def detR (a : List (List Int)) : Nat → List Nat → Int
  | 0, _ => 1
  | k + 1, cols => sumZ (fun q => if (k + 1 + q) % 2 = 0 then 0 - (a.getD k []).getD (cols.getD q 0) 0 * detR a k (cols.eraseIdx q) else (a.getD k []).getD (cols.getD q 0) 0 * detR a k (cols.eraseIdx q)) cols.length

theorem len1 {l : List Int} (h : l.length = 1) : ∃ a, l = [a] := by
  match l, h with
  | [a], _ => exact ⟨a, rfl⟩
theorem len2 {l : List Int} (h : l.length = 2) : ∃ a b, l = [a, b] := by
  match l, h with
  | [a, b], _ => exact ⟨a, b, rfl⟩
theorem len3 {l : List Int} (h : l.length = 3) : ∃ a b c, l = [a, b, c] := by
  match l, h with
  | [a, b, c], _ => exact ⟨a, b, c, rfl⟩
theorem len4 {l : List Int} (h : l.length = 4) : ∃ a b c d, l = [a, b, c, d] := by
  match l, h with
  | [a, b, c, d], _ => exact ⟨a, b, c, d, rfl⟩
theorem len5 {l : List Int} (h : l.length = 5) : ∃ a b c d e, l = [a, b, c, d, e] := by
  match l, h with
  | [a, b, c, d, e], _ => exact ⟨a, b, c, d, e, rfl⟩

theorem det1 {m : List (List Int)} (hm : m.length = 1) (hr : ∀ r ∈ m, r.length = 1) : detP 1 m = detR m 1 (List.range 1) := by
  match m, hm with
  | [r], _ =>
    obtain ⟨a, rfl⟩ := len1 (hr r (by simp))
    simp [detP, detR, sumZ, drow, List.range_succ]
theorem det2 {m : List (List Int)} (hm : m.length = 2) (hr : ∀ r ∈ m, r.length = 2) : detP 2 m = detR m 2 (List.range 2) := by
  match m, hm with
  | [r, s], _ =>
    obtain ⟨a, b, rfl⟩ := len2 (hr r (by simp))
    obtain ⟨c, d, rfl⟩ := len2 (hr s (by simp))
    simp [detP, detR, sumZ, drow, List.range_succ]
    grind
theorem det3 {m : List (List Int)} (hm : m.length = 3) (hr : ∀ r ∈ m, r.length = 3) : detP 3 m = detR m 3 (List.range 3) := by
  match m, hm with
  | [r, s, t], _ =>
    obtain ⟨a, b, c, rfl⟩ := len3 (hr r (by simp))
    obtain ⟨d, e, f, rfl⟩ := len3 (hr s (by simp))
    obtain ⟨g, h, i, rfl⟩ := len3 (hr t (by simp))
    simp [detP, detR, sumZ, drow, List.range_succ]
    grind
theorem det4 {m : List (List Int)} (hm : m.length = 4) (hr : ∀ r ∈ m, r.length = 4) : detP 4 m = detR m 4 (List.range 4) := by
  match m, hm with
  | [r, s, t, u], _ =>
    obtain ⟨a, b, c, d, rfl⟩ := len4 (hr r (by simp))
    obtain ⟨e, f, g, h, rfl⟩ := len4 (hr s (by simp))
    obtain ⟨i, j, k, l, rfl⟩ := len4 (hr t (by simp))
    obtain ⟨o, p, q, w, rfl⟩ := len4 (hr u (by simp))
    simp [detP, detR, sumZ, drow, List.range_succ]
    grind
theorem det5 {m : List (List Int)} (hm : m.length = 5) (hr : ∀ r ∈ m, r.length = 5) : detP 5 m = detR m 5 (List.range 5) := by
  match m, hm with
  | [r, s, t, u, v], _ =>
    obtain ⟨a1, a2, a3, a4, a5, rfl⟩ := len5 (hr r (by simp))
    obtain ⟨b1, b2, b3, b4, b5, rfl⟩ := len5 (hr s (by simp))
    obtain ⟨c1, c2, c3, c4, c5, rfl⟩ := len5 (hr t (by simp))
    obtain ⟨d1, d2, d3, d4, d5, rfl⟩ := len5 (hr u (by simp))
    obtain ⟨e1, e2, e3, e4, e5, rfl⟩ := len5 (hr v (by simp))
    simp [detP, detR, sumZ, drow, List.range_succ]
    grind
theorem det_same {n : Nat} (hn : n ≤ 5) {m : List (List Int)} (hm : m.length = n) (hr : ∀ r ∈ m, r.length = n) : detP n m = detR m n (List.range n) := by
  match n, hn with
  | 0, _ => rfl
  | 1, _ => exact det1 hm hr
  | 2, _ => exact det2 hm hr
  | 3, _ => exact det3 hm hr
  | 4, _ => exact det4 hm hr
  | 5, _ => exact det5 hm hr

theorem abs_add (a b : Int) : (a + b).natAbs ≤ a.natAbs + b.natAbs := by omega
theorem sumZ_bd {f : Nat → Int} {c : Nat} : ∀ n, (∀ i, i < n → (f i).natAbs ≤ c) → (sumZ f n).natAbs ≤ n * c
  | 0, _ => by simp [sumZ]
  | n + 1, h => by
    have ih := sumZ_bd n fun i hi => h i (by omega)
    have := h n (by omega)
    have := abs_add (sumZ f n) (f n)
    simp only [sumZ, Nat.add_mul, Nat.one_mul]
    omega
/-- No element is above W. -/
def Ent (W : Nat) (m : List (List Int)) : Prop := ∀ r ∈ m, ∀ x ∈ r, x.natAbs ≤ W
theorem getD_bd {W : Nat} {r : List Int} (h : ∀ x ∈ r, x.natAbs ≤ W) (j : Nat) : (r.getD j 0).natAbs ≤ W := by
  by_cases hj : j < r.length
  · rw [show r.getD j 0 = r[j] by simp [hj]]; exact h _ (List.getElem_mem hj)
  · simp [hj]
theorem Ent.get {W : Nat} {m : List (List Int)} (h : Ent W m) (k j : Nat) : ((m.getD k []).getD j 0).natAbs ≤ W := by
  by_cases hk : k < m.length
  · rw [show m.getD k [] = m[k] by simp [hk]]; exact getD_bd (h _ (List.getElem_mem hk)) j
  · simp [hk]
theorem Ent.head {W : Nat} {m : List (List Int)} (h : Ent W m) (j : Nat) : ((m.headD []).getD j 0).natAbs ≤ W := by
  cases m with
  | nil => simp
  | cons r m => exact getD_bd (h r (by simp)) j
theorem Ent.drow {W : Nat} {m : List (List Int)} (h : Ent W m) (j : Nat) : Ent W (drow m j) := fun r hr x hx => by
  obtain ⟨q, hq, rfl⟩ := List.mem_map.1 hr
  exact h q (List.mem_of_mem_drop hq) x (List.mem_of_mem_eraseIdx hx)
theorem term_bd {x y : Int} {a b : Nat} (hx : x.natAbs ≤ a) (hy : y.natAbs ≤ b) (c : Bool) : (if c then 0 - x * y else x * y).natAbs ≤ a * b := by
  have : (x * y).natAbs ≤ a * b := by rw [Int.natAbs_mul]; exact Nat.mul_le_mul hx hy
  split <;> omega
theorem detR_bd {W L : Nat} {a : List (List Int)} (h : Ent W a) : ∀ k cols, cols.length ≤ L → (detR a k cols).natAbs ≤ (L * W) ^ k
  | 0, _, _ => by simp [detR]
  | k + 1, cols, hc => by
    simp only [detR]
    have := sumZ_bd (f := fun q => if (k + 1 + q) % 2 = 0 then 0 - (a.getD k []).getD (cols.getD q 0) 0 * detR a k (cols.eraseIdx q) else (a.getD k []).getD (cols.getD q 0) 0 * detR a k (cols.eraseIdx q)) (c := W * (L * W) ^ k) cols.length fun q hq => by
      have h1 := h.get k (cols.getD q 0)
      have h2 := detR_bd (L := L) h k (cols.eraseIdx q) (by rw [List.length_eraseIdx]; split <;> omega)
      have := term_bd h1 h2 (decide ((k + 1 + q) % 2 = 0))
      simpa using this
    refine Nat.le_trans this ?_
    rw [Nat.pow_succ]
    calc cols.length * (W * (L * W) ^ k) ≤ L * (W * (L * W) ^ k) := Nat.mul_le_mul_right _ hc
      _ = (L * W) ^ k * (L * W) := by grind
theorem detP_bd {W L : Nat} : ∀ n m, Ent W m → (∀ r ∈ m, r.length ≤ L) → (detP n m).natAbs ≤ (L * W) ^ n
  | 0, _, _, _ => by simp [detP]
  | n + 1, m, h, hl => by
    simp only [detP]
    have hh : (m.headD []).length ≤ L := by
      cases m with
      | nil => simp
      | cons r m => exact hl r (by simp)
    have := sumZ_bd (f := fun j => if j % 2 = 1 then 0 - detP n (Det.drow m j) * (m.headD []).getD j 0 else detP n (Det.drow m j) * (m.headD []).getD j 0) (c := (L * W) ^ n * W) (m.headD []).length fun j hj => by
      have h1 := h.head j
      have h2 := detP_bd (L := L) n (Det.drow m j) (h.drow j) fun r hr => by
        obtain ⟨q, hq, rfl⟩ := List.mem_map.1 hr
        have := hl q (List.mem_of_mem_drop hq)
        rw [List.length_eraseIdx]; split <;> omega
      have := term_bd h2 h1 (decide (j % 2 = 1))
      simpa using this
    refine Nat.le_trans this ?_
    rw [Nat.pow_succ]
    calc (m.headD []).length * ((L * W) ^ n * W) ≤ L * ((L * W) ^ n * W) := Nat.mul_le_mul_right _ hh
      _ = (L * W) ^ n * (L * W) := by grind
theorem wide_pow {k : Nat} (hk : k ≤ 5) : (5 * 2 ^ 40) ^ k < 2 ^ 220 := Nat.lt_of_le_of_lt (Nat.pow_le_pow_right (by decide) hk) (by decide)
end Go.Det
