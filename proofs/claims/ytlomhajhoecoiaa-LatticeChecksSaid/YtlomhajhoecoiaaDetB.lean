/-
  Hermite forms read in two ways. No program in it.
-/
import Derived.Test.YtlomhajhoecoiaaDetA
namespace Go.Det

/-- Row i of a Hermite form, as the program reads it. -/
def PivP (l : Nat → Nat) (e : Nat → Nat → Int) (n i : Nat) : Prop :=
  l i = n ∨ ((i = 0 ∨ l (i - 1) < l i) ∧ 0 ≤ e i (l i) ∧ ∀ k, k < i → 0 ≤ e k (l i) ∧ e k (l i) < e i (l i))
/-- .. as the reference reads it. -/
def PivF (l : Nat → Nat) (e : Nat → Nat → Int) (n m i : Nat) : Prop :=
  ¬ (0 < i ∧ l i < n ∧ l i ≤ l (i - 1)) ∧ ¬ (l i < n ∧ e i (l i) < 1) ∧ (∀ k, k < m → ¬ (l i < n ∧ ((i < k ∧ e k (l i) ≠ 0) ∨ (k < i ∧ (e k (l i) < 0 ∨ e i (l i) ≤ e k (l i)))))) ∧ ¬ (l i = n ∧ i + 1 < m ∧ l (i + 1) < n)
theorem piv_same {l : Nat → Nat} {e : Nat → Nat → Int} {n m : Nat} (h1 : ∀ i, i < m → l i ≤ n) (h2 : ∀ i, i < m → l i < n → e i (l i) ≠ 0) (h3 : ∀ i, i < m → ∀ p, p < l i → e i p = 0) :
    (∀ i, i < m → PivP l e n i) ↔ (∀ i, i < m → PivF l e n m i) := by
  constructor
  · intro h i hi
    have chain : ∀ k, i < k → k < m → l i < l k ∨ l k = n := by
      intro k
      induction k with
      | zero => intro hk; omega
      | succ k ih =>
        intro hk hkm
        rcases h (k + 1) hkm with h4 | ⟨h4, _⟩
        · exact .inr h4
        · rcases h4 with h4 | h4
          · omega
          · simp only [Nat.add_sub_cancel] at h4
            by_cases e : k = i
            · subst e; exact .inl h4
            · rcases ih (by omega) (by omega) with h5 | h5
              · exact .inl (by omega)
              · have := h1 (k + 1) hkm; omega
    refine ⟨?_, ?_, fun k hk => ?_, ?_⟩
    · rintro ⟨a, b, c⟩
      rcases h i hi with h4 | ⟨h4, _⟩ <;> omega
    · rintro ⟨a, b⟩
      rcases h i hi with h4 | ⟨_, h4, _⟩
      · omega
      · have := h2 i hi a; omega
    · rintro ⟨a, ⟨b, c⟩ | ⟨b, c⟩⟩
      · apply c
        rcases chain k b hk with h5 | h5
        · exact h3 k hk _ h5
        · exact h3 k hk _ (by omega)
      · rcases h i hi with h4 | ⟨_, _, h4⟩
        · omega
        · have := h4 k b; omega
    · rintro ⟨a, b, c⟩
      rcases h (i + 1) b with h4 | ⟨h4, _⟩
      · omega
      · simp only [Nat.add_sub_cancel] at h4
        omega
  · intro h i hi
    obtain ⟨a, b, c, d⟩ := h i hi
    have h4 := h1 i hi
    by_cases hn : l i = n
    · exact .inl hn
    · refine .inr ⟨?_, by omega, fun k hk => ?_⟩
      · by_cases h0 : i = 0
        · exact .inl h0
        · exact .inr (by omega)
      · have := c k (by omega)
        omega
end Go.Det
