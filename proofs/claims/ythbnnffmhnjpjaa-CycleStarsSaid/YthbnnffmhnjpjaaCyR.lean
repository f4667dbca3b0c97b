import Derived.Test.YthbnnffmhnjpjaaCyO
import Derived.Test.YthbnnffmhnjpjaaVmRg
/-
  Times: connected matrices, eigenvectors; the law CycleEquation.
-/
namespace Go.Proofs.Ythbnnffmhnjpjaa
open Go.Vm Go.Cy
def eigC (m : List (List Int)) : Nat := leastC (prodI m.length (gainM m) (waysI m.length (gainM m))) m.length
def eigF (m : List (List Int)) (i : Nat) : Int := waysI m.length (gainM m) i (eigC m)
/-- The greatest of the first j sums. -/
def BestJ (m : List (List Int)) (i j : Nat) (b : Int) : Prop := (∀ k, k < j → mf m i k ≠ Nv → (measF m).2 * mf m i k + eigF m k ≤ b) ∧ (b = -1125899906842624 ∨ ∃ k, k < j ∧ mf m i k ≠ Nv ∧ b = (measF m).2 * mf m i k + eigF m k)
theorem BestJ.step {m : List (List Int)} {i j : Nat} {b : Int} (h : BestJ m i j b) (hne : mf m i j ≠ Nv) : BestJ m i (j + 1) (max b ((measF m).2 * mf m i j + eigF m j)) := by
  obtain ⟨h1, h2⟩ := h
  refine ⟨fun k hk hn => ?_, ?_⟩
  · by_cases e : k = j
    · subst e; omega
    · have := h1 k (by omega) hn; omega
  · by_cases e : b ≤ (measF m).2 * mf m i j + eigF m j
    · exact .inr ⟨j, by omega, hne, by omega⟩
    · rcases h2 with h2 | ⟨k, hk, hn, he⟩
      · exact .inl (by omega)
      · exact .inr ⟨k, by omega, hn, by omega⟩
theorem BestJ.skip {m : List (List Int)} {i j : Nat} {b : Int} (h : BestJ m i j b) (hne : mf m i j = Nv) : BestJ m i (j + 1) b := by
  obtain ⟨h1, h2⟩ := h
  refine ⟨fun k hk hn => ?_, ?_⟩
  · by_cases e : k = j
    · subst e; exact absurd hne hn
    · exact h1 k (by omega) hn
  · rcases h2 with h2 | ⟨k, hk, hn, he⟩
    · exact .inl h2
    · exact .inr ⟨k, by omega, hn, he⟩
end Go.Proofs.Ythbnnffmhnjpjaa

