import Derived.Test.YtocgjopmlhpjdaaNetD
/-
  Nets: Fire of the program and of the reference return the same.
-/
namespace Go.Proofs.Ytocgjopmlhpjdaa
open Go.Vm
theorem within_iff {x y : List Int} (h : x.length = y.length) : withinB x y = true ↔ ∀ p, tk x p ≤ tk y p := by
  unfold withinB
  rw [List.all_eq_true]
  constructor
  · intro hall p
    by_cases hp : p < x.length
    · have := hall (x[p], y[p]) (by rw [← within_get hp (by omega)]; exact List.getElem_mem _)
      rw [tk_get hp, tk_get (by omega)]
      simpa using this
    · simp [tk, show ¬ p < y.length by omega, hp]
  · intro hall q hq
    obtain ⟨i, hi, rfl⟩ := List.getElem_of_mem hq
    simp only [List.length_zip] at hi
    have := hall i
    rw [tk_get (by omega), tk_get (by omega)] at this
    simpa using this
theorem leq6_within {x y : List Int} (h : x.length = y.length) (h6 : x.length ≤ 6) : leq6 (tk x) (tk y) = withinB x y := by
  rw [Bool.eq_iff_iff, within_iff h]
  unfold leq6
  rw [List.all_eq_true]
  constructor
  · intro hall p
    by_cases hp : p < 6
    · simpa using hall p (by simpa using hp)
    · simp [tk, show ¬ p < x.length by omega, show ¬ p < y.length by omega]
  · intro hall i _
    simpa using hall i
theorem fitsB_len {l : List Int} {n : Nat} {most : Int} (h : fitsB l n most = true) : l.length = n := by
  simp only [fitsB, Bool.and_eq_true, decide_eq_true_eq] at h; exact h.1
theorem fitsB_mem {l : List Int} {n : Nat} {most : Int} (h : fitsB l n most = true) : ∀ x ∈ l, 0 ≤ x ∧ x ≤ most := by
  simp only [fitsB, Bool.and_eq_true, List.all_eq_true] at h
  intro x hx
  simpa [okI] using h.2 x hx
theorem allB_mem {m : List (List Int)} {n : Nat} {most : Int} (h : allB m n most = true) : ∀ r ∈ m, fitsB r n most = true := by
  unfold allB at h
  rw [List.all_eq_true] at h
  exact h
theorem tk_bd {l : List Int} {most : Int} (h0 : 0 ≤ most) (h : ∀ x ∈ l, 0 ≤ x ∧ x ≤ most) (p : Nat) : 0 ≤ tk l p ∧ tk l p ≤ most := by
  by_cases hp : p < l.length
  · rw [tk_get hp]; exact h _ (List.getElem_mem hp)
  · simp [tk, hp, h0]
theorem small_of {m : List (List Int)} {n : Nat} (h : allB m n 3 = true) : Small m := ⟨fun i hi p => tk_bd (by decide) (fitsB_mem (allB_mem h _ (List.getElem_mem hi))) p⟩
end Go.Proofs.Ytocgjopmlhpjdaa

