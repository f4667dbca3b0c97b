import Derived.Test.YtocgjopmlhpjdaaNtT
import Derived.Test.YtocgjopmlhpjdaaNetL
/-
  Nets: free choice, the program's side.
-/
namespace Go.Proofs.Ytocgjopmlhpjdaa
open Go.Vm Go.RowKit Go.Nt
/-- The net is free-choice. -/
def One (r : List Int) : Prop := ∀ p, tk r p ≤ 1
theorem tk_zero {l : List Int} {p : Nat} (h : l.length ≤ p) : tk l p = 0 := by unfold tk; rw [List.getD_eq_getElem?_getD, List.getElem?_eq_none h]; rfl
theorem getD_at {m : List (List Int)} {t : Nat} (h : t < m.length) : m.getD t [] = m[t] := by rw [List.getD_eq_getElem?_getD, List.getElem?_eq_getElem h]; rfl
end Go.Proofs.Ytocgjopmlhpjdaa

