import Derived.Test.YtocgjopmlhpjdaaNtD
/-
  Nets: the reference: equal, find, Plain.
-/
namespace Go.Proofs.Ytocgjopmlhpjdaa
open Go.Vm Go.RowKit Go.Nt
/-- The rows of a graph of the reference. -/
def numV (m : List Int) : DV := slOf (m.map DI)
theorem numD_V (n : Nat) (X : Nat → Int) : numD n X = numV ((List.range n).map X) := by unfold numD numV; rw [List.map_map]; rfl
theorem numV_ints (m : List Int) (h : 0 < m.length) : Ints (numV m) m := by
  have e : m = (List.range m.length).map (tk m) := by
    refine List.ext_getElem (by simp) fun i a b => ?_
    rw [List.getElem_map, List.getElem_range, tk_get a]
  have h1 := numD_ints (tk m) h
  rw [numD_V, ← e] at h1; exact h1
end Go.Proofs.Ytocgjopmlhpjdaa

