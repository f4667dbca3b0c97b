import Derived.Test.YtocgjopmlhpjdaaNtSe
/-
  Nets: the law NetReaches.
-/
namespace Go.Proofs.Ytocgjopmlhpjdaa
open Go.Vm Go.RowKit Go.Nt Go.Ht
theorem xOf_cp (pre post : List (List Int)) (start : List Int) : xOf (cp pre) (cp post) (start.take 8) = xOf pre post start ∧ xE (cp pre) (cp post) (start.take 8) = xE pre post start ∧ (xOf pre post start ≠ none → stopB (cp pre) (cp post) = stopB pre post) := by
  by_cases h : validB pre post start = true
  · obtain ⟨e1, e2, e3⟩ := valid_cp (.inl h)
    rw [e1, e2, e3]; exact ⟨rfl, rfl, fun _ => rfl⟩
  · have h2 := h
    rw [← validB_cp] at h2
    unfold xOf xE
    rw [if_neg h, if_neg h2, if_neg h, if_neg h2]; exact ⟨rfl, rfl, fun h => absurd rfl h⟩
end Go.Proofs.Ytocgjopmlhpjdaa

