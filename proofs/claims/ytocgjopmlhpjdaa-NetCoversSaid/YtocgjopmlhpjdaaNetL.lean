import Derived.Test.YtocgjopmlhpjdaaNetK
/-
  Nets: siphons and traps by the reference.
-/
namespace Go.Proofs.Ytocgjopmlhpjdaa
open Go.Vm
structure GoodR (m : List (List Int)) : Prop where
  len : ∀ r ∈ m, r.length ≤ 6
  pos : ∀ r ∈ m, ∀ x ∈ r, 0 ≤ x
end Go.Proofs.Ytocgjopmlhpjdaa

