import Derived.Test.YtocgjopmlhpjdaaNtSc
/-
  Nets: the reference: Before, put.
-/
namespace Go.Proofs.Ytocgjopmlhpjdaa
open Go.Vm Go.RowKit Go.Nt
section
variable {P : Program} {σ : List VObj} {kn : Kn} {dst : Option Tmp} {ty : TypeId} {pos : String} {af : Array Edge} {g : Option (Nat × Bool)}
end
theorem slOf_ne {ds : List DV} (h : ds ≠ []) : slOf ds = .sl ds ds.length none := by
  cases ds with
  | nil => exact absurd rfl h
  | cons => rfl
/-- Slices with the numbers in them. -/
def PairsOk (n : Nat) (ps : List (DV × List Int)) : Prop := ∀ p ∈ ps, Ints p.1 p.2 ∧ p.2.length = n
theorem PairsOk.one {n : Nat} {ps : List (DV × List Int)} (h : PairsOk n ps) : ((ps.map (·.1)).map XV.d).all oneX = true := by
  rw [List.all_map, List.all_map, List.all_eq_true]
  intro p hp
  exact (SlD.of (h p hp).1).one
end Go.Proofs.Ytocgjopmlhpjdaa

