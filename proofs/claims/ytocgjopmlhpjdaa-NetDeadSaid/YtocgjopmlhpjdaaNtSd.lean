import Derived.Test.YtocgjopmlhpjdaaNtSc
/-
  Nets: the reference: Before, put.
-/
namespace Go.Proofs.Ytocgjopmlhpjdaa
open Go.Vm Go.RowKit Go.Nt
/-- Slices of deep values, cut. -/
theorem slc_vec {d : DV} {cs : List DV} (h : SlC d cs) : Vec (fun c x => c = x) d cs := by
  rcases h with ⟨rfl, rfl⟩ | ⟨cap, rfl⟩
  · exact .nil
  · exact .sl rfl fun i c x h1 h2 => by rw [h1] at h2; exact Option.some.inj h2
section
variable {P : Program} {σ : List VObj} {kn : Kn} {dst : Option Tmp} {ty : TypeId} {pos : String} {af : Array Edge} {g : Option (Nat × Bool)}
end
/-- Slices with the numbers in them. -/
def PairsOk (n : Nat) (ps : List (DV × List Int)) : Prop := ∀ p ∈ ps, Ints p.1 p.2 ∧ p.2.length = n
theorem PairsOk.one {n : Nat} {ps : List (DV × List Int)} (h : PairsOk n ps) : ((ps.map (·.1)).map XV.d).all oneX = true := by
  rw [List.all_map, List.all_map, List.all_eq_true]
  intro p hp
  exact (SlD.of (h p hp).1).one
end Go.Proofs.Ytocgjopmlhpjdaa

