import Derived.Test.YtdgahcbalabjdaaGreatZCyB
/-
  Times: products, powers, ways.
-/
namespace Go.Proofs.YtdgahcbalabjdaaGreat
open Go.Vm Go.Cy
theorem greatest60_own' {σ : List VObj} {id md n : Nat} {l : List Int} {lo : Nat} {ex : Bool} (hn : l.length = n) (ho : σ[id]? = some ⟨icells l, md⟩) (hm : md < 2) (hl : n ≤ 1073741824) : OwnCall Tryz.prog 57 σ [.osl id 0 n 1 lo ex] σ (.d (DI (gre l))) := by
  subst hn; exact greatest60_own ho hm hl
theorem good_bd {b x : Int} (h : Cy.Good b x) (hb : b ≤ 1000000000000) : -2000000000000 ≤ x ∧ x ≤ 2000000000000 := by
  rcases h with rfl | h
  · unfold Nv; omega
  · omega
theorem get_range {n i : Nat} {f : Nat → Int} (h : i < ((List.range n).map f).length) : ((List.range n).map f)[i] = f i := by simp
end Go.Proofs.YtdgahcbalabjdaaGreat

