import Derived.Test.YtdgahcbalabjdaaGreatZBaV
/-
  Batch: starts and makespans.
-/
namespace Go.Proofs.YtdgahcbalabjdaaGreat
open Go.Vm Go.Ht Go.Ba
theorem stE_zero {N : Int} {J : List (List (Int × Int))} {l : List (List Int)} : stE N J l = 0 ↔ ∃ hs, stH N J l = some hs := by
  cases h : shopB N J with
  | false => unfold stE stH; simp [h]
  | true =>
    cases h2 : ordB N.toNat J.flatten l with
    | false => unfold stE stH; simp [h, h2]
    | true =>
      cases h3 : hds J.flatten (arcsO 0 J ++ ordA l) with
      | none => unfold stE stH; simp [h, h2, h3]
      | some hs => unfold stE stH; simp [h, h2, h3]
end Go.Proofs.YtdgahcbalabjdaaGreat

