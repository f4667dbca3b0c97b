import Derived.Test.YtdgahcbalabjdaaGreatZCyK2
import Derived.Test.YtdgahcbalabjdaaGreatCyN
/-
  Times: gains, ways, means.
-/
namespace Go.Proofs.YtdgahcbalabjdaaGreat
open Go.Vm Go.Cy
theorem mean_form (n : Nat) (a : Nat → Nat → Int) : meanD n a = .tup [.agg [DI ((meanI n a).getD (0, 0)).1, DI ((meanI n a).getD (0, 0)).2], DB (meanI n a).isSome] := by
  unfold meanD; cases meanI n a <;> rfl
end Go.Proofs.YtdgahcbalabjdaaGreat

