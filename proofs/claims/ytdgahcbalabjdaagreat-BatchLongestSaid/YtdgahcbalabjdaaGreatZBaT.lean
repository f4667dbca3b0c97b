import Derived.Test.YtdgahcbalabjdaaGreatZBaN
import Derived.Test.YtdgahcbalabjdaaGreatCyN
/-
  Batch: the reference: orders.
-/
namespace Go.Proofs.YtdgahcbalabjdaaGreat
open Go.Vm Go.Ht Go.Ba
end Go.Proofs.YtdgahcbalabjdaaGreat

