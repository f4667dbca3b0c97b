import Derived.Test.YtdgahcbalabjdaaGreatZBaM
/-
  Batch: the reference: ends.
-/
namespace Go.Proofs.YtdgahcbalabjdaaGreat
open Go.Vm Go.Ht Go.Ba
end Go.Proofs.YtdgahcbalabjdaaGreat

