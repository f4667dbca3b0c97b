import Derived.Test.YtocgjopmlhpjdaaNetI
/-
  Nets: the siphons and the greatest trap that the program returns.
-/
namespace Go.Proofs.Ytocgjopmlhpjdaa
open Go.Vm
end Go.Proofs.Ytocgjopmlhpjdaa

