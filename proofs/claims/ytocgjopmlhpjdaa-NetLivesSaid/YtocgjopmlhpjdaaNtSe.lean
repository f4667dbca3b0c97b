import Derived.Test.YtocgjopmlhpjdaaNtSd
/-
  Nets: Reach, Dead of the reference.
-/
namespace Go.Proofs.Ytocgjopmlhpjdaa
open Go.Vm Go.RowKit Go.Nt Go.Ht
end Go.Proofs.Ytocgjopmlhpjdaa

