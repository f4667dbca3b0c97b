import Derived.Test.YtocgjopmlhpjdaaNtF0
/-
  Nets: the reference: reach, the walk.
-/
namespace Go.Proofs.Ytocgjopmlhpjdaa
open Go.Vm Go.RowKit Go.Nt
end Go.Proofs.Ytocgjopmlhpjdaa

