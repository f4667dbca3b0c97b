import Derived.Test.YtocgjopmlhpjdaaNtSb
/-
  Nets: Reach, Dead of the program.
-/
namespace Go.Proofs.Ytocgjopmlhpjdaa
open Go.Vm Go.RowKit Go.Nt Go.Ht
end Go.Proofs.Ytocgjopmlhpjdaa

