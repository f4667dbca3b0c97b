import Derived.Test.YtocgjopmlhpjdaaNtH
import Derived.Test.YtocgjopmlhpjdaaNtSa
import Derived.Test.YtocgjopmlhpjdaaNtWq
/-
  Nets: markings sorted: SortFunc with Compare; rising; dead.
-/
namespace Go.Proofs.Ytocgjopmlhpjdaa
open Go.Vm Go.RowKit Go.Nt Go.Ht Go.Shelf
end Go.Proofs.Ytocgjopmlhpjdaa

