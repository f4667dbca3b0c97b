import Derived.Test.YtocgjopmlhpjdaaNtH
/-
  Nets: Word of the reference; the law NetWords.
-/
namespace Go.Proofs.Ytocgjopmlhpjdaa
open Go.Vm Go.RowKit Go.Nt Go.Ht
end Go.Proofs.Ytocgjopmlhpjdaa

