import Derived.Test.YtocgjopmlhpjdaaNtG
/-
  Nets: word, Word of the program.
-/
namespace Go.Proofs.Ytocgjopmlhpjdaa
open Go.Vm Go.RowKit Go.Nt Go.Ht
end Go.Proofs.Ytocgjopmlhpjdaa

