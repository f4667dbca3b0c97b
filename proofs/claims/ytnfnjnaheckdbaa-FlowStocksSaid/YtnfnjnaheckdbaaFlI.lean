import Derived.Test.YtnfnjnaheckdbaaFlH
/-
  Dataflow graphs: Peaks of the program.
-/
namespace Go.Proofs.Ytnfnjnaheckdbaa
open Go.Vm Go.Fl
end Go.Proofs.Ytnfnjnaheckdbaa

