import Derived.Test.YtocgjopmlhpjdaaProg
import Derived.Test.YtocgjopmlhpjdaaNtWq
import Derived.Lib.Small
import Derived.Lib.Walk
import Derived.Shelf.RegionOpenPlain
import Derived.WalkKit
import Derived.Deep.LoopGhost
import Derived.Deep.Draws
/-
  Package net: slices.Compare of two markings only reads: its contract, in the library's own manner.
-/
namespace Go.Proofs.Ytocgjopmlhpjdaa
open Go.Shelf Go.RowKit Go.Lib Go.Proofs Go.Nt

end Go.Proofs.Ytocgjopmlhpjdaa

