import Derived.Test.YteednkolfnjdoaaDoorScC
import Derived.Test.YteednkolfnjdoaaDoorScZ
import Derived.Test.YteednkolfnjdoaaDoorCyY
/-
  Controllers: the first word that parts two states; Apart.
-/
namespace Go.Proofs.YteednkolfnjdoaaDoor
open Go.Vm Go.Sc
def wO : Option (List Nat) → DV
  | none => Dnil
  | some w => wV w
end Go.Proofs.YteednkolfnjdoaaDoor

