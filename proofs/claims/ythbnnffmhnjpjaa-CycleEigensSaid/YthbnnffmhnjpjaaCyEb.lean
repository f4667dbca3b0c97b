import Derived.Test.YthbnnffmhnjpjaaCyU
import Derived.Test.YthbnnffmhnjpjaaCyEg
import Derived.Test.YthbnnffmhnjpjaaCyH
/-
  Times: the first critical cycle, potentials; the law CycleProofs.
-/
namespace Go.Proofs.Ythbnnffmhnjpjaa
open Go.Vm Go.Cy
def crV (m : List (List Int)) : List Int := if measE m = 0 then critI m.length (gainM m) else []
end Go.Proofs.Ythbnnffmhnjpjaa

