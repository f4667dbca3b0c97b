import Derived.Test.YthbnnffmhnjpjaaCyU
import Derived.Test.YthbnnffmhnjpjaaCyEg
/-
  Times: the law CyclePowers.
-/
namespace Go.Proofs.Ythbnnffmhnjpjaa
open Go.Vm Go.Cy
end Go.Proofs.Ythbnnffmhnjpjaa

