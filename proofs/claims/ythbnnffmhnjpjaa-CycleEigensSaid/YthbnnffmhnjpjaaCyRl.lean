import Derived.Test.YthbnnffmhnjpjaaCyRj
/-
  Times: the law CyclePotentials.
-/
namespace Go.Proofs.Ythbnnffmhnjpjaa
open Go.Vm Go.Cy Go.RowKit
end Go.Proofs.Ythbnnffmhnjpjaa

