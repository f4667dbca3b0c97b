import Derived.Test.YthbnnffmhnjpjaaCyRt
/-
  Times: the reference: Star; the law CycleStars.
-/
namespace Go.Proofs.Ythbnnffmhnjpjaa
open Go.Vm Go.Cy Go.RowKit
end Go.Proofs.Ythbnnffmhnjpjaa

