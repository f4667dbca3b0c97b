import Derived.Test.YthbnnffmhnjpjaaCyR
/-
  Times: the cyclicity, and when the powers repeat; the law CycleRepeats.
-/
namespace Go.Proofs.Ythbnnffmhnjpjaa
open Go.Vm Go.Cy
structure PGd (n : Nat) (g : Nat → Nat → Int) : Prop where
  n1 : 1 ≤ n
  n6 : n ≤ 6
  gd : GoodM 12000 g
theorem PGd.pow {n : Nat} {g : Nat → Nat → Int} (h : PGd n g) {k : Nat} (hk : k ≤ 1000) : GoodM 1000000000000 (pwI n g k) := fun i j => (pw_good h.gd (by omega) k i j).mono (by omega)
end Go.Proofs.Ythbnnffmhnjpjaa

