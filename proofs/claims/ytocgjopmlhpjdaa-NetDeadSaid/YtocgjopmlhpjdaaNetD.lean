import Derived.Test.YtocgjopmlhpjdaaNetC
/-
  Nets: firing, by the program and by the reference.
-/
namespace Go.Proofs.Ytocgjopmlhpjdaa
open Go.Vm
theorem plainTry_19 : plainFn Try.prog 19 = true := by kernel_rfl

theorem deepen_tup {σ : List VObj} {k : Nat} {xs : List XV} : deepen σ (k + 1) (.tup xs) = (xs.mapM (deepen σ k)).map .tup := rfl
theorem tk_get {l : List Int} {p : Nat} (h : p < l.length) : tk l p = l[p] := by simp [tk, h]
end Go.Proofs.Ytocgjopmlhpjdaa

