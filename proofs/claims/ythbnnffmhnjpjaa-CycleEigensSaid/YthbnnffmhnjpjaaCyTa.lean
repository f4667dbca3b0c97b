import Derived.Test.YthbnnffmhnjpjaaCyU
import Derived.Test.YthbnnffmhnjpjaaCyEg
/-
  Times: transposes; the law CycleTurned.
-/
namespace Go.Proofs.Ythbnnffmhnjpjaa
open Go.Vm Go.Cy
theorem bytes3 : bytesT Try.prog 3 ≤ 65536 := of_decide_eq_true (by kernel_rfl)
theorem cells3 : (zeroT Try.prog 3).map (·.cells.size) = some 1 := by kernel_rfl
theorem icells_snoc (f : Nat → Int) (i : Nat) : icells ((List.range (i + 1)).map f) = icells ((List.range i).map f) ++ [.d (DI (f i))] := by simp [icells, List.range_succ]
theorem ic_sl {σ : List VObj} {y : XV} {f : Nat → Int} {n : Nat} (hn : 0 < n) (h : OwnK 1 σ y (icells ((List.range n).map f))) : ∃ id, y = oslT n id ∧ σ[id]? = some ⟨icells ((List.range n).map f), 0⟩ := by
  generalize hc : icells ((List.range n).map f) = l at h
  cases h with
  | nil => have := congrArg List.length hc; simp [icells] at this; omega
  | @sl id k cells h hk =>
    have e := congrArg List.length hc
    rw [icells_len, List.length_map, List.length_range] at e
    have : k = n := by omega
    subst this
    exact ⟨id, rfl, h⟩
end Go.Proofs.Ythbnnffmhnjpjaa

