import Derived.Test.YtocgjopmlhpjdaaNtE
import Derived.Test.YtocgjopmlhpjdaaVmKi
/-
  Nets: the reference: reach.
-/
namespace Go.Proofs.Ytocgjopmlhpjdaa
open Go.Vm Go.RowKit Go.Nt
def ClosedB (nx : List Int → Nat → Option (List Int)) (T : Nat) (fs : List Ent) (i : Nat) : Prop := ∀ k, k < i → Closed nx fs (mrk fs k) T
theorem ClosedB.grow {nx : List Int → Nat → Option (List Int)} {T : Nat} {fs : List Ent} {i : Nat} (hi : i ≤ fs.length) (h : ClosedB nx T fs i) (l : List Ent) : ClosedB nx T (fs ++ l) i := fun k hk => by
  rw [mrk_app (by omega)]; exact (h k hk).grow l
theorem sld_ints {d : DV} {l : List Int} (h : Ints d l) : SlD d := SlD.of h
theorem _root_.Go.Vm.OwnL.is {k : Nat} {σ : List VObj} {x : XV} {cells : List XV} {n : Nat} (h : OwnL k σ x cells) (hn : cells.length = n * k) (hk : 0 < k) (h0 : 0 < n) : ∃ id ex, x = .osl id 0 n k n ex ∧ σ[id]? = some ⟨cells, 0⟩ := by
  cases h with
  | own h =>
    obtain ⟨id, h1, h2⟩ := h.is hn hk h0
    exact ⟨id, false, h1, h2⟩
  | @lit id m cells h hm =>
    have : m = n := Nat.eq_of_mul_eq_mul_right hk (hm.symm.trans hn)
    subst this
    exact ⟨id, true, rfl, h⟩
theorem _root_.Go.Vm.OwnL.cells {k : Nat} {σ : List VObj} {x : XV} {cells : List XV} (h : OwnL k σ x cells) : cellsX x = [x] ∧ oneX x = true := by
  cases h with
  | own h => exact h.cells
  | lit h hn => exact ⟨rfl, rfl⟩
end Go.Proofs.Ytocgjopmlhpjdaa

