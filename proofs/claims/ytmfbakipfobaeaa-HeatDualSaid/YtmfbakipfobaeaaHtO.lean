import Derived.Test.YtmfbakipfobaeaaHtA
import Derived.Test.YtmfbakipfobaeaaVmTb
/-
  Heat: what a statement gives.
-/
namespace Go.Proofs.Ytmfbakipfobaeaa
open Go.Vm Go.Ht

theorem flat_eq {α : Type} {f : α → List DV} {rows : List (List DV)} (h : ∀ r ∈ rows, ∃ a, r = f a) : ∃ L : List α, L.length = rows.length ∧ rows.flatten = L.flatMap f := by
  obtain ⟨L, h1, h2⟩ := list_of (Q := fun r a => r = f a) rows h
  refine ⟨L, h1, ?_⟩
  rw [List.flatMap_def]
  congr 1
  apply List.ext_getElem
  · simp [h1]
  · intro i k1 k2
    rw [h2 i k1 (by rw [h1]; exact k1)]; simp
theorem fl_of {α : Type} {k : Nat} {f : α → List DV} {d : DV} (h : VecP k (fun r => ∃ a, r = f a) d) : ∃ l : List α, FlD k f d l ∧ l.length ≤ 9223372036854775807 := by
  rcases h.rows with rfl | ⟨rows, cap, rfl, hl, hr⟩
  · exact ⟨[], .nil, by simp⟩
  · obtain ⟨L, h1, h2⟩ := flat_eq hr
    rw [h2, ← h1]
    exact ⟨L, .sl, by omega⟩
theorem open_i : Opn Try.prog 3 (One fun d => ∃ n, IsI d n) := (Opn.int Try.underlying3).mono fun _ ⟨d, e, n, hd, _⟩ => ⟨d, e, n, hd⟩
theorem open_s : Opn Try.prog 63 fun ds => ∃ s : Sm, ds = c3 s := by
  refine (Opn.struct Try.underlying63 [(1, (One fun d => ∃ n, IsI d n)), (1, (One fun d => ∃ n, IsI d n)), (1, (One fun d => ∃ n, IsI d n))] (fun i => i) rfl rfl (by kernel_rfl) fun i f q hf hq => ?_).mono fun ds h => ?_
  · match i with
    | 0 => simp at hf hq; subst hf hq; exact ⟨rfl, by kernel_rfl, rfl, open_i⟩
    | 1 => simp at hf hq; subst hf hq; exact ⟨rfl, by kernel_rfl, rfl, open_i⟩
    | 2 => simp at hf hq; subst hf hq; exact ⟨rfl, by kernel_rfl, rfl, open_i⟩
    | i + 3 => simp at hf
  · obtain ⟨_, _, rfl, _, ⟨_, rfl, a, rfl⟩, _, _, rfl, _, ⟨_, rfl, b, rfl⟩, _, _, rfl, _, ⟨_, rfl, r, rfl⟩, rfl⟩ := h
    exact ⟨⟨a, b, r⟩, rfl⟩
theorem open_l : Opn Try.prog 22 (One fun d => ∃ l, StD d l ∧ l.length ≤ 9223372036854775807) := (Opn.slice Try.underlying22 (by kernel_rfl) open_s).mono fun ds ⟨d, e, h⟩ => ⟨d, e, fl_of h⟩
end Go.Proofs.Ytmfbakipfobaeaa

