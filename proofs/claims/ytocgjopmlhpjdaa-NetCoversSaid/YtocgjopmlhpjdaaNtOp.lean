import Derived.Test.YtocgjopmlhpjdaaNtG
import Derived.Test.YtocgjopmlhpjdaaVmY
/-
  Whatever a statement hands over as a net stands for one.
-/
namespace Go.Proofs.Ytocgjopmlhpjdaa
open Go.Vm
theorem open_row : Opn Try.prog 23 (One fun d => ∃ l, Ints d l ∧ l.length ≤ 9223372036854775807) := by
  have h3 : Opn Try.prog 3 (One fun d => ∃ n, IsI d n) := (Opn.int Try.underlying3).mono fun ds ⟨d, e, n, hd, _⟩ => ⟨d, e, n, hd⟩
  exact (Opn.slice (k := 1) Try.underlying23 (by kernel_rfl) h3).mono fun ds ⟨d, e, h⟩ => ⟨d, e, h.vec⟩
theorem vec_rows {d : DV} {m : List (List Int)} (h : Vec (fun d l => Ints d l ∧ l.length ≤ 9223372036854775807) d m) : Mat d m ∧ ∀ r ∈ m, r.length ≤ 9223372036854775807 := by
  cases h with
  | nil => exact ⟨.nil, fun r hr => by simp at hr⟩
  | @sl cs _ cap hn h =>
    refine ⟨.sl hn fun i c x hc hx => (h i c x hc hx).1, fun r hr => ?_⟩
    obtain ⟨i, hi, rfl⟩ := List.getElem_of_mem hr
    exact (h i cs[i] m[i] (List.getElem?_eq_getElem (by omega)) (List.getElem?_eq_getElem hi)).2
theorem open_rows : Opn Try.prog 22 (One fun d => ∃ m, Mat d m ∧ m.length ≤ 9223372036854775807 ∧ ∀ r ∈ m, r.length ≤ 9223372036854775807) :=
  (Opn.slice (k := 1) Try.underlying22 (by kernel_rfl) open_row).mono fun ds ⟨d, e, h⟩ => by
    obtain ⟨m, hm, hl⟩ := h.vec
    exact ⟨d, e, m, (vec_rows hm).1, hl, (vec_rows hm).2⟩
abbrev RowsP (ds : List DV) : Prop := One (fun d => ∃ m, Mat d m ∧ m.length ≤ 9223372036854775807 ∧ ∀ r ∈ m, r.length ≤ 9223372036854775807) ds
abbrev RowP (ds : List DV) : Prop := One (fun d => ∃ l, Ints d l ∧ l.length ≤ 9223372036854775807) ds
theorem open_net : Opn Try.prog 25 (fun ds => ∃ a b c pre post start, ds = [a, b, c] ∧ NetD a b c pre post start) := by
  refine (Opn.struct Try.underlying25 [(1, RowsP), (1, RowsP), (1, RowP)] (fun i => i) rfl rfl (by kernel_rfl) fun i f q hf hq => ?_).mono fun ds h => ?_
  · match i with
    | 0 => simp at hf hq; subst hf hq; exact ⟨rfl, by kernel_rfl, rfl, open_rows⟩
    | 1 => simp at hf hq; subst hf hq; exact ⟨rfl, by kernel_rfl, rfl, open_rows⟩
    | 2 => simp at hf hq; subst hf hq; exact ⟨rfl, by kernel_rfl, rfl, open_row⟩
    | i + 3 => simp at hf
  · obtain ⟨_, _, rfl, _, ⟨a, rfl, pre, ha, l1, r1⟩, _, _, rfl, _, ⟨b, rfl, post, hb, l2, r2⟩, _, _, rfl, _, ⟨c, rfl, start, hc, l3⟩, rfl⟩ := h
    exact ⟨a, b, c, pre, post, start, rfl, ha, hb, hc, l1, l2, l3, r1, r2⟩
end Go.Proofs.Ytocgjopmlhpjdaa

