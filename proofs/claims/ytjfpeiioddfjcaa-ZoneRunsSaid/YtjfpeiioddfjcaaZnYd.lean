import Derived.Test.YtjfpeiioddfjcaaZnYb
import Derived.Test.YtjfpeiioddfjcaaVmV
/-
  SLICES of variables of many cells, as a statement's arguments give them.
-/
open Go.Zn
namespace Go.Vm
theorem chunk {α : Type} {k : Nat} : ∀ (n : Nat) (cs : List α), cs.length = n * k → ((List.range n).map fun i => (cs.drop (i * k)).take k).flatten = cs
  | 0, cs, h => by
    rw [Nat.zero_mul] at h
    rw [List.eq_nil_of_length_eq_zero h]; rfl
  | n + 1, cs, h => by
    have h2 : (cs.drop k).length = n * k := by rw [List.length_drop, h, Nat.add_mul, Nat.one_mul]; omega
    have ih := chunk n (cs.drop k) h2
    rw [List.range_succ_eq_map, List.map_cons, List.map_map, List.flatten_cons]
    have e : ((fun i => (cs.drop (i * k)).take k) ∘ Nat.succ) = fun i => ((cs.drop k).drop (i * k)).take k := funext fun i => by
      show (cs.drop ((i + 1) * k)).take k = _
      rw [List.drop_drop, Nat.add_mul, Nat.one_mul, Nat.add_comm]
    rw [e, ih, Nat.zero_mul, List.drop_zero, List.take_append_drop]
theorem VecP.rows {k : Nat} {R : List DV → Prop} {d : DV} (h : VecP k R d) : d = Dnil ∨ ∃ (rows : List (List DV)) (cap : Option Nat), d = .sl rows.flatten rows.length cap ∧ rows.length ≤ 9223372036854775807 ∧ ∀ r ∈ rows, R r := by
  cases h with
  | nil => exact .inl rfl
  | @sl cs len cap hn hl h =>
    refine .inr ⟨(List.range len).map fun i => (cs.drop (i * k)).take k, cap, ?_, by simpa using hl, fun r hr => ?_⟩
    · rw [chunk len cs hn, List.length_map, List.length_range]
    · obtain ⟨i, hi, rfl⟩ := List.mem_map.1 hr
      exact h i (List.mem_range.1 hi)
theorem list_of {α β : Type} {Q : α → β → Prop} : ∀ (rows : List α), (∀ r ∈ rows, ∃ b, Q r b) → ∃ L : List β, L.length = rows.length ∧ ∀ i (h1 : i < rows.length) (h2 : i < L.length), Q rows[i] L[i]
  | [], _ => ⟨[], rfl, fun i h1 _ => absurd h1 (Nat.not_lt_zero _)⟩
  | r :: rows, h => by
    obtain ⟨b, hb⟩ := h r (by simp)
    obtain ⟨L, h1, h2⟩ := list_of rows fun r hr => h r (List.mem_cons_of_mem _ hr)
    refine ⟨b :: L, by simp [h1], fun i k1 k2 => ?_⟩
    cases i with
    | zero => exact hb
    | succ i => exact h2 i (by simpa using k1) (by simpa using k2)
/-- Guards of a statement. -/
def GdP (d : DV) : Prop := ∃ L, Gds d L ∧ L.length ≤ 9223372036854775807
theorem gd_of {d : DV} (h : VecP 3 (fun ds => ∃ i j b, ds = [DI i, DI j, DI b]) d) : GdP d := by
  rcases h.rows with rfl | ⟨rows, cap, rfl, hl, hr⟩
  · exact ⟨[], .nil, by simp⟩
  · obtain ⟨L, h1, h2⟩ := list_of (Q := fun r (g : G3) => r = gd3 g) rows fun r hm => by
      obtain ⟨i, j, b, rfl⟩ := hr r hm
      exact ⟨(i, j, b), rfl⟩
    have e : rows = L.map gd3 := List.ext_getElem (by simp [h1]) fun i k1 k2 => by rw [List.getElem_map]; exact h2 i k1 (by omega)
    have e2 : rows.flatten = flatG L := by rw [e]; unfold flatG; rw [List.flatMap_def]
    rw [e2, ← h1]
    exact ⟨L, .sl, by omega⟩
def EdP (ds : List DV) : Prop := ∃ e : Ed, EdR ds e ∧ e.2.2.1.length ≤ 9223372036854775807
theorem ed_of {d : DV} (h : VecP 4 EdP d) : ∃ E, Eds d E ∧ E.length ≤ 9223372036854775807 ∧ ∀ e ∈ E, e.2.2.1.length ≤ 9223372036854775807 := by
  rcases h.rows with rfl | ⟨rows, cap, rfl, hl, hr⟩
  · exact ⟨[], .nil, by simp, by simp⟩
  · obtain ⟨E, h1, h2⟩ := list_of (Q := fun r (e : Ed) => EdR r e ∧ e.2.2.1.length ≤ 9223372036854775807) rows hr
    rw [← h1]
    refine ⟨E, .sl h1.symm fun i k1 k2 => (h2 i k1 k2).1, by omega, fun e he => ?_⟩
    obtain ⟨q, hq, rfl⟩ := List.getElem_of_mem he
    exact (h2 q (by omega) hq).2
theorem gdl_of {d : DV} (h : VecP 1 (One GdP) d) : ∃ I, Vec Gds d I ∧ I.length ≤ 9223372036854775807 ∧ ∀ L ∈ I, L.length ≤ 9223372036854775807 := by
  obtain ⟨I, hI, hl⟩ := VecP.vec (R := fun d (L : List G3) => Gds d L ∧ L.length ≤ 9223372036854775807) h
  cases hI with
  | nil => exact ⟨[], .nil, by simp, by simp⟩
  | @sl cs _ cap hn h2 =>
    refine ⟨I, .sl hn fun i c x hc hx => (h2 i c x hc hx).1, hl, fun L hL => ?_⟩
    obtain ⟨q, hq, rfl⟩ := List.getElem_of_mem hL
    exact (h2 q cs[q] I[q] (List.getElem?_eq_getElem (by omega)) (List.getElem?_eq_getElem hq)).2
end Go.Vm

