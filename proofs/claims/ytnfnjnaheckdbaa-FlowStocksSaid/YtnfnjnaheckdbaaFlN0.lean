import Derived.Test.YtnfnjnaheckdbaaFlX
import Derived.Test.YtnfnjnaheckdbaaFlA
/-
  A graph as an argument of a law.
-/
namespace Go.Proofs.Ytnfnjnaheckdbaa
open Go.Vm Go.Fl

theorem open_link : Opn Try.prog 57 (fun ds => ∃ l : LZ, ds = lk5 l) := by
  have h3 : Opn Try.prog 3 (One fun d => ∃ n, IsI d n) := (Opn.int Try.underlying3).mono fun ds ⟨d, e, n, hd, _⟩ => ⟨d, e, n, hd⟩
  refine (Opn.struct Try.underlying57 [(1, One fun d => ∃ n, IsI d n), (1, One fun d => ∃ n, IsI d n), (1, One fun d => ∃ n, IsI d n), (1, One fun d => ∃ n, IsI d n), (1, One fun d => ∃ n, IsI d n)] (fun i => i) rfl rfl (by kernel_rfl) fun i f q hf hq => ?_).mono fun ds h => ?_
  · match i with
    | 0 => simp at hf hq; subst hf hq; exact ⟨rfl, by kernel_rfl, rfl, h3⟩
    | 1 => simp at hf hq; subst hf hq; exact ⟨rfl, by kernel_rfl, rfl, h3⟩
    | 2 => simp at hf hq; subst hf hq; exact ⟨rfl, by kernel_rfl, rfl, h3⟩
    | 3 => simp at hf hq; subst hf hq; exact ⟨rfl, by kernel_rfl, rfl, h3⟩
    | 4 => simp at hf hq; subst hf hq; exact ⟨rfl, by kernel_rfl, rfl, h3⟩
    | i + 5 => simp at hf
  · obtain ⟨_, _, rfl, _, ⟨_, rfl, a, rfl⟩, _, _, rfl, _, ⟨_, rfl, b, rfl⟩, _, _, rfl, _, ⟨_, rfl, c, rfl⟩, _, _, rfl, _, ⟨_, rfl, d, rfl⟩, _, _, rfl, _, ⟨_, rfl, e, rfl⟩, rfl⟩ := h
    exact ⟨⟨a, b, c, d, e⟩, rfl⟩
theorem flat_ex : ∀ (len : Nat) (cs : List DV), cs.length = len * 5 → (∀ i, i < len → ∃ l, (cs.drop (i * 5)).take 5 = lk5 l) → ∃ L : List LZ, L.length = len ∧ flatK L = cs
  | 0, cs, h, _ => ⟨[], rfl, by
    have : cs = [] := List.length_eq_zero_iff.1 (by omega)
    subst this; rfl⟩
  | len + 1, cs, h, hr => by
    obtain ⟨l, hl⟩ := hr 0 (by omega)
    obtain ⟨L, h1, h2⟩ := flat_ex len (cs.drop 5) (by rw [List.length_drop]; omega) (fun i hi => by
      obtain ⟨l', hl'⟩ := hr (i + 1) (by omega)
      refine ⟨l', ?_⟩
      rw [List.drop_drop, show 5 + i * 5 = (i + 1) * 5 by omega]; exact hl')
    refine ⟨l :: L, by simp [h1], ?_⟩
    have e : flatK (l :: L) = lk5 l ++ flatK L := rfl
    rw [e, h2, ← hl, Nat.zero_mul, List.drop_zero, List.take_append_drop]
theorem open_links : Opn Try.prog 22 (One fun d => ∃ L, Lks d L ∧ L.length ≤ 9223372036854775807) :=
  (Opn.slice (k := 5) Try.underlying22 (by kernel_rfl) open_link).mono fun ds ⟨d, e, h⟩ => by
    refine ⟨d, e, ?_⟩
    cases h with
    | nil => exact ⟨[], .nil, by simp⟩
    | @sl cs len cap hn hl h =>
      obtain ⟨L, h1, h2⟩ := flat_ex len cs hn h
      subst h1 h2
      exact ⟨L, .sl, hl⟩
theorem open_graph : Opn Try.prog 24 (fun ds => ∃ n d L, ds = [DI n, d] ∧ Lks d L ∧ L.length ≤ 9223372036854775807) := by
  have h3 : Opn Try.prog 3 (One fun d => ∃ n, IsI d n) := (Opn.int Try.underlying3).mono fun ds ⟨d, e, n, hd, _⟩ => ⟨d, e, n, hd⟩
  refine (Opn.struct Try.underlying24 [(1, One fun d => ∃ n, IsI d n), (1, One fun d => ∃ L, Lks d L ∧ L.length ≤ 9223372036854775807)] (fun i => i) rfl rfl (by kernel_rfl) fun i f q hf hq => ?_).mono fun ds h => ?_
  · match i with
    | 0 => simp at hf hq; subst hf hq; exact ⟨rfl, by kernel_rfl, rfl, h3⟩
    | 1 => simp at hf hq; subst hf hq; exact ⟨rfl, by kernel_rfl, rfl, open_links⟩
    | i + 2 => simp at hf
  · obtain ⟨_, _, rfl, _, ⟨_, rfl, n, rfl⟩, _, _, rfl, _, ⟨d, rfl, L, hL, hl⟩, rfl⟩ := h
    exact ⟨n, d, L, rfl, hL, hl⟩
end Go.Proofs.Ytnfnjnaheckdbaa

