import Derived.Test.YtjfpeiioddfjcaaZnR1
import Derived.Test.YtjfpeiioddfjcaaZnYd
import Derived.Test.YtjfpeiioddfjcaaZnI0
/-
  Automata: what a statement gives.
-/
namespace Go.Proofs.Ytjfpeiioddfjcaa
open Go.Vm Go.Zn

theorem open_i : Opn Try.prog 3 (One fun d => ∃ n, IsI d n) := (Opn.int Try.underlying3).mono fun ds ⟨d, e, n, hd, _⟩ => ⟨d, e, n, hd⟩
theorem open_gds : Opn Try.prog 117 (One GdP) := (Opn.slice Try.underlying117 (by kernel_rfl) open_guard).mono fun ds ⟨d, e, h⟩ => ⟨d, e, gd_of h⟩
theorem open_edge : Opn Try.prog 120 EdP := by
  refine (Opn.struct Try.underlying120 [(1, (One fun d => ∃ n, IsI d n)), (1, (One fun d => ∃ n, IsI d n)), (1, One GdP), (1, (One fun d => ∃ n, IsI d n))] (fun i => i) rfl rfl (by kernel_rfl) fun i f q hf hq => ?_).mono fun ds h => ?_
  · match i with
    | 0 => simp at hf hq; subst hf hq; exact ⟨rfl, by kernel_rfl, rfl, open_i⟩
    | 1 => simp at hf hq; subst hf hq; exact ⟨rfl, by kernel_rfl, rfl, open_i⟩
    | 2 => simp at hf hq; subst hf hq; exact ⟨rfl, by kernel_rfl, rfl, open_gds⟩
    | 3 => simp at hf hq; subst hf hq; exact ⟨rfl, by kernel_rfl, rfl, open_i⟩
    | i + 4 => simp at hf
  · obtain ⟨_, _, rfl, _, ⟨_, rfl, a, rfl⟩, _, _, rfl, _, ⟨_, rfl, b, rfl⟩, _, _, rfl, _, ⟨g, rfl, L, hL, hl⟩, _, _, rfl, _, ⟨_, rfl, r, rfl⟩, rfl⟩ := h
    exact ⟨(a, b, L, r), .mk (e := (a, b, L, r)) hL, hl⟩
def AutP (ds : List DV) : Prop := ∃ c iD eD I E, ds = [DI c, iD, eD] ∧ GdsL iD I ∧ Eds eD E ∧ I.length ≤ 9223372036854775807 ∧ E.length ≤ 9223372036854775807 ∧ (∀ L ∈ I, L.length ≤ 9223372036854775807) ∧ ∀ e ∈ E, e.2.2.1.length ≤ 9223372036854775807
def GdlP (d : DV) : Prop := ∃ I, Vec Gds d I ∧ I.length ≤ 9223372036854775807 ∧ ∀ L ∈ I, L.length ≤ 9223372036854775807
def EdsP (d : DV) : Prop := ∃ E, Eds d E ∧ E.length ≤ 9223372036854775807 ∧ ∀ e ∈ E, e.2.2.1.length ≤ 9223372036854775807
theorem open_gdl : Opn Try.prog 53 (One GdlP) := (Opn.slice Try.underlying53 (by kernel_rfl) open_gds).mono fun ds ⟨d, e, h⟩ => ⟨d, e, gdl_of h⟩
theorem open_eds : Opn Try.prog 54 (One EdsP) := (Opn.slice Try.underlying54 (by kernel_rfl) open_edge).mono fun ds ⟨d, e, h⟩ => ⟨d, e, ed_of h⟩
theorem open_auto : Opn Try.prog 56 AutP := by
  refine (Opn.struct Try.underlying56 [(1, (One fun d => ∃ n, IsI d n)), (1, One GdlP), (1, One EdsP)] (fun i => i) rfl rfl (by kernel_rfl) fun i f q hf hq => ?_).mono fun ds h => ?_
  · match i with
    | 0 => simp at hf hq; subst hf hq; exact ⟨rfl, by kernel_rfl, rfl, open_i⟩
    | 1 => simp at hf hq; subst hf hq; exact ⟨rfl, by kernel_rfl, rfl, open_gdl⟩
    | 2 => simp at hf hq; subst hf hq; exact ⟨rfl, by kernel_rfl, rfl, open_eds⟩
    | i + 3 => simp at hf
  · obtain ⟨_, _, rfl, _, ⟨_, rfl, c, rfl⟩, _, _, rfl, _, ⟨iD, rfl, I, h1, h2, h3⟩, _, _, rfl, _, ⟨eD, rfl, E, h4, h5, h6⟩, rfl⟩ := h
    exact ⟨c, iD, eD, I, E, rfl, h1, h4, h2, h5, h3, h6⟩
theorem open_ints : Opn Try.prog 23 (One fun d => ∃ l, Ints d l ∧ l.length ≤ 9223372036854775807) := (Opn.slice Try.underlying23 (by kernel_rfl) open_i).mono fun ds ⟨d, e, h⟩ => ⟨d, e, VecP.vec (R := IsI) h⟩
def RunP (ds : List DV) : Prop := ∃ den wD kD W Q, ds = [DI den, wD, kD] ∧ Ints wD W ∧ Ints kD Q ∧ W.length ≤ 9223372036854775807 ∧ Q.length ≤ 9223372036854775807
theorem open_run : Opn Try.prog 73 RunP := by
  refine (Opn.struct Try.underlying73 [(1, (One fun d => ∃ n, IsI d n)), (1, One fun d => ∃ l, Ints d l ∧ l.length ≤ 9223372036854775807), (1, One fun d => ∃ l, Ints d l ∧ l.length ≤ 9223372036854775807)] (fun i => i) rfl rfl (by kernel_rfl) fun i f q hf hq => ?_).mono fun ds h => ?_
  · match i with
    | 0 => simp at hf hq; subst hf hq; exact ⟨rfl, by kernel_rfl, rfl, open_i⟩
    | 1 => simp at hf hq; subst hf hq; exact ⟨rfl, by kernel_rfl, rfl, open_ints⟩
    | 2 => simp at hf hq; subst hf hq; exact ⟨rfl, by kernel_rfl, rfl, open_ints⟩
    | i + 3 => simp at hf
  · obtain ⟨_, _, rfl, _, ⟨_, rfl, a, rfl⟩, _, _, rfl, _, ⟨wD, rfl, W, h1, h2⟩, _, _, rfl, _, ⟨kD, rfl, Q, h3, h4⟩, rfl⟩ := h
    exact ⟨a, wD, kD, W, Q, rfl, h1, h3, h2, h4⟩
end Go.Proofs.Ytjfpeiioddfjcaa

