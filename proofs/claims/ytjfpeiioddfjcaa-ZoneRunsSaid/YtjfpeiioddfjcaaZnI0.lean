import Derived.Test.YtjfpeiioddfjcaaZnH
/-
  Zones: guards as arguments.
-/
namespace Go.Proofs.Ytjfpeiioddfjcaa
open Go.Vm Go.Zn

theorem build38 (a b c : Int) : pureRun Try.prog (Instr.build 38 #[(0, .int .i64 a), (1, .int .i64 b), (2, .int .i64 c)]) = some (.agg #[.int .i64 a, .int .i64 b, .int .i64 c]) := by kernel_rfl
theorem open_guard : Opn Try.prog 36 (fun ds => ∃ i j b, ds = [DI i, DI j, DI b]) := by
  have h3 : Opn Try.prog 3 (One fun d => ∃ n, IsI d n) := (Opn.int Try.underlying3).mono fun ds ⟨d, e, n, hd, _⟩ => ⟨d, e, n, hd⟩
  refine (Opn.struct Try.underlying36 [(1, One fun d => ∃ n, IsI d n), (1, One fun d => ∃ n, IsI d n), (1, One fun d => ∃ n, IsI d n)] (fun i => i) rfl rfl (by kernel_rfl) fun i f q hf hq => ?_).mono fun ds h => ?_
  · match i with
    | 0 => simp at hf hq; subst hf hq; exact ⟨rfl, by kernel_rfl, rfl, h3⟩
    | 1 => simp at hf hq; subst hf hq; exact ⟨rfl, by kernel_rfl, rfl, h3⟩
    | 2 => simp at hf hq; subst hf hq; exact ⟨rfl, by kernel_rfl, rfl, h3⟩
    | i + 3 => simp at hf
  · obtain ⟨_, _, rfl, _, ⟨_, rfl, a, rfl⟩, _, _, rfl, _, ⟨_, rfl, b, rfl⟩, _, _, rfl, _, ⟨_, rfl, c, rfl⟩, rfl⟩ := h
    exact ⟨a, b, c, rfl⟩
theorem dlE_cases (z : List (List Int)) : dlE z = 0 ∨ dlE z = 2 ∨ dlE z = 5 := by
  rw [dlE_eq, tgE_eq]
  split
  · split
    · exact .inr (.inr rfl)
    · exact .inl rfl
  · exact .inr (.inl rfl)
end Go.Proofs.Ytjfpeiioddfjcaa

