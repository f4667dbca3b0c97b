import Derived.Test.YtnfnjnaheckdbaaFlTd
/-
  Dataflow graphs: what the times of Starts promise.
-/
namespace Go.Proofs.Ytnfnjnaheckdbaa
open Go.Vm Go.Fl

theorem stA_ok {n : Int} {L : List LZ} {tm : List Int} {pe : Int} (h : (stA n L tm pe).2 = 0) : ∃ (N : Nat) (Ln : List LN) (q : Nat → Nat) (s : List Nat), n = (N : Int) ∧ L = Ln.map LN.z ∧ RepG N Ln q ∧ first0 Ln N q = some s ∧ scA n L = (zs s, 0) ∧ tmB tm n pe = true ∧ tot q * pe.toNat ≤ 400 ∧ stR n L tm pe = stD N (runS Ln tm (seqP pe.toNat s)) := by
  cases ht : tmB tm n pe with
  | false =>
    have e : stA n L tm pe = (fun _ => [], 2) := by unfold stA; rw [if_neg (by rw [ht]; simp)]
    rw [e] at h; cases h
  | true =>
    by_cases hs : (scA n L).2 = 0
    · obtain ⟨N, Ln, q, s, h1, h2, hr, hf, hse⟩ := sc_of hs
      have hrw : (repA n L).1 = q := by subst h1 h2; rw [hr.r]
      by_cases h4 : 400 < tot (repA n L).1 * pe.toNat
      · have e : stA n L tm pe = (fun _ => [], 3) := by unfold stA; rw [if_pos ht, if_pos hs, if_pos h4]
        rw [e] at h; cases h
      · have e : stA n L tm pe = (runS Ln tm (seqP pe.toNat s), 0) := by
          unfold stA
          rw [if_pos ht, if_pos hs, if_neg h4, hse]
          simp only
          rw [zs_toNat, h2, toN_z]
        refine ⟨N, Ln, q, s, h1, h2, hr, hf, hse, ht.symm ▸ rfl, by rw [hrw] at h4; omega, ?_⟩
        unfold stR
        rw [e, h1]; rfl
    · have e : stA n L tm pe = (fun _ => [], (scA n L).2) := by unfold stA; rw [if_pos ht, if_neg hs]
      rw [e] at h; exact absurd h hs
theorem runS_cnt {L Ln : List LN} {N : Nat} {q : Nat → Nat} {s : List Nat} {tm : List Int} (hr : RepG N Ln q) (hf : first0 Ln N q = some s) (p : Nat) {j : Nat} (hj : j < N) : (runS L tm (seqP p s) j).length = q j * p := by
  obtain ⟨Y, hrun, hYq⟩ := greedy_sound _ _ _ hf
  rw [runS_len, count_seqP, ← eqB_iff.1 hYq j (by have := hr.n6; omega), runL_count hrun j, Nat.zero_add, Nat.mul_comm]
end Go.Proofs.Ytnfnjnaheckdbaa

