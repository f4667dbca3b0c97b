/-
  Dataflow graphs: what the times of Starts promise.
-/
import Derived.Test.YtnfnjnaheckdbaaFlTd
namespace Go.Proofs.Ytnfnjnaheckdbaa
open Go.Vm Go.Fl

theorem stA_ok {n : Int} {L : List LZ} {tm : List Int} {pe : Int} (h : (stA n L tm pe).2 = 0) : ∃ (N : Nat) (Ln : List LN) (q : Nat → Nat) (s : List Nat), n = (N : Int) ∧ L = Ln.map LN.z ∧ RepG N Ln q ∧ first0 Ln N q = some s ∧ scA n L = (zs s, 0) ∧ tmB tm n pe = true ∧ tot q * pe.toNat ≤ 400 ∧ stR n L tm pe = stD N (runS Ln tm (seqP pe.toNat s)) := by
  cases ht : tmB tm n pe with
  | false =>
    have e : stA n L tm pe = (fun _ => [], 2) := by unfold stA; rw [if_neg (by rw [ht]; simp)]
    rw [e] at h; cases h
  | true =>
    by_cases hs : (scA n L).2 = 0
    · obtain ⟨N, Ln, q, s, h1, h2, hr, hf, hse⟩ := sc_of hs
      have hrw : (repA n L).1 = q := by subst h1 h2; rw [hr.r]
      by_cases h4 : 400 < tot (repA n L).1 * pe.toNat
      · have e : stA n L tm pe = (fun _ => [], 3) := by unfold stA; rw [if_pos ht, if_pos hs, if_pos h4]
        rw [e] at h; cases h
      · have e : stA n L tm pe = (runS Ln tm (seqP pe.toNat s), 0) := by
          unfold stA
          rw [if_pos ht, if_pos hs, if_neg h4, hse]
          simp only
          rw [zs_toNat, h2, toN_z]
        refine ⟨N, Ln, q, s, h1, h2, hr, hf, hse, ht.symm ▸ rfl, by rw [hrw] at h4; omega, ?_⟩
        unfold stR
        rw [e, h1]; rfl
    · have e : stA n L tm pe = (fun _ => [], (scA n L).2) := by unfold stA; rw [if_pos ht, if_neg hs]
      rw [e] at h; exact absurd h hs
theorem stA_codes {n : Int} {L : List LZ} {tm : List Int} {pe : Int} (hs : (scA n L).2 = 0) : (stA n L tm pe).2 = 0 ∨ (stA n L tm pe).2 = 2 ∨ (stA n L tm pe).2 = 3 := by
  unfold stA
  split
  · first
    | (rw [if_pos hs]
       split
       · exact .inr (.inr rfl)
       · exact .inl rfl)
    | (split
       · exact .inr (.inr rfl)
       · exact .inl rfl)
    | skip
  · first
    | exact .inr (.inl rfl)
    | exact absurd hs ‹_›
theorem runS_more (L : List LN) (tm : List Int) (l : List Nat) (m : List Nat) (j : Nat) : ∃ r, runS L tm (l ++ m) j = runS L tm l j ++ r := by
  refine snoc_ind (Q := fun m => ∃ r, runS L tm (l ++ m) j = runS L tm l j ++ r) ⟨[], by simp⟩ (fun m a ⟨r, hr⟩ => ?_) m
  rw [← List.append_assoc, runS_snoc]
  unfold stepS
  split
  · exact ⟨r ++ [_], by rw [hr, List.append_assoc]⟩
  · exact ⟨r, hr⟩
theorem need_ge {tm : List Int} {st : Sts} {a : Nat} (l : LN) (x : Int) : x ≤ needF tm st a x l := by
  unfold needF
  split
  · split
    · omega
    · omega
  · omega
theorem fold_ge {tm : List Int} {st : Sts} {a : Nat} : ∀ (L : List LN) (x : Int), x ≤ L.foldl (needF tm st a) x
  | [], _ => Int.le_refl _
  | l :: L, x => Int.le_trans (need_ge l x) (fold_ge L _)
def Rise (l : List Int) : Prop := ∀ i k, i ≤ k → k < l.length → l.getD i 0 ≤ l.getD k 0
theorem rise_snoc {l : List Int} {v : Int} (h : Rise l) (hv : lastZ l ≤ v) : Rise (l ++ [v]) := by
  intro i k hik hk
  rw [List.length_append, List.length_singleton] at hk
  have g : ∀ i, i < l.length → (l ++ [v]).getD i 0 = l.getD i 0 := fun i hi => by rw [List.getD_eq_getElem?_getD, List.getD_eq_getElem?_getD, List.getElem?_append_left hi]
  have ge : (l ++ [v]).getD l.length 0 = v := by simp
  rcases Nat.lt_or_ge k l.length with h1 | h1
  · rw [g i (by omega), g k h1]; exact h i k hik h1
  · obtain rfl : k = l.length := by omega
    rw [ge]
    rcases Nat.lt_or_ge i l.length with h2 | h2
    · rw [g i h2]
      have := h i (l.length - 1) (by omega) (by omega)
      unfold lastZ at hv
      rw [if_neg (by omega)] at hv
      omega
    · obtain rfl : i = l.length := by omega
      rw [ge]; omega
theorem runS_rise (L : List LN) (tm : List Int) (l : List Nat) : ∀ j, Rise (runS L tm l j) := by
  refine snoc_ind (Q := fun l => ∀ j, Rise (runS L tm l j)) (fun j i k _ hk => by simp [runS] at hk) (fun l a ih j => ?_) l
  rw [runS_snoc]
  unfold stepS
  split
  · rename_i e; subst e
    exact rise_snoc (ih j) (fold_ge L _)
  · exact ih j
theorem runS_cnt {L Ln : List LN} {N : Nat} {q : Nat → Nat} {s : List Nat} {tm : List Int} (hr : RepG N Ln q) (hf : first0 Ln N q = some s) (p : Nat) {j : Nat} (hj : j < N) : (runS L tm (seqP p s) j).length = q j * p := by
  obtain ⟨Y, hrun, hYq⟩ := greedy_sound _ _ _ hf
  rw [runS_len, count_seqP, ← eqB_iff.1 hYq j (by have := hr.n6; omega), runL_count hrun j, Nat.zero_add, Nat.mul_comm]
end Go.Proofs.Ytnfnjnaheckdbaa
