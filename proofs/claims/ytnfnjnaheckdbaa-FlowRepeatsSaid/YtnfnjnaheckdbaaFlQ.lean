/-
  DATAFLOW GRAPHS: with twice as many loads everywhere all is as before.
-/
import Derived.Test.YtnfnjnaheckdbaaFlR
namespace Go.Fl
def dbl (l : LN) : LN := ⟨l.f, l.t, 2 * l.g, 2 * l.k, 2 * l.s⟩
theorem dbl_step (p : Rat6 × Bool) (l : LN) : stepR p (dbl l) = stepR p l := by
  unfold stepR
  simp only [dbl, timesF_twice]
theorem dbl_pass (L : List LN) (R : Rat6) : passR (L.map dbl) R = passR L R := by
  unfold passR
  rw [List.foldl_map]
  congr 1
  funext p l
  exact dbl_step p l
theorem dbl_rates (L : List LN) : ∀ (n : Nat) (R : Rat6), ratesF (L.map dbl) n R = ratesF L n R
  | 0, _ => rfl
  | n + 1, R => by simp only [ratesF, dbl_pass, dbl_rates L n]
theorem dbl_bal (L : List LN) (R : Rat6) : balB (L.map dbl) R = balB L R := by
  unfold balB
  rw [List.all_map]
  congr 1
  funext l
  simp only [Function.comp, dbl, timesF_twice]
theorem dbl_fold (L : List LN) (N : Nat) : ∀ i, repFold (L.map dbl) N i = repFold L N i
  | 0 => rfl
  | i + 1 => by
    simp only [repFold, dbl_fold L N i]
    congr 1
    funext q
    simp only [repStep, dbl_rates, dbl_bal]
theorem dbl_load (l : LN) (X : Nat → Nat) : loadZ (dbl l) X = 2 * loadZ l X := by
  unfold loadZ
  simp only [dbl, Int.natCast_mul, Int.mul_assoc, Int.mul_add, Int.mul_sub]
  rfl
theorem dbl_wait (X : Nat → Nat) (a : Nat) (l : LN) : waitB X a (dbl l) = waitB X a l := by
  unfold waitB
  rw [dbl_load]
  have e1 : (dbl l).t = l.t := rfl
  have e2 : ((dbl l).k : Int) = 2 * (l.k : Int) := by simp [dbl]
  rw [e1, e2]
  congr 1
  exact decide_eq_decide.2 (by omega)
theorem dbl_can (L : List LN) (X : Nat → Nat) (a : Nat) : canB (L.map dbl) X a = canB L X a := by
  unfold canB
  rw [List.all_map]
  congr 1
  funext l
  simp only [Function.comp, dbl_wait]
theorem dbl_fire (L : List LN) (q X : Nat → Nat) (a : Nat) : fireB (L.map dbl) q X a = fireB L q X a := by unfold fireB; rw [dbl_can]
theorem dbl_nxt (L : List LN) (N : Nat) (q X : Nat → Nat) : nxt (L.map dbl) N q X = nxt L N q X := by
  unfold nxt
  congr 1
  funext a
  exact dbl_fire L q X a
theorem dbl_greedy (L : List LN) (N : Nat) (q : Nat → Nat) : ∀ (n : Nat) (X : Nat → Nat), greedy (L.map dbl) N q n X = greedy L N q n X
  | 0, X => rfl
  | n + 1, X => by
    simp only [greedy, dbl_nxt]
    split
    · rfl
    · congr 1
      funext a
      rw [dbl_greedy L N q n]
/-- Schedules are compared from the front: the first one comes before every other. -/
theorem greedy_first {L : List LN} {N : Nat} {q : Nat → Nat} (hN : N ≤ 6) : ∀ (n : Nat) (X : Nat → Nat) (s : List Nat) (o : List Int) (Y : Nat → Nat), greedy L N q n X = some s → runL L N q o X = some Y → eqB Y q = true → (∀ i, i < 6 → X i ≤ q i) →
    zs s = o ∨ ∃ p a b r r', zs s = p ++ a :: r ∧ o = p ++ b :: r' ∧ a < b := by
  intro n
  induction n with
  | zero =>
    intro X s o Y hg hr he hX
    simp only [greedy] at hg
    split at hg
    · rename_i hxe
      cases hg
      cases o with
      | nil => exact .inl rfl
      | cons b o =>
        exfalso
        have h1 := (runL_tot hN hr).1
        have h2 := eqB_iff.1 hxe
        have h3 := eqB_iff.1 he
        unfold tot at h1
        rw [h2 0 (by omega), h2 1 (by omega), h2 2 (by omega), h2 3 (by omega), h2 4 (by omega), h2 5 (by omega), h3 0 (by omega), h3 1 (by omega), h3 2 (by omega), h3 3 (by omega), h3 4 (by omega), h3 5 (by omega)] at h1
        simp at h1
    · cases hg
  | succ n ih =>
    intro X s o Y hg hr he hX
    simp only [greedy] at hg
    split at hg
    · rename_i hxe
      cases hg
      cases o with
      | nil => exact .inl rfl
      | cons b o =>
        exfalso
        have h1 := (runL_tot hN hr).1
        have h2 := eqB_iff.1 hxe
        have h3 := eqB_iff.1 he
        unfold tot at h1
        rw [h2 0 (by omega), h2 1 (by omega), h2 2 (by omega), h2 3 (by omega), h2 4 (by omega), h2 5 (by omega), h3 0 (by omega), h3 1 (by omega), h3 2 (by omega), h3 3 (by omega), h3 4 (by omega), h3 5 (by omega)] at h1
        simp at h1
    · rename_i hxe
      cases hn : nxt L N q X with
      | none => rw [hn] at hg; cases hg
      | some a =>
        rw [hn] at hg
        simp only [Option.bind_some] at hg
        cases hgr : greedy L N q n (bump X a) with
        | none => rw [hgr] at hg; cases hg
        | some r =>
          rw [hgr] at hg
          simp only [Option.map_some, Option.some.injEq] at hg
          subst hg
          obtain ⟨ha, hfa⟩ := nxt_some hn
          cases o with
          | nil => simp only [runL, Option.some.injEq] at hr; subst hr; exact absurd he hxe
          | cons b o =>
            simp only [runL] at hr
            split at hr
            · rename_i hb
              by_cases hab : (a : Int) = b
              · subst hab
                rw [Int.toNat_natCast] at hr
                have hfb := fireB_iff.1 hfa
                rcases ih (bump X a) r o Y hgr hr he (fun i hi => by
                  unfold bump; split
                  · rename_i e; subst e; omega
                  · exact hX i hi) with h | ⟨p, a', b', r1, r2, h1, h2, h3⟩
                · left; simp only [zs, List.map_cons] at h ⊢; rw [h]
                · right; exact ⟨(a : Int) :: p, a', b', r1, r2, by simp only [zs, List.map_cons] at h1 ⊢; rw [h1]; rfl, by rw [h2]; rfl, h3⟩
              · right
                refine ⟨[], (a : Int), b, zs r, o, rfl, rfl, ?_⟩
                unfold nxt at hn
                rw [List.find?_eq_some_iff_getElem] at hn
                obtain ⟨_, i, hi, he1, hlt⟩ := hn
                simp at he1
                subst he1
                rcases Int.lt_or_le i b with h | h
                · exact h
                · have := hlt b.toNat (by omega)
                  simp only [List.getElem_range] at this
                  rw [hb.2.2] at this; cases this
            · cases hr
end Go.Fl
