import Derived.Test.YtnfnjnaheckdbaaFlTd
/-
  STARTS: the greatest need of all loads that a firing takes is that of the last one.
-/
namespace Go.Proofs.Ytnfnjnaheckdbaa
open Go.Vm Go.Fl
def Sd (l : List Int) : Prop := ∀ i j : Nat, i ≤ j → j < l.length → l.getD i 0 ≤ l.getD j 0
theorem need_geP (tm : List Int) (st : Sts) (a : Nat) (x : Int) (l : LN) : x ≤ needF tm st a x l := by
  unfold needF
  split
  · split <;> omega
  · exact Int.le_refl _
theorem fold_geP (tm : List Int) (st : Sts) (a : Nat) : ∀ (L : List LN) (x : Int), x ≤ L.foldl (needF tm st a) x
  | [], _ => Int.le_refl _
  | l :: L, x => Int.le_trans (need_geP tm st a x l) (fold_geP tm st a L _)
theorem Sd.snoc {l : List Int} {v : Int} (h : Sd l) (hv : lastZ l ≤ v) : Sd (l ++ [v]) := fun i j hij hj => by
  rw [List.length_append, List.length_singleton] at hj
  by_cases h1 : j < l.length
  · have := h i j hij h1
    simpa [List.getElem?_append_left h1, List.getElem?_append_left (show i < l.length by omega)] using this
  · have e : j = l.length := by omega
    subst e
    by_cases h2 : i < l.length
    · have h3 := h i (l.length - 1) (by omega) (by omega)
      unfold lastZ at hv
      rw [if_neg (by omega)] at hv
      have : l.getD i 0 ≤ v := Int.le_trans h3 hv
      simpa [List.getElem?_append_left h2, List.getElem?_append_right (Nat.le_refl _)] using this
    · have : i = l.length := by omega
      subst this; exact Int.le_refl _
theorem runS_sd (L : List LN) (tm : List Int) (l : List Nat) : ∀ j, Sd (runS L tm l j) := by
  refine snoc_ind (Q := fun l => ∀ j, Sd (runS L tm l j)) (fun j i k _ hk => ?_) (fun l a ih j => ?_) l
  · simp [runS] at hk
  · rw [runS_snoc]
    unfold stepS
    split
    · rename_i e
      subst e
      exact (ih j).snoc (fold_geP tm _ j L _)
    · exact ih j
end Go.Proofs.Ytnfnjnaheckdbaa

