import Derived.Test.YtnfnjnaheckdbaaFlTd
/-
  STARTS: the greatest need of all loads that a firing takes is that of the last one.
-/
namespace Go.Proofs.Ytnfnjnaheckdbaa
open Go.Vm Go.Fl
def innF (l : LN) (tm : List Int) (st : Sts) (a k : Nat) (x : Int) : Nat → Int
  | 0 => x
  | j + 1 => if l.t = a ∧ 0 ≤ putZ l ((k * l.k + j : Nat) : Int) then max (innF l tm st a k x j) ((st l.f).getD (putZ l ((k * l.k + j : Nat) : Int)).toNat 0 + tmAt tm l.f) else innF l tm st a k x j
def Sd (l : List Int) : Prop := ∀ i j : Nat, i ≤ j → j < l.length → l.getD i 0 ≤ l.getD j 0
theorem putZ_mono {l : LN} (hg : 1 ≤ l.g) {x y : Int} (h : x ≤ y) : putZ l x ≤ putZ l y := by
  unfold putZ
  rw [Int.fdiv_eq_ediv_of_nonneg _ (by omega), Int.fdiv_eq_ediv_of_nonneg _ (by omega)]
  exact Int.ediv_le_ediv (by omega) (by omega)
theorem inn_eq {l : LN} {tm : List Int} {st : Sts} {a k : Nat} {x : Int} (hg : 1 ≤ l.g) (hs : Sd (st l.f)) : ∀ j : Nat, (0 ≤ putZ l ((k * l.k + j : Nat) : Int) → l.t = a → (putZ l ((k * l.k + j : Nat) : Int)).toNat < (st l.f).length) →
    innF l tm st a k x (j + 1) = if l.t = a ∧ 0 ≤ putZ l ((k * l.k + j : Nat) : Int) then max x ((st l.f).getD (putZ l ((k * l.k + j : Nat) : Int)).toNat 0 + tmAt tm l.f) else x
  | 0, _ => rfl
  | j + 1, hl => by
    have hm := putZ_mono (l := l) hg (show ((k * l.k + j : Nat) : Int) ≤ ((k * l.k + (j + 1) : Nat) : Int) by omega)
    have ih := inn_eq (l := l) (tm := tm) (st := st) (a := a) (k := k) (x := x) hg hs j (fun h ht => by
      have := hl (by omega) ht
      omega)
    rw [innF, ih]
    by_cases h1 : l.t = a ∧ 0 ≤ putZ l ((k * l.k + (j + 1) : Nat) : Int)
    · rw [if_pos h1, if_pos h1]
      by_cases h2 : l.t = a ∧ 0 ≤ putZ l ((k * l.k + j : Nat) : Int)
      · rw [if_pos h2]
        have := hs (putZ l ((k * l.k + j : Nat) : Int)).toNat (putZ l ((k * l.k + (j + 1) : Nat) : Int)).toNat (by omega) (hl h1.2 h1.1)
        omega
      · rw [if_neg h2]
    · rw [if_neg h1, if_neg h1, if_neg (fun h => h1 ⟨h.1, by omega⟩)]
theorem inn_full {l : LN} {tm : List Int} {st : Sts} {a : Nat} {x : Int} (hg : 1 ≤ l.g) (hk : 1 ≤ l.k) (hs : Sd (st l.f)) (hl : l.t = a → 0 ≤ putZ l ((((st a).length + 1) * l.k : Nat) - 1) → (putZ l ((((st a).length + 1) * l.k : Nat) - 1)).toNat < (st l.f).length) :
    innF l tm st a (st a).length x l.k = needF tm st a x l := by
  obtain ⟨j, hj⟩ : ∃ j, l.k = j + 1 := ⟨l.k - 1, by omega⟩
  have e : ((((st a).length + 1) * l.k : Nat) : Int) - 1 = (((st a).length * l.k + j : Nat) : Int) := by
    rw [Nat.add_mul, Nat.one_mul]; omega
  have h := inn_eq (l := l) (tm := tm) (st := st) (a := a) (k := (st a).length) (x := x) hg hs j (fun h ht => by rw [← e] at h ⊢; exact hl ht h)
  rw [← hj] at h
  rw [h]
  unfold needF
  rw [e]
  by_cases h1 : l.t = a
  · by_cases h2 : 0 ≤ putZ l (((st a).length * l.k + j : Nat) : Int)
    · rw [if_pos ⟨h1, h2⟩, if_pos h1, if_pos h2]
    · rw [if_neg (fun z => h2 z.2), if_pos h1, if_neg h2]
  · rw [if_neg (fun z => h1 z.1), if_neg h1]
theorem inn_bd {l : LN} {tm : List Int} {st : Sts} {a k : Nat} {x B : Int} (hB : 0 ≤ B) (hst : ∀ j, ∀ v ∈ st j, 0 ≤ v ∧ v ≤ B) (htm : ∀ v ∈ tm, 0 ≤ v ∧ v ≤ 100) (hx : 0 ≤ x ∧ x ≤ B + 100) : ∀ j : Nat, 0 ≤ innF l tm st a k x j ∧ innF l tm st a k x j ≤ B + 100
  | 0 => hx
  | j + 1 => by
    have ih := inn_bd (l := l) (a := a) (k := k) hB hst htm hx j
    have h1 : ∀ m : Nat, 0 ≤ (st l.f).getD m 0 ∧ (st l.f).getD m 0 ≤ B := fun m => by
      by_cases hm : m < (st l.f).length
      · have := hst _ _ (List.getElem_mem hm)
        simpa [hm] using this
      · rw [List.getD_eq_getElem?_getD, List.getElem?_eq_none (by omega)]; exact ⟨Int.le_refl _, hB⟩
    have h2 : 0 ≤ tmAt tm l.f ∧ tmAt tm l.f ≤ 100 := by
      unfold tmAt
      by_cases hm : l.f < tm.length
      · have := htm _ (List.getElem_mem hm)
        simpa [hm] using this
      · rw [List.getD_eq_getElem?_getD, List.getElem?_eq_none (by omega)]; exact ⟨Int.le_refl _, by decide⟩
    have h3 := h1 (putZ l ((k * l.k + j : Nat) : Int)).toNat
    rw [innF]
    split
    · omega
    · exact ih
theorem need_ge (tm : List Int) (st : Sts) (a : Nat) (x : Int) (l : LN) : x ≤ needF tm st a x l := by
  unfold needF
  split
  · split <;> omega
  · exact Int.le_refl _
theorem fold_ge (tm : List Int) (st : Sts) (a : Nat) : ∀ (L : List LN) (x : Int), x ≤ L.foldl (needF tm st a) x
  | [], _ => Int.le_refl _
  | l :: L, x => Int.le_trans (need_ge tm st a x l) (fold_ge tm st a L _)
theorem Sd.snoc {l : List Int} {v : Int} (h : Sd l) (hv : lastZ l ≤ v) : Sd (l ++ [v]) := fun i j hij hj => by
  rw [List.length_append, List.length_singleton] at hj
  by_cases h1 : j < l.length
  · have := h i j hij h1
    simpa [List.getElem?_append_left h1, List.getElem?_append_left (show i < l.length by omega)] using this
  · have e : j = l.length := by omega
    subst e
    by_cases h2 : i < l.length
    · have h3 := h i (l.length - 1) (by omega) (by omega)
      unfold lastZ at hv
      rw [if_neg (by omega)] at hv
      have : l.getD i 0 ≤ v := Int.le_trans h3 hv
      simpa [List.getElem?_append_left h2, List.getElem?_append_right (Nat.le_refl _)] using this
    · have : i = l.length := by omega
      subst this; exact Int.le_refl _
theorem runS_sd (L : List LN) (tm : List Int) (l : List Nat) : ∀ j, Sd (runS L tm l j) := by
  refine snoc_ind (Q := fun l => ∀ j, Sd (runS L tm l j)) (fun j i k _ hk => ?_) (fun l a ih j => ?_) l
  · simp [runS] at hk
  · rw [runS_snoc]
    unfold stepS
    split
    · rename_i e
      subst e
      exact (ih j).snoc (fold_ge tm _ j L _)
    · exact ih j
end Go.Proofs.Ytnfnjnaheckdbaa

