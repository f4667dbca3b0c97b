import Derived.Test.YtdilkpcnkhedlaaBaP
/-
  Batch: sorting by insertion (pure), as the library does it.
-/
namespace Go.Ba
open Go.Vm Go.Ht

def swp (l : List Int) (j : Nat) : List Int := (l.set j (l.getD (j - 1) 0)).set (j - 1) (l.getD j 0)
def insJ (c : Int → Int → Int) : Nat → List Int → List Int
  | 0, l => l
  | j + 1, l => if c (l.getD (j + 1) 0) (l.getD j 0) < 0 then insJ c j (swp l (j + 1)) else l
def insN (c : Int → Int → Int) (l : List Int) (k : Nat) : List Int := (List.range k).foldl (fun cs i => insJ c i cs) l
/-- Sorted by insertion. -/
def insS (c : Int → Int → Int) (l : List Int) : List Int := insN c l l.length
theorem swp_len (l : List Int) (j : Nat) : (swp l j).length = l.length := by simp [swp]
theorem insJ_len (c : Int → Int → Int) : ∀ (j : Nat) (l : List Int), (insJ c j l).length = l.length
  | 0, _ => rfl
  | j + 1, l => by
    unfold insJ
    split
    · rw [insJ_len c j, swp_len]
    · rfl
theorem insN_succ (c : Int → Int → Int) (l : List Int) (k : Nat) : insN c l (k + 1) = insJ c k (insN c l k) := by
  unfold insN; rw [List.range_succ, List.foldl_append]; rfl
theorem insN_len (c : Int → Int → Int) (l : List Int) (k : Nat) : (insN c l k).length = l.length := by
  induction k with
  | zero => rfl
  | succ k ih => rw [insN_succ, insJ_len, ih]
theorem insN_one (c : Int → Int → Int) (l : List Int) : insN c l 1 = l := rfl
theorem swp_perm {l : List Int} {j : Nat} (h1 : 0 < j) (h2 : j < l.length) : (swp l j).Perm l := by
  obtain ⟨i, rfl⟩ : ∃ i, j = i + 1 := ⟨j - 1, by omega⟩
  have e : swp l (i + 1) = l.take i ++ (l[i + 1] :: l[i] :: l.drop (i + 2)) := by
    apply List.ext_getElem
    · rw [swp_len]; simp; omega
    · intro k h3 h4
      rw [swp_len] at h3
      unfold swp
      simp only [Nat.add_sub_cancel, List.getElem_set]
      have g1 : l.getD (i + 1) 0 = l[i + 1] := by simp [h2]
      have g2 : l.getD i 0 = l[i] := by simp [show i < l.length by omega]
      simp only [g1, g2]
      by_cases hk : k < i
      · rw [if_neg (by omega), if_neg (by omega), List.getElem_append_left (by simp; omega)]; simp
      · rw [List.getElem_append_right (by simp; omega)]
        simp only [List.length_take, show min i l.length = i by omega]
        obtain ⟨d, rfl⟩ : ∃ d, k = i + d := ⟨k - i, by omega⟩
        simp only [Nat.add_sub_cancel_left]
        match d with
        | 0 => simp
        | 1 => simp
        | d + 2 => rw [if_neg (by omega), if_neg (by omega)]; simp; congr 1; omega
  have e2 : l = l.take i ++ (l[i] :: l[i + 1] :: l.drop (i + 2)) := by
    rw [← List.drop_eq_getElem_cons h2, ← List.drop_eq_getElem_cons (by omega), List.take_append_drop]
  rw [e]
  conv => rhs; rw [e2]
  exact (List.Perm.swap _ _ _).append_left _
theorem insJ_perm (c : Int → Int → Int) : ∀ (j : Nat) (l : List Int), j < l.length → (insJ c j l).Perm l
  | 0, _, _ => .refl _
  | j + 1, l, h => by
    unfold insJ
    split
    · exact (insJ_perm c j _ (by rw [swp_len]; omega)).trans (swp_perm (by omega) h)
    · exact .refl _
theorem insN_perm (c : Int → Int → Int) (l : List Int) : ∀ k, k ≤ l.length → (insN c l k).Perm l
  | 0, _ => .refl _
  | k + 1, h => by
    rw [insN_succ]
    exact (insJ_perm c k _ (by rw [insN_len]; omega)).trans (insN_perm c l k (by omega))
theorem insS_perm (c : Int → Int → Int) (l : List Int) : (insS c l).Perm l := insN_perm c l _ (Nat.le_refl _)
/-- The comparison of two keys. -/
def cmpI (x y : Int) : Int := if x < y then -1 else if y < x then 1 else 0
/-- Sorted but for one place. -/
def UpTo (f : Int → Int) (l : List Int) (n j : Nat) : Prop := (∀ a b, a < b → b < n → a ≠ j → b ≠ j → f (l.getD a 0) ≤ f (l.getD b 0)) ∧ (∀ b, j < b → b < n → f (l.getD j 0) ≤ f (l.getD b 0))
theorem swp_get {l : List Int} {j a : Nat} (h1 : 0 < j) (h2 : j < l.length) : (swp l j).getD a 0 = if a = j then l.getD (j - 1) 0 else if a = j - 1 then l.getD j 0 else l.getD a 0 := by
  unfold swp
  simp only [List.getD_eq_getElem?_getD, List.getElem?_set, List.length_set]
  by_cases ha : j - 1 = a
  · rw [if_pos ha, if_pos (by omega), if_neg (by omega), if_pos ha.symm]; simp
  · rw [if_neg ha]
    by_cases hb : j = a
    · rw [if_pos hb, if_pos h2, if_pos hb.symm]; simp
    · rw [if_neg hb, if_neg (fun e => hb e.symm), if_neg (fun e => ha e.symm)]
theorem insJ_sorted (f : Int → Int) : ∀ (j n : Nat) (l : List Int), j < n → n ≤ l.length → UpTo f l n j → ∀ a b, a < b → b < n → f ((insJ (fun x y => cmpI (f x) (f y)) j l).getD a 0) ≤ f ((insJ (fun x y => cmpI (f x) (f y)) j l).getD b 0)
  | 0, n, l, h1, h2, h, a, b, hab, hb => by
    unfold insJ
    by_cases ha : a = 0
    · subst ha; exact h.2 b hab hb
    · exact h.1 a b hab hb ha (by omega)
  | j + 1, n, l, h1, h2, h, a, b, hab, hb => by
    unfold insJ
    split
    · rename_i hlt
      have hlt2 : f (l.getD (j + 1) 0) < f (l.getD j 0) := by
        simp only [cmpI] at hlt
        split at hlt
        · assumption
        · split at hlt <;> omega
      refine insJ_sorted f j n (swp l (j + 1)) (by omega) (by rw [swp_len]; exact h2) ⟨fun x y hxy hy hx hyj => ?_, fun y hy1 hy2 => ?_⟩ a b hab hb
      · rw [swp_get (by omega) (by omega), swp_get (by omega) (by omega)]
        simp only [Nat.add_sub_cancel]
        rw [if_neg hx, if_neg hyj]
        by_cases ex : x = j + 1
        · rw [if_pos ex, if_neg (by omega)]
          exact h.1 j y (by omega) hy (by omega) (by omega)
        · rw [if_neg ex]
          by_cases ey : y = j + 1
          · rw [if_pos ey]
            exact h.1 x j (by omega) (by omega) ex (by omega)
          · rw [if_neg ey]
            exact h.1 x y hxy hy ex ey
      · rw [swp_get (by omega) (by omega), swp_get (by omega) (by omega)]
        simp only [Nat.add_sub_cancel]
        rw [if_neg (by omega), if_pos trivial]
        by_cases ey : y = j + 1
        · rw [if_pos ey]; omega
        · rw [if_neg ey, if_neg (by omega)]
          exact h.2 y (by omega) hy2
    · rename_i hge
      have hge2 : f (l.getD j 0) ≤ f (l.getD (j + 1) 0) := by
        simp only [cmpI] at hge
        split at hge
        · omega
        · omega
      by_cases ha : a = j + 1
      · subst ha; exact h.2 b hab hb
      · by_cases hb2 : b = j + 1
        · subst hb2
          by_cases haj : a = j
          · subst haj; exact hge2
          · exact Int.le_trans (h.1 a j (by omega) (by omega) ha (by omega)) hge2
        · exact h.1 a b hab hb ha hb2
theorem insN_sorted (f : Int → Int) (l : List Int) : ∀ k, k ≤ l.length → ∀ a b, a < b → b < k → f ((insN (fun x y => cmpI (f x) (f y)) l k).getD a 0) ≤ f ((insN (fun x y => cmpI (f x) (f y)) l k).getD b 0)
  | 0, _, a, b, _, hb => by omega
  | k + 1, h, a, b, hab, hb => by
    rw [insN_succ]
    have ih := insN_sorted f l k (by omega)
    exact insJ_sorted f k (k + 1) _ (by omega) (by rw [insN_len]; omega) ⟨fun x y hxy hy hx hyk => ih x y hxy (by omega), fun y h1 h2 => by omega⟩ a b hab hb
/-- What comes before has no greater key. -/
theorem insS_sorted (f : Int → Int) (l : List Int) : ∀ a b, a < b → b < l.length → f ((insS (fun x y => cmpI (f x) (f y)) l).getD a 0) ≤ f ((insS (fun x y => cmpI (f x) (f y)) l).getD b 0) := insN_sorted f l _ (Nat.le_refl _)
theorem insS_len (c : Int → Int → Int) (l : List Int) : (insS c l).length = l.length := insN_len c l _
end Go.Ba

