import Derived.Test.YtjfpeiioddfjcaaZnRe
/-
  A MATRIX OF ONE'S OWN whose elements are written, with other objects behind it.
-/
namespace Go.Vm
open Go.Zn
theorem deepen_app {τ : List VObj} {σ : List VObj} : ∀ (k : Nat) (x : XV) (d : DV), deepen σ k x = some d → deepen (σ ++ τ) k x = some d
  | 0, x, d, h => by simp [deepen] at h
  | k + 1, x, d, h => by
    have ih := deepen_app (τ := τ) (σ := σ) k
    cases x with
    | d y => exact h
    | osl id off len m lo ex =>
      simp only [deepen] at h ⊢
      cases ho : σ[id]? with
      | none => rw [ho] at h; cases h
      | some ob =>
        rw [ho] at h
        rw [get_left ho]
        simp only at h ⊢
        split at h
        · rename_i hc
          rw [if_pos hc]
          simp only [Option.map_eq_some_iff] at h ⊢
          obtain ⟨cs, h1, h2⟩ := h
          exact ⟨cs, mapM_mono ih h1, h2⟩
        · cases h
    | optr id off =>
      simp only [deepen] at h ⊢
      cases ho : σ[id]? with
      | none => rw [ho] at h; cases h
      | some ob =>
        rw [ho] at h
        rw [get_left ho]
        simp only at h ⊢
        split at h
        · rename_i hc
          rw [if_pos hc]
          simp only [Option.map_eq_some_iff] at h ⊢
          obtain ⟨cs, h1, h2⟩ := h
          exact ⟨cs, mapM_mono ih h1, h2⟩
        · cases h
    | tup xs =>
      simp only [deepen, Option.map_eq_some_iff] at h ⊢
      obtain ⟨cs, h1, h2⟩ := h
      exact ⟨cs, mapM_mono ih h1, h2⟩
    | agg xs =>
      simp only [deepen, Option.map_eq_some_iff] at h ⊢
      obtain ⟨cs, h1, h2⟩ := h
      exact ⟨cs, mapM_mono ih h1, h2⟩
    | fn f a b =>
      simp only [deepen] at h ⊢
      split at h
      · rename_i a' b' ha hb
        rw [mapM_mono ih ha, mapM_mono ih hb]; exact h
      · cases h
    | ifc t x =>
      simp only [deepen, Option.map_eq_some_iff] at h ⊢
      obtain ⟨y, h1, h2⟩ := h
      exact ⟨y, ih _ _ h1, h2⟩
theorem frz_last {B : List VObj} {c : List XV} : freezeIds (B ++ [⟨c, 0⟩]) [B.length] = B ++ [⟨c, 1⟩] := by
  refine List.ext_getElem? fun i => ?_
  by_cases h : i = B.length
  · subst h
    rw [freezeIds_in (by simp) (List.getElem?_concat_length ..), List.getElem?_concat_length]
  · rw [freezeIds_not (by simpa using h)]
    by_cases hi : i < B.length
    · rw [List.getElem?_append_left hi, List.getElem?_append_left hi]
    · rw [List.getElem?_eq_none (by simp; omega), List.getElem?_eq_none (by simp; omega)]
section
variable {n : Nat} {g : Nat → Nat → Int}
theorem mx_row {i : Nat} (hi : i < n) : (sgP n n g n)[i + 1]? = some ⟨rowC n g i n, 0⟩ := by
  unfold sgP doneG
  rw [List.getElem?_cons_succ, List.getElem?_map, List.getElem?_range hi]; rfl
theorem mx_osl {i : Nat} (hi : i < n) : (updL n (oslF n) (.d Dnil) n)[0 + i]? = some (.osl (i + 1) 0 n 1 n true) := by
  rw [Nat.zero_add, updL_get hi hi]; rfl
theorem mx_get {i j : Nat} (hj : j < n) : (rowC n g i n)[0 + j]? = some (.d (DI (g i j))) := by
  rw [Nat.zero_add]
  unfold rowC
  rw [updL_get hj hj]; rfl
theorem mx_set {i j : Nat} {v : Int} (hi : i < n) (hj : j < n) : (sgP n n g n).set (i + 1) ⟨(rowC n g i n).set (0 + j) (.d (DI v)), 0⟩ = sgP n n (set2 g i j v) n := by
  unfold sgP
  rw [List.set_cons_succ]
  congr 1
  unfold doneG
  refine List.ext_getElem? fun k => ?_
  rw [List.getElem?_set]
  by_cases hk : k < n
  · by_cases e : i = k
    · subst e
      rw [if_pos rfl, if_pos (by simpa using hk), List.getElem?_map, List.getElem?_range hk]
      show some (VObj.mk _ _) = some (VObj.mk (rowC n (set2 g i j v) i n) 0)
      congr 2
      rw [Nat.zero_add]
      unfold rowC
      rw [updL_full (Nat.le_refl _), updL_full (Nat.le_refl _)]
      refine List.ext_getElem? fun y => ?_
      rw [List.getElem?_set]
      by_cases hy : y < n
      · by_cases e2 : j = y
        · subst e2
          rw [if_pos rfl, if_pos (by simpa using hy), List.getElem?_map, List.getElem?_range hy]
          show some (XV.d (DI v)) = some (XV.d (DI (set2 g i j v i j)))
          unfold set2
          rw [if_pos ⟨rfl, rfl⟩]
        · rw [if_neg e2, List.getElem?_map, List.getElem?_map, List.getElem?_range hy]
          show some (XV.d (DI (g i y))) = some (XV.d (DI (set2 g i j v i y)))
          unfold set2
          rw [if_neg (fun h => e2 h.2.symm)]
      · rw [if_neg (by omega), List.getElem?_eq_none (by simp; omega), List.getElem?_eq_none (by simp; omega)]
    · rw [if_neg e, List.getElem?_map, List.getElem?_map, List.getElem?_range hk]
      show some (VObj.mk (rowC n g k n) 0) = some (VObj.mk (rowC n (set2 g i j v) k n) 0)
      congr 2
      unfold rowC
      rw [updL_full (Nat.le_refl _), updL_full (Nat.le_refl _)]
      refine List.map_congr_left fun y _ => ?_
      show XV.d (DI (g k y)) = XV.d (DI (set2 g i j v k y))
      unfold set2
      rw [if_neg (fun h => e h.1.symm)]
  · rw [if_neg (by omega), List.getElem?_eq_none (by simp; omega), List.getElem?_eq_none (by simp; omega)]
theorem mx_set' {τ : List VObj} {i j : Nat} {v : Int} (hi : i < n) (hj : j < n) : (sgP n n g n ++ τ).set (i + 1) ⟨(rowC n g i n).set (0 + j) (.d (DI v)), 0⟩ = sgP n n (set2 g i j v) n ++ τ := by
  rw [List.set_append_left _ _ (by rw [sgP_len]; omega), mx_set hi hj]
theorem mx_fin {τ : List VObj} : deepen (freezeAll (sgP n n g n ++ τ)) 5 (.osl 0 0 n 1 n true) = some (genD n n g) := by
  have : freezeAll (sgP n n g n ++ τ) = freezeAll (sgP n n g n) ++ freezeAll τ := by unfold freezeAll; rw [List.map_append]
  rw [this]
  exact deepen_app _ _ _ gen_fin
end
end Go.Vm

