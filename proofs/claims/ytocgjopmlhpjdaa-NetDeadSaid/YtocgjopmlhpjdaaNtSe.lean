import Derived.Test.YtocgjopmlhpjdaaNtSd
/-
  Nets: Reach, Dead of the reference.
-/
namespace Go.Proofs.Ytocgjopmlhpjdaa
open Go.Vm Go.RowKit Go.Nt Go.Ht
theorem stop_all {pre post : List (List Int)} {m : List Int} : stopB pre post m = (List.range pre.length).all fun u => !withinB (pre.getD u []) m := by
  have h : stopB pre post m = true ↔ ((List.range pre.length).all fun u => !withinB (pre.getD u []) m) = true := by
    unfold stopB
    rw [List.isEmpty_iff, List.all_eq_true]
    constructor
    · intro h u hu
      have hlt := List.mem_range.1 hu
      cases e : nxN pre post m u with
      | none =>
        have := (nxN_none (pre := pre) (post := post) hlt).1 e
        rw [List.getD_eq_getElem?_getD, List.getElem?_eq_getElem hlt, Option.getD_some, this]; rfl
      | some x =>
        have : (u, x) ∈ enL (nxN pre post) m pre.length := enL_mem.2 ⟨hlt, e⟩
        rw [h] at this; cases this
    · intro h
      refine List.eq_nil_iff_forall_not_mem.2 fun p hp => ?_
      obtain ⟨h1, h2⟩ := enL_mem.1 hp
      have h3 := h p.1 (List.mem_range.2 h1)
      have : nxN pre post m p.1 = none := (nxN_none (pre := pre) (post := post) h1).2 (by rw [List.getD_eq_getElem?_getD, List.getElem?_eq_getElem h1, Option.getD_some] at h3; simpa using h3)
      rw [this] at h2; cases h2
  exact Bool.eq_iff_iff.2 h
theorem filt_succ {α : Type} {p : α → Bool} {l : List α} {i : Nat} (h : i < l.length) : (l.take (i + 1)).filter p = if p l[i] then (l.take i).filter p ++ [l[i]] else (l.take i).filter p := by
  rw [List.take_add_one, List.getElem?_eq_getElem h, Option.toList_some, List.filter_append]
  by_cases hp : p l[i] = true
  · rw [if_pos hp, List.filter_cons_of_pos hp]; rfl
  · rw [if_neg hp, List.filter_cons_of_neg hp, List.filter_nil, List.append_nil]
theorem range_all {p : Nat → Bool} {t : Nat} : (List.range (t + 1)).all p = ((List.range t).all p && p t) := by rw [List.range_succ, List.all_append]; simp
end Go.Proofs.Ytocgjopmlhpjdaa

