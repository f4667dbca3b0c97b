import Derived.Test.YtdgahcbalabjdaaGreatZBaT
/-
  Batch: the reference: starts and makespans.
-/
namespace Go.Proofs.YtdgahcbalabjdaaGreat
open Go.Vm Go.Ht Go.Ba
/-- When operations start, if an order is right. -/
def stH (N : Int) (J : List (List (Int × Int))) (l : List (List Int)) : Option (List Int) := if (shopB N J && ordB N.toNat J.flatten l) = true then hds J.flatten (arcsO 0 J ++ ordA l) else none
def stE (N : Int) (J : List (List (Int × Int))) (l : List (List Int)) : Int := if shopB N J = false then 2 else if ordB N.toNat J.flatten l = false then 4 else if (hds J.flatten (arcsO 0 J ++ ordA l)).isNone = true then 8 else 0
def stV (N : Int) (J : List (List (Int × Int))) (l : List (List Int)) : DV := .tup [shV (stH N J l), DI (stE N J l)]
theorem stH_some {N : Int} {J : List (List (Int × Int))} {l : List (List Int)} {hs : List Int} (h : stH N J l = some hs) : shopB N J = true ∧ ordB N.toNat J.flatten l = true ∧ hds J.flatten (arcsO 0 J ++ ordA l) = some hs := by
  unfold stH at h
  split at h
  · rename_i h1
    rw [Bool.and_eq_true] at h1
    exact ⟨h1.1, h1.2, h⟩
  · cases h
theorem mem_consT {l : List Int} {k : Nat} (hk : k ≤ l.length) {p : Int × Int} (h : p ∈ consT l k) : p.1 ∈ l ∧ p.2 ∈ l := by
  simp only [consT, List.mem_map, List.mem_range] at h
  obtain ⟨t, ht, rfl⟩ := h
  have h1 : t < l.length := by omega
  have h2 : t + 1 < l.length := by omega
  simp only [List.getD_eq_getElem?_getD, List.getElem?_eq_getElem h1, List.getElem?_eq_getElem h2, Option.getD_some]
  exact ⟨List.getElem_mem _, List.getElem_mem _⟩
theorem ordA_in {M : Nat} {ops : List (Int × Int)} {l : List (List Int)} (h : ordB M ops l = true) : ArcsIn ops.length (ordA l) := fun a ha => by
  obtain ⟨h1, h2⟩ := ordB_row h
  obtain ⟨r, hr, hp⟩ := List.mem_flatMap.1 ha
  obtain ⟨m, hm, rfl⟩ := List.getElem_of_mem hr
  obtain ⟨p1, p2⟩ := mem_consT (Nat.le_refl _) hp
  have g1 := mem_rowI.1 ((h2 m hm).mem_iff.1 p1)
  have g2 := mem_rowI.1 ((h2 m hm).mem_iff.1 p2)
  omega
theorem ord_rows {M : Nat} {ops : List (Int × Int)} {l : List (List Int)} (h : ordB M ops l = true) : l.length = M ∧ ∀ r ∈ l, r.length ≤ ops.length := by
  obtain ⟨h1, h2⟩ := ordB_row h
  refine ⟨h1, fun r hr => ?_⟩
  obtain ⟨m, hm, rfl⟩ := List.getElem_of_mem hr
  rw [(h2 m hm).length_eq]; exact rowI_len _ _
structure StOk (N : Int) (J : List (List (Int × Int))) (l : List (List Int)) : Prop where
  sh : ShopOk N J
  h4 : ∀ j ∈ J, 1 ≤ j.length ∧ j.length ≤ 4
  l4 : l.length ≤ 4
  r9 : ∀ r ∈ l, r.length ≤ 9
  pos : 1 ≤ J.flatten.length
  n9 : J.flatten.length ≤ 9
  tms : Times J.flatten
  inn : ArcsIn J.flatten.length (arcsO 0 J ++ ordA l)
  len : (arcsO 0 J ++ ordA l).length ≤ 1000000
theorem stOk {N : Int} {J : List (List (Int × Int))} {l : List (List Int)} (h : shopB N J = true) (h2 : ordB N.toNat J.flatten l = true) : StOk N J l := by
  have hS := shopB_iff.1 h
  obtain ⟨q1, q2⟩ := ord_rows h2
  have m1 := hS.m1
  have m4 := hS.m4
  have l4 : l.length ≤ 4 := by omega
  have n9 := hS.n9
  have r9 : ∀ r ∈ l, r.length ≤ 9 := fun r hr => by have := q2 r hr; omega
  have hal := arcsO_len 0 J
  have hol := ordA_len (l := l) fun r hr => by have := r9 r hr; omega
  exact ⟨hS, fun j hj => ⟨(hS.jb j hj).1, (hS.jb j hj).2.1⟩, l4, r9, ops_pos hS, n9, times_ok hS, fun a ha => by
    rcases List.mem_append.1 ha with ha | ha
    · exact arcs_in a ha
    · exact ordA_in h2 a ha, by rw [List.length_append]; omega⟩
theorem getD_some {α : Type} {o : Option (List α)} {i : Nat} (h : i < (o.getD []).length) : ∃ hs, o = some hs := by
  cases o with
  | none => simp at h
  | some hs => exact ⟨hs, rfl⟩
end Go.Proofs.YtdgahcbalabjdaaGreat

