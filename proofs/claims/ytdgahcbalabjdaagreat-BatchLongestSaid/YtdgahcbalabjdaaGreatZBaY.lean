import Derived.Test.YtdgahcbalabjdaaGreatZBaX
/-
  Batch: the law of starts and makespans.
-/
namespace Go.Proofs.YtdgahcbalabjdaaGreat
open Go.Vm Go.Ht Go.Ba
/-- Orders as they are copied. -/
def cutL (l : List (List Int)) : List (List Int) := (l.take 6).map (List.take 12)
theorem cutJ_eq {N : Int} {J : List (List (Int × Int))} (h : shopB N (cutJ J) = true) : cutJ J = J := by
  have hS := shopB_iff.1 h
  have h3 := hS.j3
  have hl : J.length ≤ 3 := by unfold cutJ at h3; rw [List.length_map, List.length_take] at h3; omega
  have e1 : J.take 5 = J := List.take_of_length_le (by omega)
  unfold cutJ
  rw [e1]
  have : ∀ j ∈ J, List.take 6 j = j := fun j hj => by
    have hm : List.take 6 j ∈ cutJ J := by unfold cutJ; rw [e1]; exact List.mem_map_of_mem hj
    have := (hS.jb _ hm).2.1
    rw [List.length_take] at this
    exact List.take_of_length_le (by omega)
  rw [List.map_congr_left (g := id) this, List.map_id]
theorem cutJ_ok {N : Int} {J : List (List (Int × Int))} (h : shopB N J = true) : cutJ J = J := by
  have hS := shopB_iff.1 h
  have h3 := hS.j3
  have e1 : J.take 5 = J := List.take_of_length_le (by omega)
  unfold cutJ
  rw [e1]
  have : ∀ j ∈ J, List.take 6 j = j := fun j hj => List.take_of_length_le (by have := (hS.jb j hj).2.1; omega)
  rw [List.map_congr_left (g := id) this, List.map_id]
theorem cutJ_shop {N : Int} {J : List (List (Int × Int))} : shopB N (cutJ J) = shopB N J := by
  cases h : shopB N J with
  | true => rw [cutJ_ok h]; exact h
  | false =>
    cases h2 : shopB N (cutJ J) with
    | false => rfl
    | true => rw [cutJ_eq h2, h] at h2; cases h2
theorem cutL_ok {M n : Nat} {l : List (List Int)} (h1 : l.length = M) (h2 : M ≤ 4) (h3 : ∀ r ∈ l, r.length ≤ n) (h4 : n ≤ 9) : cutL l = l := by
  have e1 : l.take 6 = l := List.take_of_length_le (by omega)
  unfold cutL
  rw [e1]
  have : ∀ r ∈ l, List.take 12 r = r := fun r hr => List.take_of_length_le (by have := h3 r hr; omega)
  rw [List.map_congr_left (g := id) this, List.map_id]
theorem cutL_eq {M n : Nat} {l : List (List Int)} (h1 : (cutL l).length = M) (h2 : M ≤ 4) (h3 : ∀ r ∈ cutL l, r.length ≤ n) (h4 : n ≤ 9) : cutL l = l := by
  have e0 : l.length = M := by unfold cutL at h1; rw [List.length_map, List.length_take] at h1; omega
  refine cutL_ok e0 h2 (fun r hr => ?_) h4
  have e1 : l.take 6 = l := List.take_of_length_le (by omega)
  have hm : List.take 12 r ∈ cutL l := by unfold cutL; rw [e1]; exact List.mem_map_of_mem hr
  have := h3 _ hm
  rw [List.length_take] at this; omega
theorem cutL_ord {M : Nat} {ops : List (Int × Int)} {l : List (List Int)} (h2 : M ≤ 4) (h9 : ops.length ≤ 9) : ordB M ops (cutL l) = ordB M ops l := by
  cases h : ordB M ops l with
  | true =>
    obtain ⟨a, b⟩ := ord_rows h
    rw [cutL_ok a h2 b h9]; exact h
  | false =>
    cases h3 : ordB M ops (cutL l) with
    | false => rfl
    | true =>
      obtain ⟨a, b⟩ := ord_rows h3
      rw [cutL_eq a h2 b h9, h] at h3; cases h3
theorem cut_st {N : Int} {J : List (List (Int × Int))} {l : List (List Int)} : stH N (cutJ J) (cutL l) = stH N J l ∧ stE N (cutJ J) (cutL l) = stE N J l := by
  cases h : shopB N J with
  | false =>
    unfold stH stE
    rw [cutJ_shop, h]; exact ⟨rfl, rfl⟩
  | true =>
    have hS := shopB_iff.1 h
    have m4 := hS.m4
    rw [cutJ_ok h]
    cases h2 : ordB N.toNat J.flatten l with
    | false =>
      unfold stH stE
      rw [cutL_ord (by omega) hS.n9, h, h2]; exact ⟨rfl, rfl⟩
    | true =>
      obtain ⟨a, b⟩ := ord_rows h2
      rw [cutL_ok a (by omega) b hS.n9]; exact ⟨rfl, rfl⟩
theorem cut_stV {N : Int} {J : List (List (Int × Int))} {l : List (List Int)} : stV N (cutJ J) (cutL l) = stV N J l := by
  unfold stV; rw [cut_st.1, cut_st.2]
theorem cutJ_len (J : List (List (Int × Int))) : (cutJ J).length ≤ 5 := by unfold cutJ; rw [List.length_map, List.length_take]; omega
theorem cutJ_row {J : List (List (Int × Int))} : ∀ j ∈ cutJ J, j.length ≤ 6 := fun j hj => by
  unfold cutJ at hj
  obtain ⟨i, _, rfl⟩ := List.mem_map.1 hj
  rw [List.length_take]; omega
theorem cutL_len (l : List (List Int)) : (cutL l).length ≤ 6 := by unfold cutL; rw [List.length_map, List.length_take]; omega
theorem cutL_row {l : List (List Int)} : ∀ r ∈ cutL l, r.length ≤ 12 := fun r hr => by
  unfold cutL at hr
  obtain ⟨i, _, rfl⟩ := List.mem_map.1 hr
  rw [List.length_take]; omega
theorem getD_rows {l : List (List Int)} (h : ∀ r ∈ l, r.length ≤ 9223372036854775807) : ∀ i, i < l.length → (l.getD i []).length ≤ 9223372036854775807 := fun i hi => by
  rw [List.getD_eq_getElem?_getD, List.getElem?_eq_getElem hi]
  exact h _ (List.getElem_mem hi)
theorem starts_cut {N : Int} {jd : DV} {J : List (List (Int × Int))} (_ : JbD jd J) (_ : J.length ≤ 9223372036854775807) (_ : ∀ j ∈ J, j.length ≤ 9223372036854775807) {ld : DV} {l : List (List Int)} (hm : Mat ld l) (_ : l.length ≤ 9223372036854775807) (_ : ∀ r ∈ l, r.length ≤ 9223372036854775807) : DeepCall Tryz.prog 12 [.agg [DI N, jobsV (cutJ J)], rows12 l ld] (stV N J l) := by
  have h := starts15 (N := N) (jobsV_ok (cutJ J)) (by have := cutJ_len J; omega) (fun j hj => by have := cutJ_row j hj; omega) (rows12_mat hm) (by have := cutL_len l; unfold cutL at this; omega) (fun r hr => by have := cutL_row r hr; omega)
  rw [show (l.take 6).map (List.take 12) = cutL l from rfl, cut_stV] at h
  exact h
end Go.Proofs.YtdgahcbalabjdaaGreat

