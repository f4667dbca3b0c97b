import Derived.Test.YtdilkpcnkhedlaaBaO
import Derived.Test.YtdilkpcnkhedlaaVmOr
/-
  Batch: what an order is (pure): read by sorting, and read by marks.
-/
namespace Go.Ba
open Go.Vm Go.Ht

theorem perm_of_sub : ∀ {l m : List Int}, l.Nodup → (∀ x ∈ l, x ∈ m) → m.length ≤ l.length → l.Perm m
  | [], m, _, _, h => by
    have : m = [] := List.length_eq_zero_iff.1 (by simpa using h)
    subst this; exact .refl _
  | a :: l, m, hn, hs, h => by
    have ha := hs a (by simp)
    have hn2 := List.nodup_cons.1 hn
    have h1 : l.Perm (m.erase a) := perm_of_sub hn2.2 (fun x hx => by
      have hx2 := hs x (by simp [hx])
      exact (List.mem_erase_of_ne (fun e : x = a => hn2.1 (by rw [← e]; exact hx))).2 hx2) (by rw [List.length_erase_of_mem ha]; simp at h; omega)
    exact (h1.cons a).trans (List.perm_cons_erase ha).symm
theorem len_of_sub : ∀ {l m : List Int}, l.Nodup → (∀ x ∈ l, x ∈ m) → l.length ≤ m.length
  | [], m, _, _ => by simp
  | a :: l, m, hn, hs => by
    have ha := hs a (by simp)
    have hn2 := List.nodup_cons.1 hn
    have h1 := len_of_sub (m := m.erase a) hn2.2 (fun x hx => by
      have hx2 := hs x (by simp [hx])
      exact (List.mem_erase_of_ne (fun e : x = a => hn2.1 (by rw [← e]; exact hx))).2 hx2)
    rw [List.length_erase_of_mem ha] at h1
    have : 0 < m.length := List.length_pos_of_mem ha
    simp; omega
theorem rowI_nodup (ops : List (Int × Int)) (m : Int) : (rowI ops m).Nodup := (rowI_lt ops m).imp fun h => by omega
theorem sort_eq {l : List Int} {ops : List (Int × Int)} {m : Int} (h : l.Perm (rowI ops m)) : sortI l = rowI ops m :=
  List.Perm.eq_of_pairwise (le := (· ≤ ·)) (fun a b _ _ h1 h2 => by omega) (sortI_sorted l) ((rowI_lt ops m).imp fun h => by omega) ((sortI_perm l).trans h)
theorem perm_of_sort {l : List Int} {ops : List (Int × Int)} {m : Int} (h : sortI l = rowI ops m) : l.Perm (rowI ops m) := h ▸ (sortI_perm l).symm
/-- Some different operations of machine m. -/
def RowOk (ops : List (Int × Int)) (m : Int) (r : List Int) : Prop := (∀ x ∈ r, x ∈ rowI ops m) ∧ r.Nodup

theorem sum_set : ∀ (L : List (List Int)) (m : Nat) (r : List Int) (h : m < L.length), r.length = L[m].length + 1 → ((L.set m r).map List.length).sum = (L.map List.length).sum + 1
  | [], m, _, h, _ => absurd h (Nat.not_lt_zero _)
  | a :: L, 0, r, _, e => by simp at e ⊢; omega
  | a :: L, m + 1, r, h, e => by
    have := sum_set L m r (by simpa using h) (by simpa using e)
    simp at this ⊢; omega
theorem sum_msO {M : Nat} {ops : List (Int × Int)} (hm : ∀ o ∈ ops, 0 ≤ o.1 ∧ o.1 < M) : ∀ k, k ≤ ops.length → ((msO M (ops.take k)).map List.length).sum = k
  | 0, _ => by
    have : ∀ M : Nat, ((msO M []).map List.length).sum = 0 := fun M => by
      induction M with
      | zero => rfl
      | succ M ih =>
        unfold msO at ih ⊢
        rw [List.range_succ, List.map_append, List.map_append, List.sum_append, ih]; rfl
    simpa using this M
  | k + 1, h => by
    have ih := sum_msO hm k (by omega)
    have ho := hm ops[k] (List.getElem_mem _)
    have e : ops[k].1 = ((ops[k].1.toNat : Nat) : Int) := by omega
    rw [List.take_succ_eq_append_getElem h, msO_snoc (m := ops[k].1.toNat) (by omega) e, sum_set _ _ _ (by rw [msO_len]; omega) (by simp [msO]), ih]
theorem sum_all {M : Nat} {ops : List (Int × Int)} (hm : ∀ o ∈ ops, 0 ≤ o.1 ∧ o.1 < M) : ((msO M ops).map List.length).sum = ops.length := by
  have := sum_msO hm ops.length (Nat.le_refl _)
  rwa [List.take_length] at this
theorem flat_sum (l : List (List Int)) : l.flatten.length = (l.map List.length).sum := by simp [List.length_flatten]
theorem pt_eq : ∀ (A B : List (List Int)), A.length = B.length → (∀ i (h1 : i < A.length) (h2 : i < B.length), A[i].length ≤ B[i].length) → (B.map List.length).sum ≤ (A.map List.length).sum → ∀ i (h1 : i < A.length) (h2 : i < B.length), A[i].length = B[i].length
  | [], _, _, _, _, i, h1, _ => absurd h1 (Nat.not_lt_zero _)
  | a :: A, [], hl, _, _, _, _, _ => by simp at hl
  | a :: A, b :: B, hl, hle, hs, i, h1, h2 => by
    have h0 := hle 0 (by simp) (by simp)
    simp only [List.getElem_cons_zero] at h0
    simp only [List.map_cons, List.sum_cons] at hs
    have hle2 : ∀ i (h1 : i < A.length) (h2 : i < B.length), A[i].length ≤ B[i].length := fun i h1 h2 => by
      have := hle (i + 1) (by simp; omega) (by simp; omega)
      simpa using this
    have hsum : (A.map List.length).sum ≤ (B.map List.length).sum := by
      have : ∀ (A B : List (List Int)), A.length = B.length → (∀ i (h1 : i < A.length) (h2 : i < B.length), A[i].length ≤ B[i].length) → (A.map List.length).sum ≤ (B.map List.length).sum := by
        intro A
        induction A with
        | nil => simp
        | cons a A ih =>
          intro B hl h
          cases B with
          | nil => simp at hl
          | cons b B =>
            have h0 := h 0 (by simp) (by simp)
            have h1 := ih B (by simpa using hl) fun i h1 h2 => by
              have := h (i + 1) (by simp; omega) (by simp; omega)
              simpa using this
            simp at h0 h1 ⊢; omega
      exact this A B (by simpa using hl) hle2
    cases i with
    | zero => simp; omega
    | succ i =>
      have := pt_eq A B (by simpa using hl) hle2 (by omega) i (by simpa using h1) (by simpa using h2)
      simpa using this
/-- An order: read by sorting each machine's slice. -/
def ordB (M : Nat) (ops : List (Int × Int)) (l : List (List Int)) : Bool := decide (l.map sortI = msO M ops)
theorem ordB_row {M : Nat} {ops : List (Int × Int)} {l : List (List Int)} (h : ordB M ops l = true) : l.length = M ∧ ∀ (m : Nat) (hm : m < l.length), l[m].Perm (rowI ops (m : Int)) := by
  have e := of_decide_eq_true h
  have hl : l.length = M := by have := congrArg List.length e; simpa [msO_len] using this
  refine ⟨hl, fun m hm => perm_of_sort ?_⟩
  have h1 : (l.map sortI)[m]? = (msO M ops)[m]? := by rw [e]
  rw [List.getElem?_map, List.getElem?_eq_getElem hm] at h1
  simp only [msO, List.getElem?_map, List.getElem?_range (show m < M by omega), Option.map_some, Option.some.injEq] at h1
  exact h1
theorem ordB_no {M : Nat} {ops : List (Int × Int)} {l : List (List Int)} {m : Nat} (hm : m < l.length) (h : ¬ RowOk ops m l[m]) : ordB M ops l = false := by
  rw [← Bool.not_eq_true]
  intro hb
  have hp := (ordB_row hb).2 m hm
  exact h ⟨fun x hx => hp.mem_iff.1 hx, hp.nodup_iff.2 (rowI_nodup ops m)⟩
theorem ordB_iff {M : Nat} {ops : List (Int × Int)} {l : List (List Int)} (hops : ∀ o ∈ ops, 0 ≤ o.1 ∧ o.1 < M) (h : ∀ (m : Nat) (hm : m < l.length), RowOk ops m l[m]) : ordB M ops l = true ↔ l.length = M ∧ l.flatten.length = ops.length := by
  constructor
  · intro hb
    obtain ⟨h1, h2⟩ := ordB_row hb
    refine ⟨h1, ?_⟩
    rw [flat_sum, ← sum_all hops]
    have e := of_decide_eq_true hb
    rw [← e, List.map_map]
    congr 1
    apply List.map_congr_left
    intro r _
    simp [length_sortI]
  · rintro ⟨h1, h2⟩
    refine decide_eq_true ?_
    have hle : ∀ i (h1 : i < l.length) (h2 : i < (msO M ops).length), l[i].length ≤ (msO M ops)[i].length := fun i h3 h4 => by
      simp only [msO, List.getElem_map, List.getElem_range]
      exact len_of_sub (h i h3).2 (h i h3).1
    have heq := pt_eq l (msO M ops) (by rw [msO_len]; exact h1) hle (by rw [sum_all hops, ← flat_sum l, h2]; exact Nat.le_refl _)
    apply List.ext_getElem
    · rw [List.length_map, msO_len, h1]
    · intro i h3 h4
      rw [List.length_map] at h3
      have e := heq i h3 h4
      rw [List.getElem_map]
      simp only [msO, List.getElem_map, List.getElem_range] at e ⊢
      exact sort_eq (perm_of_sub (h i h3).2 (h i h3).1 (by omega))
/-- Marks. -/
def bsX (l : List Bool) : List XV := l.map fun b => XV.d (DB b)
theorem bsX_len (l : List Bool) : (bsX l).length = l.length := by simp [bsX]
theorem bsX_get {l : List Bool} {i : Nat} (h : i < l.length) : (bsX l)[0 + i]? = some (.d (DB (l.getD i false))) := by
  rw [Nat.zero_add]; simp [bsX, h]
theorem bsX_set {l : List Bool} {i : Nat} {b : Bool} : (bsX l).set (0 + i) (.d (DB b)) = bsX (l.set i b) := by
  rw [Nat.zero_add]; unfold bsX; rw [List.map_set]
theorem countT_set : ∀ (l : List Bool) (i : Nat), i < l.length → l.getD i false = false → (l.set i true).countP id = l.countP id + 1
  | [], i, h, _ => absurd h (Nat.not_lt_zero _)
  | b :: l, 0, _, e => by simp at e; subst e; simp
  | b :: l, i + 1, h, e => by
    have := countT_set l i (by simpa using h) (by simpa using e)
    rw [List.set_cons_succ, List.countP_cons, List.countP_cons]; omega
end Go.Ba

