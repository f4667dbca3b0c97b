import Derived.Test.YthbnnffmhnjpjaaVmDz
import Derived.Test.YthbnnffmhnjpjaaFlX
import Derived.Test.YthbnnffmhnjpjaaCyM
/-
  MATRICES OF INTS as deep values: by functions of the row and the column.
-/
namespace Go.Cy
open Go.Vm Go.RowKit

theorem genM_len (R N : Nat) (f : Nat → Nat → Int) : (genM R N f).length = R := by simp [genM]
theorem genM_row {R N : Nat} {f : Nat → Nat → Int} {i : Nat} (h : i < (genM R N f).length) : (genM R N f)[i] = (List.range N).map (f i) := by simp [genM]
theorem genM_get {R N : Nat} {f : Nat → Nat → Int} {i j : Nat} (h : i < (genM R N f).length) (h' : j < ((genM R N f)[i]).length) : ((genM R N f)[i])[j] = f i j := by simp [genM]
theorem genM_rowlen {R N : Nat} {f : Nat → Nat → Int} {i : Nat} (h : i < (genM R N f).length) : ((genM R N f)[i]).length = N := by simp [genM]

/-- A matrix as a function: never outside. -/
def mf (m : List (List Int)) : Nat → Nat → Int := fun i j => (m.getD i []).getD j Nv
def okX (L x : Int) : Bool := decide (x = Nv) || (decide (-L ≤ x) && decide (x ≤ L))
def okRow (n : Nat) (L : Int) (r : List Int) : Bool := decide (r.length = n) && r.all (okX L)
def validB (L : Int) (m : List (List Int)) : Bool := (decide (1 ≤ m.length) && decide (m.length ≤ 6)) && m.all (okRow m.length L)

theorem genM_mf {m : List (List Int)} {n : Nat} (hn : m.length = n) (hr : ∀ r ∈ m, r.length = n) : m = genM n n (mf m) := by
  refine List.ext_getElem (by simp [genM, hn]) fun i h1 h2 => ?_
  refine List.ext_getElem (by simp [genM]; exact hr _ (List.getElem_mem h1)) fun j h3 h4 => ?_
  rw [genM_get]
  simp [mf, h1, h3]
theorem valid_of {L : Int} {m : List (List Int)} (h : validB L m = true) : 1 ≤ m.length ∧ m.length ≤ 6 ∧ m = genM m.length m.length (mf m) ∧ GoodM L (mf m) ∧ Sup m.length (DM (mf m)) := by
  unfold validB at h
  simp only [Bool.and_eq_true, decide_eq_true_eq, List.all_eq_true] at h
  obtain ⟨⟨h1, h2⟩, h3⟩ := h
  have hr : ∀ r ∈ m, r.length = m.length ∧ ∀ x ∈ r, x = Nv ∨ (-L ≤ x ∧ x ≤ L) := fun r hr => by
    have := h3 r hr
    simp only [okRow, Bool.and_eq_true, decide_eq_true_eq, List.all_eq_true, okX, Bool.or_eq_true] at this
    exact this
  refine ⟨h1, h2, genM_mf rfl fun r h => (hr r h).1, fun i j => ?_, fun i j hij => ?_⟩
  · unfold mf
    by_cases hi : i < m.length
    · have e : m.getD i [] = m[i] := by simp [hi]
      rw [e]
      by_cases hj : j < m[i].length
      · have e2 : m[i].getD j Nv = m[i][j] := by simp [hj]
        rw [e2]; exact (hr _ (List.getElem_mem hi)).2 _ (List.getElem_mem hj)
      · left; simp [hj]
    · left; simp [hi]
  · show dec _ = none
    have : mf m i j = Nv := by
      unfold mf
      by_cases hi : i < m.length
      · have e : m.getD i [] = m[i] := by simp [hi]
        rw [e]
        have hj : ¬ j < m[i].length := fun h => hij ⟨hi, by rw [← (hr _ (List.getElem_mem hi)).1]; exact h⟩
        simp [hj]
      · simp [hi]
    rw [this, dec_nv]

theorem gre_take {l : List Int} {i : Nat} (h : i < l.length) : gre (l.take (i + 1)) = max (gre (l.take i)) l[i] := by
  rw [List.take_succ_eq_append_getElem h]; exact foldl_snoc _ _ _
theorem gre_end {l : List Int} {i : Nat} (h : l.length ≤ i) : l.take i = l := List.take_of_length_le h
theorem wrapI {x : Int} (h : -9223372036854775808 ≤ x ∧ x ≤ 9223372036854775807) : IntKind.i64.wrap x = x := wrap_id (by omega)

/-- Cells of a slice of ints of one's own. -/
def icells (l : List Int) : List XV := l.map fun x => .d (DI x)
theorem icells_len (l : List Int) : (icells l).length = l.length := by simp [icells]
theorem icells_get {l : List Int} {i : Nat} (h : i < l.length) : (icells l)[0 + i]? = some (.d (DI l[i])) := by simp [icells, h]
end Go.Cy

