import Derived.Test.YtdgahcbalabjdaaGreatZBaA
import Derived.Test.YtdgahcbalabjdaaGreatCyN
/-
  Batch: what a statement gives.
-/
namespace Go.Proofs.YtdgahcbalabjdaaGreat
open Go.Vm Go.Ht Go.Ba

theorem flat_eq {α : Type} {f : α → List DV} {rows : List (List DV)} (h : ∀ r ∈ rows, ∃ a, r = f a) : ∃ L : List α, L.length = rows.length ∧ rows.flatten = L.flatMap f := by
  obtain ⟨L, h1, h2⟩ := list_of (Q := fun r a => r = f a) rows h
  refine ⟨L, h1, ?_⟩
  rw [List.flatMap_def]
  congr 1
  apply List.ext_getElem
  · simp [h1]
  · intro i k1 k2
    rw [h2 i k1 (by rw [h1]; exact k1)]; simp
theorem fl_of {α : Type} {k : Nat} {f : α → List DV} {d : DV} (h : VecP k (fun r => ∃ a, r = f a) d) : ∃ l : List α, FlD k f d l ∧ l.length ≤ 9223372036854775807 := by
  rcases h.rows with rfl | ⟨rows, cap, rfl, hl, hr⟩
  · exact ⟨[], .nil, by simp⟩
  · obtain ⟨L, h1, h2⟩ := flat_eq hr
    rw [h2, ← h1]
    exact ⟨L, .sl, by omega⟩
theorem open_i : Opn Tryz.prog 3 (One fun d => ∃ n, IsI d n) := (Opn.int Tryz.underlying3).mono fun ds ⟨d, e, n, hd, _⟩ => ⟨d, e, n, hd⟩
theorem open_op : Opn Tryz.prog 59 fun ds => ∃ o : Int × Int, ds = c2 o := by
  refine (Opn.struct Tryz.underlying59 [(1, (One fun d => ∃ n, IsI d n)), (1, (One fun d => ∃ n, IsI d n))] (fun i => i) rfl rfl (by kernel_rfl) fun i f q hf hq => ?_).mono fun ds h => ?_
  · match i with
    | 0 => simp at hf hq; subst hf hq; exact ⟨rfl, by kernel_rfl, rfl, open_i⟩
    | 1 => simp at hf hq; subst hf hq; exact ⟨rfl, by kernel_rfl, rfl, open_i⟩
    | i + 2 => simp at hf
  · obtain ⟨_, _, rfl, _, ⟨_, rfl, a, rfl⟩, _, _, rfl, _, ⟨_, rfl, b, rfl⟩, rfl⟩ := h
    exact ⟨(a, b), rfl⟩
theorem flat1_get : ∀ {rows : List (List DV)} {i : Nat} {d : DV}, (∀ r ∈ rows, ∃ d, r = [d]) → (h : i < rows.length) → rows[i] = [d] → rows.flatten[i]? = some d
  | [], i, _, _, h, _ => absurd h (Nat.not_lt_zero _)
  | r :: rows, 0, d, _, _, e => by simp at e; subst e; simp
  | r :: rows, i + 1, d, hr, h, e => by
    obtain ⟨d0, rfl⟩ := hr r (by simp)
    have := flat1_get (rows := rows) (i := i) (d := d) (fun x hx => hr x (by simp [hx])) (by simpa using h) (by simpa using e)
    simpa using this
def JobP (d : DV) : Prop := ∃ j, PrD d j ∧ j.length ≤ 9223372036854775807
theorem open_job : Opn Tryz.prog 57 (One JobP) := (Opn.slice Tryz.underlying57 (by kernel_rfl) open_op).mono fun ds ⟨d, e, h⟩ => ⟨d, e, fl_of h⟩
def JobsP (d : DV) : Prop := ∃ J, JbD d J ∧ J.length ≤ 9223372036854775807 ∧ ∀ j ∈ J, j.length ≤ 9223372036854775807
theorem jobs_of {d : DV} (h : VecP 1 (One JobP) d) : JobsP d := by
  rcases h.rows with rfl | ⟨rows, cap, rfl, hl, hr⟩
  · exact ⟨[], .nil, by simp, fun j hj => by simp at hj⟩
  · obtain ⟨J, h1, h2⟩ := list_of (Q := fun r (j : List (Int × Int)) => ∃ d, r = [d] ∧ PrD d j ∧ j.length ≤ 9223372036854775807) rows (fun r h => by
      obtain ⟨d, e, j, q1, q2⟩ := hr r h
      exact ⟨j, d, e, q1, q2⟩)
    have hf : rows.flatten.length = rows.length := by
      have : ∀ rows : List (List DV), (∀ r ∈ rows, One JobP r) → rows.flatten.length = rows.length := by
        intro rows
        induction rows with
        | nil => intro _; rfl
        | cons r rows ih =>
          intro h
          obtain ⟨d, e, _⟩ := h r (by simp)
          rw [List.flatten_cons, List.length_append, ih fun x hx => h x (by simp [hx]), e]; simp; omega
      exact this rows hr
    refine ⟨J, ?_, by omega, fun j hj => ?_⟩
    · rw [← h1]
      refine .sl (by rw [hf, h1]) fun i c y hc hy => ?_
      have hi : i < J.length := (List.getElem?_eq_some_iff.1 hy).1
      obtain ⟨d, e, q1, _⟩ := h2 i (by omega) hi
      have hcd : rows.flatten[i]? = some d := flat1_get (fun r hr' => by obtain ⟨d, e, _⟩ := hr r hr'; exact ⟨d, e⟩) (by omega) e
      rw [hcd] at hc; cases hc
      rw [List.getElem?_eq_getElem hi] at hy; cases hy
      exact q1
    · obtain ⟨i, hi, rfl⟩ := List.getElem_of_mem hj
      obtain ⟨_, _, _, q⟩ := h2 i (by omega) hi
      exact q
theorem open_jobs : Opn Tryz.prog 22 (One JobsP) := (Opn.slice Tryz.underlying22 (by kernel_rfl) open_job).mono fun ds ⟨d, e, h⟩ => ⟨d, e, jobs_of h⟩
def ShopP (ds : List DV) : Prop := ∃ N jd J, ds = [DI N, jd] ∧ JbD jd J ∧ J.length ≤ 9223372036854775807 ∧ ∀ j ∈ J, j.length ≤ 9223372036854775807
theorem open_shop : Opn Tryz.prog 24 ShopP := by
  refine (Opn.struct Tryz.underlying24 [(1, (One fun d => ∃ n, IsI d n)), (1, One JobsP)] (fun i => i) rfl rfl (by kernel_rfl) fun i f q hf hq => ?_).mono fun ds h => ?_
  · match i with
    | 0 => simp at hf hq; subst hf hq; exact ⟨rfl, by kernel_rfl, rfl, open_i⟩
    | 1 => simp at hf hq; subst hf hq; exact ⟨rfl, by kernel_rfl, rfl, open_jobs⟩
    | i + 2 => simp at hf
  · obtain ⟨_, _, rfl, _, ⟨_, rfl, a, rfl⟩, _, _, rfl, _, ⟨jd, rfl, J, h1, h2, h3⟩, rfl⟩ := h
    exact ⟨a, jd, J, rfl, h1, h2, h3⟩
end Go.Proofs.YtdgahcbalabjdaaGreat

