/-
  VALUES WITHOUT ADDRESSES, 19: arguments that a statement opens stand for deep values.
-/
import Derived.Test.YthbnnffmhnjpjaaVmR
import Derived.Deep.Matrix
import Derived.Deep.Slices
import Derived.ChangeSlices
import Derived.Carry
namespace Go.Vm
open Go.RowKit Go.ChangeShapes Go.WideShapes Go.Deep

abbrev Noone : Nat → Prop := fun _ => False

/-- A row of cells, each of which stands for something. -/
theorem rep_cells {w : World} {a : Addr} {len cap : Nat} (V : Nat → Value) (D : Nat → DV) (hl : len ≤ cap) (hc : ∀ i, i < len → w.cell? (a.add i) = some (V i)) (hd : ∀ i, i < len → DRep w Noone (V i) (D i)) :
    DRep w Noone (.slice (some a) len cap) (.sl ((List.range len).map D) len none) := by
  have key : len ≠ 0 → a.spot = none := by
    intro h0
    have := World.cell?_spot (hc 0 (by omega))
    simpa [Addr.add] using this
  refine .sl ((List.range len).map V) hl (fun c h => by cases h) (by simp) (fun hne => ⟨key ?_, fun h => h⟩) (fun i v hv => ?_) (fun i v x hv hx => ?_)
  · intro h0
    apply hne
    subst h0; rfl
  · rw [List.getElem?_map] at hv
    by_cases hi : i < len
    · rw [List.getElem?_range hi] at hv
      simp only [Option.map_some, Option.some.injEq] at hv
      subst hv
      have h1 := hc i hi
      obtain ⟨b, off, spot⟩ := a
      obtain rfl : spot = none := key (by omega)
      rwa [add_plain] at h1
    · rw [List.getElem?_eq_none (by simp; omega)] at hv; cases hv
  · rw [List.getElem?_map] at hv hx
    by_cases hi : i < len
    · rw [List.getElem?_range hi] at hv hx
      simp only [Option.map_some, Option.some.injEq] at hv hx
      subst hv hx
      exact hd i hi
    · rw [List.getElem?_eq_none (by simp; omega)] at hv; cases hv

theorem vec_range {α : Type} {R : DV → α → Prop} {n : Nat} {D : Nat → DV} {A : Nat → α} (h : ∀ i, i < n → R (D i) (A i)) : Vec R (.sl ((List.range n).map D) n none) ((List.range n).map A) := by
  have : Vec R (.sl ((List.range n).map D) ((List.range n).map A).length none) ((List.range n).map A) := .sl (by simp) fun i c x hc hx => by
    rw [List.getElem?_map] at hc hx
    by_cases hi : i < n
    · rw [List.getElem?_range hi] at hc hx
      simp only [Option.map_some, Option.some.injEq] at hc hx
      subst hc hx
      exact h i hi
    · rw [List.getElem?_eq_none (by simp; omega)] at hc; cases hc
  simpa using this

theorem maxLen_is : maxLen = 9223372036854775807 := rfl

section
variable {H : Type} {enc : TypeId × Value → H} {P : Program} {w : World} {held : Bool}

/-- A slice of ints. -/
theorem open_deep_ints {t e : TypeId} {a : Option Addr} {len cap : Nat} {d : DataW H} {p : List MemPlace} (ht : P.underlying t = some (.slice e)) (he : P.underlying e = some (.int .i64)) (hc : P.cellsOf e = 1)
    (h : DataW.Trod enc P w 0 (fun _ => true) held t (.slice a len cap) d p) :
    ∃ dv l, DRep w Noone (.slice a len cap) dv ∧ Ints dv l ∧ l.length ≤ 9223372036854775807 := by
  obtain ⟨fuel, hf⟩ := h
  rcases open_ints ht he hc hf with ⟨hcs, _⟩ | ⟨x, l, c, zs, hcs, _, hl, hm, hz, _, hcell, hwz⟩
  · simp [Value.cells] at hcs
    obtain ⟨rfl, rfl, rfl⟩ := hcs
    exact ⟨Dnil, [], .lit _, .nil, by simp⟩
  · simp [Value.cells] at hcs
    obtain ⟨rfl, rfl, rfl⟩ := hcs
    simp only [if_true] at hz
    refine ⟨_, _, rep_cells (fun i => .int .i64 (zs.getD i 0)) (fun i => DI (zs.getD i 0)) hl (fun i hi => hcell i (by omega)) (fun i _ => .lit _), vec_range (A := fun i => zs.getD i 0) fun i _ => rfl, ?_⟩
    have := maxLen_is
    simp; omega

/-- A slice of slices of ints. -/
theorem open_deep_mat {t e q : TypeId} {a : Option Addr} {len cap : Nat} {d : DataW H} {p : List MemPlace} (ht : P.underlying t = some (.slice e)) (he : P.underlying e = some (.slice q)) (hq : P.underlying q = some (.int .i64))
    (hc : P.cellsOf e = 1) (hc' : P.cellsOf q = 1) (h : DataW.Trod enc P w 0 (fun _ => true) held t (.slice a len cap) d p) :
    ∃ dv l, DRep w Noone (.slice a len cap) dv ∧ Mat dv l ∧ l.length ≤ 9223372036854775807 ∧ ∀ r ∈ l, r.length ≤ 9223372036854775807 := by
  obtain ⟨fuel, hf⟩ := h
  rcases open_int_rows ht he hq hc hc' hf with ⟨hcs, _⟩ | ⟨x, l, c, A, L, C, Z, hcs, _, hl, hm, _, hrows⟩
  · simp [Value.cells] at hcs
    obtain ⟨rfl, rfl, rfl⟩ := hcs
    exact ⟨Dnil, [], .lit _, .nil, by simp, by simp⟩
  · simp [Value.cells] at hcs
    obtain ⟨rfl, rfl, rfl⟩ := hcs
    have each : ∀ r, r < len → ∃ y : DV × List Int, DRep w Noone (.slice (A r) (L r) (C r)) y.1 ∧ Ints y.1 y.2 ∧ y.2.length ≤ 9223372036854775807 := by
      intro r hr
      obtain ⟨_, h2, h3, h4, h5, h6, h7⟩ := hrows r (by omega)
      cases hA : A r with
      | none =>
        have h0 := h6 hA
        have hL : L r = 0 := by omega
        rw [h0, hL]
        exact ⟨(Dnil, []), .lit _, .nil, by simp⟩
      | some a' =>
        have h8 := (h7 a' hA).2
        refine ⟨(_, _), rep_cells (fun i => .int .i64 ((Z r).getD i 0)) (fun i => DI ((Z r).getD i 0)) h2 (fun i hi => h8 i (by omega)) (fun i _ => .lit _), vec_range (A := fun i => (Z r).getD i 0) fun i _ => rfl, ?_⟩
        have := maxLen_is
        simp; omega
    obtain ⟨y, hy⟩ := choose_lt each
    refine ⟨_, _, rep_cells (fun r => .slice (A r) (L r) (C r)) (fun r => (y r).1) hl (fun i hi => (hrows i (by omega)).1) (fun i hi => (hy i hi).1), vec_range (A := fun r => (y r).2) fun i hi => (hy i hi).2.1, ?_, ?_⟩
    · have := maxLen_is
      simp; omega
    · intro r hr
      obtain ⟨i, hi, rfl⟩ := List.mem_map.1 hr
      exact (hy i (by simpa using hi)).2.2

end

theorem DRep.bool {w : World} {M : Nat → Prop} {v : Value} {b : Bool} (h : DRep w M v (DB b)) : v = .bool b := by cases h; rfl

end Go.Vm
