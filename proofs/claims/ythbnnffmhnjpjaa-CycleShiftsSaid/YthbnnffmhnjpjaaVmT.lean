import Derived.Test.YthbnnffmhnjpjaaVmR
import Derived.Deep.Matrix
import Derived.Deep.Slices
import Derived.ChangeSlices
import Derived.Carry
import Derived.OpenShut
/-
  VALUES WITHOUT ADDRESSES, 19: arguments that a statement opens stand for deep values.
-/
namespace Go.Vm
open Go.RowKit Go.ChangeShapes Go.WideShapes Go.Deep

abbrev Noone : Nat → Prop := fun _ => False

/-- A row of cells, each of which stands for something. -/
theorem rep_cells {w : World} {a : Addr} {len cap : Nat} (V : Nat → Value) (D : Nat → DV) (hl : len ≤ cap) (hc : ∀ i, i < len → w.cell? (a.add i) = some (V i)) (hd : ∀ i, i < len → DRep w Noone (V i) (D i)) :
    DRep w Noone (.slice (some a) len cap) (.sl ((List.range len).map D) len none) := by
  have key : len ≠ 0 → a.spot = none := by
    intro h0
    have := World.cell?_spot (hc 0 (by omega))
    simpa [Addr.add] using this
  refine .sl ((List.range len).map V) hl (fun c h => by cases h) (by simp) (fun hne => ⟨key ?_, fun h => h⟩) (fun i v hv => ?_) (fun i v x hv hx => ?_)
  · intro h0
    apply hne
    subst h0; rfl
  · rw [List.getElem?_map] at hv
    by_cases hi : i < len
    · rw [List.getElem?_range hi] at hv
      simp only [Option.map_some, Option.some.injEq] at hv
      subst hv
      have h1 := hc i hi
      obtain ⟨b, off, spot⟩ := a
      obtain rfl : spot = none := key (by omega)
      rwa [add_plain] at h1
    · rw [List.getElem?_eq_none (by simp; omega)] at hv; cases hv
  · rw [List.getElem?_map] at hv hx
    by_cases hi : i < len
    · rw [List.getElem?_range hi] at hv hx
      simp only [Option.map_some, Option.some.injEq] at hv hx
      subst hv hx
      exact hd i hi
    · rw [List.getElem?_eq_none (by simp; omega)] at hv; cases hv

theorem vec_range {α : Type} {R : DV → α → Prop} {n : Nat} {D : Nat → DV} {A : Nat → α} (h : ∀ i, i < n → R (D i) (A i)) : Vec R (.sl ((List.range n).map D) n none) ((List.range n).map A) := by
  have : Vec R (.sl ((List.range n).map D) ((List.range n).map A).length none) ((List.range n).map A) := .sl (by simp) fun i c x hc hx => by
    rw [List.getElem?_map] at hc hx
    by_cases hi : i < n
    · rw [List.getElem?_range hi] at hc hx
      simp only [Option.map_some, Option.some.injEq] at hc hx
      subst hc hx
      exact h i hi
    · rw [List.getElem?_eq_none (by simp; omega)] at hc; cases hc
  simpa using this

theorem maxLen_is : maxLen = 9223372036854775807 := rfl

section
variable {H : Type} {enc : TypeId × Value → H} {P : Program} {w : World} {held : Bool}

/-- A slice of ints. -/
theorem open_deep_ints {t e : TypeId} {a : Option Addr} {len cap : Nat} {d : DataW H} {p : List MemPlace} (ht : P.underlying t = some (.slice e)) (he : P.underlying e = some (.int .i64)) (hc : P.cellsOf e = 1)
    (h : DataW.Trod enc P w 0 (fun _ => true) held t (.slice a len cap) d p) :
    ∃ dv l, DRep w Noone (.slice a len cap) dv ∧ Ints dv l ∧ l.length ≤ 9223372036854775807 := by
  obtain ⟨fuel, hf⟩ := h
  rcases open_ints ht he hc hf with ⟨hcs, _⟩ | ⟨x, l, c, zs, hcs, _, hl, hm, hz, _, hcell, hwz⟩
  · simp [Value.cells] at hcs
    obtain ⟨rfl, rfl, rfl⟩ := hcs
    exact ⟨Dnil, [], .lit _, .nil, by simp⟩
  · simp [Value.cells] at hcs
    obtain ⟨rfl, rfl, rfl⟩ := hcs
    simp only [if_true] at hz
    refine ⟨_, _, rep_cells (fun i => .int .i64 (zs.getD i 0)) (fun i => DI (zs.getD i 0)) hl (fun i hi => hcell i (by omega)) (fun i _ => .lit _), vec_range (A := fun i => zs.getD i 0) fun i _ => rfl, ?_⟩
    have := maxLen_is
    simp; omega

/-- A slice of slices of ints. -/
theorem open_deep_mat {t e q : TypeId} {a : Option Addr} {len cap : Nat} {d : DataW H} {p : List MemPlace} (ht : P.underlying t = some (.slice e)) (he : P.underlying e = some (.slice q)) (hq : P.underlying q = some (.int .i64))
    (hc : P.cellsOf e = 1) (hc' : P.cellsOf q = 1) (h : DataW.Trod enc P w 0 (fun _ => true) held t (.slice a len cap) d p) :
    ∃ dv l, DRep w Noone (.slice a len cap) dv ∧ Mat dv l ∧ l.length ≤ 9223372036854775807 ∧ ∀ r ∈ l, r.length ≤ 9223372036854775807 := by
  obtain ⟨fuel, hf⟩ := h
  rcases open_int_rows ht he hq hc hc' hf with ⟨hcs, _⟩ | ⟨x, l, c, A, L, C, Z, hcs, _, hl, hm, _, hrows⟩
  · simp [Value.cells] at hcs
    obtain ⟨rfl, rfl, rfl⟩ := hcs
    exact ⟨Dnil, [], .lit _, .nil, by simp, by simp⟩
  · simp [Value.cells] at hcs
    obtain ⟨rfl, rfl, rfl⟩ := hcs
    have each : ∀ r, r < len → ∃ y : DV × List Int, DRep w Noone (.slice (A r) (L r) (C r)) y.1 ∧ Ints y.1 y.2 ∧ y.2.length ≤ 9223372036854775807 := by
      intro r hr
      obtain ⟨_, h2, h3, h4, h5, h6, h7⟩ := hrows r (by omega)
      cases hA : A r with
      | none =>
        have h0 := h6 hA
        have hL : L r = 0 := by omega
        rw [h0, hL]
        exact ⟨(Dnil, []), .lit _, .nil, by simp⟩
      | some a' =>
        have h8 := (h7 a' hA).2
        refine ⟨(_, _), rep_cells (fun i => .int .i64 ((Z r).getD i 0)) (fun i => DI ((Z r).getD i 0)) h2 (fun i hi => h8 i (by omega)) (fun i _ => .lit _), vec_range (A := fun i => (Z r).getD i 0) fun i _ => rfl, ?_⟩
        have := maxLen_is
        simp; omega
    obtain ⟨y, hy⟩ := choose_lt each
    refine ⟨_, _, rep_cells (fun r => .slice (A r) (L r) (C r)) (fun r => (y r).1) hl (fun i hi => (hrows i (by omega)).1) (fun i hi => (hy i hi).1), vec_range (A := fun r => (y r).2) fun i hi => (hy i hi).2.1, ?_, ?_⟩
    · have := maxLen_is
      simp; omega
    · intro r hr
      obtain ⟨i, hi, rfl⟩ := List.mem_map.1 hr
      exact (hy i (by simpa using hi)).2.2

end

theorem DRep.bool {w : World} {M : Nat → Prop} {v : Value} {b : Bool} (h : DRep w M v (DB b)) : v = .bool b := by cases h; rfl

end Go.Vm

/-
  VALUES WITHOUT ADDRESSES, 20: whatever a statement opens, type by type: integers, booleans, strings, slices, structs, arrays.
-/
namespace Go.Vm
open Go.RowKit Go.ChangeShapes Go.WideShapes Go.Deep

theorem add_add' (a : Addr) (p q : Nat) : (a.add p).add q = a.add (p + q) := by
  unfold Addr.add
  by_cases hp : p = 0
  · subst hp; simp
  · by_cases hq : q = 0
    · subst hq; simp
    · simp [hp, hq, Nat.add_assoc]

/-- Cells stand for deep values. -/
def DReps (w : World) (cs : List Value) (ds : List DV) : Prop := cs.length = ds.length ∧ ∀ (i : Nat) (v : Value) (x : DV), cs[i]? = some v → ds[i]? = some x → DRep w Noone v x

theorem DReps.nil {w : World} : DReps w [] [] := ⟨rfl, fun i v x h => by simp at h⟩
theorem DReps.one {w : World} {v : Value} {x : DV} (h : DRep w Noone v x) : DReps w [v] [x] := ⟨rfl, fun i u y hu hy => by
  cases i with
  | zero => simp at hu hy; subst hu hy; exact h
  | succ i => simp at hu⟩
theorem DReps.append {w : World} {cs cs' : List Value} {ds ds' : List DV} (h : DReps w cs ds) (h' : DReps w cs' ds') : DReps w (cs ++ cs') (ds ++ ds') := by
  refine ⟨by simp [h.1, h'.1], fun i v x hv hx => ?_⟩
  rw [List.getElem?_append] at hv hx
  rw [h.1] at hv
  split at hv
  · rename_i hlt; rw [if_pos hlt] at hx; exact h.2 i v x hv hx
  · rename_i hlt; rw [if_neg hlt] at hx; exact h'.2 _ v x hv hx
theorem DReps.head {w : World} {v : Value} {x : DV} (h : DReps w [v] [x]) : DRep w Noone v x := h.2 0 v x rfl rfl

/-- Whatever reads as of type t stands for deep values of which R holds. -/
def Opn (P : Program) (t : TypeId) (R : List DV → Prop) : Prop :=
  ∀ (H : Type) (enc : TypeId × Value → H) (w : World) (held : Bool) (fuel : Nat) (cs : List Value) (x : DataW H × List MemPlace), DataW.trod enc P w 0 (fun _ => true) held fuel t cs = some x → ∃ ds, DReps w cs ds ∧ R ds

/-- One cell of which R holds. -/
def One (R : DV → Prop) (ds : List DV) : Prop := ∃ d, ds = [d] ∧ R d

section
variable {P : Program} {t e : TypeId}

theorem Opn.mono {R R' : List DV → Prop} (h : Opn P t R) (hr : ∀ ds, R ds → R' ds) : Opn P t R' := fun H enc w held fuel cs x hx => by
  obtain ⟨ds, h1, h2⟩ := h H enc w held fuel cs x hx
  exact ⟨ds, h1, hr _ h2⟩

def IntP (k : IntKind) (d : DV) : Prop := ∃ n, d = .lit (.int k n) ∧ (Lit.int k n).wf = true
def BoolP (d : DV) : Prop := ∃ b, d = DB b
def StrP (d : DV) : Prop := ∃ s : ByteArray, d = .lit (.string s) ∧ s.size ≤ maxLen

theorem Opn.int {k : IntKind} (ht : P.underlying t = some (.int k)) : Opn P t (One (IntP k)) := fun H enc w held fuel cs x h => by
  obtain ⟨n, rfl, _, hw⟩ := DataW.trod_int ht h
  exact ⟨[.lit (.int k n)], .one (.lit _), _, rfl, n, rfl, hw⟩

theorem Opn.bool (ht : P.underlying t = some .bool) : Opn P t (One BoolP) := fun H enc w held fuel cs x h => by
  obtain ⟨b, rfl, _⟩ := DataW.trod_bool ht h
  exact ⟨[DB b], .one (.lit _), _, rfl, b, rfl⟩

theorem Opn.string (ht : P.underlying t = some .string) : Opn P t (One StrP) := fun H enc w held fuel cs x h => by
  obtain ⟨s, rfl, _, hs⟩ := DataW.trod_string ht h
  exact ⟨[.lit (.string s)], .one (.lit _), _, rfl, s, rfl, hs⟩

/-- A slice whose elements take k cells each, of which R holds. -/
inductive VecP (k : Nat) (R : List DV → Prop) : DV → Prop
  | nil : VecP k R Dnil
  | sl {cs : List DV} {len : Nat} {cap : Option Nat} (hn : cs.length = len * k) (hl : len ≤ 9223372036854775807) (h : ∀ i, i < len → R ((cs.drop (i * k)).take k)) : VecP k R (.sl cs len cap)

/-- The cells of a row of variables, one after another. -/
theorem rows_flat {β : Type} (k : Nat) : ∀ (L : List (List β)), (∀ l ∈ L, l.length = k) → (L.flatten).length = L.length * k ∧ ∀ (i : Nat) (l : List β), L[i]? = some l → (L.flatten.drop (i * k)).take k = l
  | [], _ => ⟨by simp, fun i l h => by simp at h⟩
  | l :: L, h => by
    obtain ⟨h1, h2⟩ := rows_flat k L (fun l' hl' => h l' (by simp [hl']))
    have hl := h l (by simp)
    refine ⟨by simp [h1, hl, Nat.add_mul]; omega, fun i l' hi => ?_⟩
    cases i with
    | zero =>
      simp at hi
      subst hi
      simp [hl]
    | succ i =>
      simp at hi
      rw [List.flatten_cons, List.drop_append, hl, Nat.add_mul, Nat.one_mul]
      rw [List.drop_eq_nil_of_le (by omega), List.nil_append, show i * k + k - k = i * k by omega]
      exact h2 i l' hi

theorem Opn.slice {R : List DV → Prop} {k : Nat} (ht : P.underlying t = some (.slice e)) (hk : P.cellsOf e = k) (he : Opn P e R) : Opn P t (One (VecP k R)) := fun H enc w held fuel cs x h => by
  rcases DataW.trod_slice ht h with ⟨rfl, _⟩ | ⟨a, len, cap, elems, rest, n, _, rfl, _, _, hl, hm, hlen, hel, _, _⟩
  · exact ⟨[Dnil], .one (.lit _), _, rfl, .nil⟩
  · have each : ∀ i, i < len → ∃ y : List Value × List DV, w.cells? 0 (a.add (i * k)) k = some y.1 ∧ DReps w y.1 y.2 ∧ R y.2 := by
      intro i hi
      have h1 := hel i hi
      rw [List.getElem?_eq_getElem (by omega), hk] at h1
      obtain ⟨c, hc, hd⟩ := Option.bind_eq_some_iff.1 h1
      obtain ⟨ds, h2, h3⟩ := he H enc w held n c _ hd
      exact ⟨(c, ds), hc, h2, h3⟩
    obtain ⟨y, hy⟩ := choose_lt each
    have hcl : ∀ i, i < len → (y i).1.length = k ∧ (y i).2.length = k := fun i hi => by
      obtain ⟨_, h2, _⟩ := World.cells?_some (hy i hi).1
      exact ⟨h2, by rw [← (hy i hi).2.1.1]; exact h2⟩
    have f2 := rows_flat k ((List.range len).map fun i => (y i).2) (fun l hl' => by
      obtain ⟨i, hi, rfl⟩ := List.mem_map.1 hl'
      exact (hcl i (by simpa using hi)).2)
    have f1 := rows_flat k ((List.range len).map fun i => (y i).1) (fun l hl' => by
      obtain ⟨i, hi, rfl⟩ := List.mem_map.1 hl'
      exact (hcl i (by simpa using hi)).1)
    simp only [List.length_map, List.length_range] at f1 f2
    refine ⟨[.sl ((List.range len).map fun i => (y i).2).flatten len none], .one ?_, _, rfl, .sl f2.1 (by have := maxLen_is; omega) fun i hi => ?_⟩
    · have split : ∀ p, p < len * k → ∃ i j, i < len ∧ j < k ∧ p = i * k + j := fun p hp => by
        have hk0 : 0 < k := by
          cases k with
          | zero => simp at hp
          | succ k => omega
        exact ⟨p / k, p % k, by rw [Nat.div_lt_iff_lt_mul hk0]; exact hp, Nat.mod_lt _ hk0, by rw [Nat.mul_comm]; exact (Nat.div_add_mod p k).symm⟩
      have cellAt : ∀ i j, i < len → j < k → w.cell? (a.add (i * k + j)) = (y i).1[j]? ∧ ((List.range len).map fun i => (y i).1).flatten[i * k + j]? = (y i).1[j]? ∧ ((List.range len).map fun i => (y i).2).flatten[i * k + j]? = (y i).2[j]? := by
        intro i j hi hj
        obtain ⟨_, _, h3⟩ := World.cells?_some (hy i hi).1
        have h4 := f1.2 i (y i).1 (by simp [hi])
        have h5 := f2.2 i (y i).2 (by simp [hi])
        refine ⟨?_, ?_, ?_⟩
        · rw [← h3 j hj, add_add']
        · conv => rhs; rw [← h4]
          rw [List.getElem?_take, if_pos hj, List.getElem?_drop]
        · conv => rhs; rw [← h5]
          rw [List.getElem?_take, if_pos hj, List.getElem?_drop]
      have key : len * k ≠ 0 → a.spot = none := by
        intro h0
        obtain ⟨i, j, hi, hj, he⟩ := split 0 (by omega)
        have h1 := (cellAt i j hi hj).1
        rw [← he, List.getElem?_eq_getElem (by rw [(hcl i hi).1]; exact hj)] at h1
        have := World.cell?_spot h1
        simpa [Addr.add] using this
      refine .sl ((List.range len).map fun i => (y i).1).flatten hl (fun c h => by cases h) (by rw [f1.1, f2.1]) (fun hne => ⟨key ?_, fun h => h⟩) (fun p v hv => ?_) (fun p v x hv hx => ?_)
      · intro h0
        apply hne
        rw [← List.length_eq_zero_iff, f2.1, h0]
      · have hp : p < len * k := by rw [← f1.1]; exact (List.getElem?_eq_some_iff.1 hv).1
        obtain ⟨i, j, hi, hj, rfl⟩ := split p hp
        obtain ⟨c1, c2, c3⟩ := cellAt i j hi hj
        have hs := key (by omega)
        obtain ⟨b, off, spot⟩ := a
        simp only at hs
        subst hs
        rw [c2, ← c1, add_plain] at hv
        exact hv
      · have hp : p < len * k := by rw [← f1.1]; exact (List.getElem?_eq_some_iff.1 hv).1
        obtain ⟨i, j, hi, hj, rfl⟩ := split p hp
        obtain ⟨c1, c2, c3⟩ := cellAt i j hi hj
        rw [c2] at hv
        rw [c3] at hx
        exact (hy i hi).2.1.2 j v x hv hx
    · rw [f2.2 i (y i).2 (by simp [hi])]
      exact (hy i hi).2.2

/-- Parts of so many cells, one after another. -/
def Parts : List (Nat × (List DV → Prop)) → List DV → Prop
  | [], ds => ds = []
  | (k, R) :: ps, ds => ∃ d r, ds = d ++ r ∧ d.length = k ∧ R d ∧ Parts ps r

/-- A struct, field by field. -/
theorem Opn.struct {fs : Array Field} (ht : P.underlying t = some (.struct fs)) (Rs : List (Nat × (List DV → Prop))) (off : Nat → Nat) (h0 : off 0 = 0) (hs : Rs.length = fs.size) (hc : P.cellsOf t = off fs.size)
    (hf : ∀ (i : Nat) (f : Field) (q : Nat × (List DV → Prop)), fs[i]? = some f → Rs[i]? = some q → f.offset = off i ∧ P.cellsOf f.type = q.1 ∧ off (i + 1) = off i + q.1 ∧ Opn P f.type q.2) : Opn P t (Parts Rs) := fun H enc w held fuel cs x h => by
  obtain ⟨xs, n, _, _, hlen, hxl, hx⟩ := DataW.trod_struct ht h
  have go : ∀ (m i : Nat), m = fs.size - i → i ≤ fs.size → ∃ ds, DReps w (cs.drop (off i)) ds ∧ Parts (Rs.drop i) ds := by
    intro m
    induction m with
    | zero =>
      intro i hm hi
      have : i = fs.size := by omega
      subst this
      rw [List.drop_eq_nil_of_le (by omega), List.drop_eq_nil_of_le (by omega)]
      exact ⟨[], .nil, rfl⟩
    | succ m ih =>
      intro i hm hi
      have hlt : i < fs.size := by omega
      have hlt' : i < Rs.length := by omega
      obtain ⟨a1, a2, a3, a4⟩ := hf i fs[i] Rs[i] (Array.getElem?_eq_getElem hlt) (List.getElem?_eq_getElem hlt')
      obtain ⟨ds', b1, b2⟩ := ih (i + 1) (by omega) (by omega)
      have hx' := hx i fs[i] (Array.getElem?_eq_getElem hlt)
      rw [List.getElem?_eq_getElem (by omega)] at hx'
      obtain ⟨d, c1, c2⟩ := a4 H enc w held n _ _ hx'
      rw [a1, a2] at c1
      have hle : off i + Rs[i].1 ≤ cs.length := by
        have mono : ∀ k, i + 1 + k ≤ fs.size → off (i + 1) ≤ off (i + 1 + k) := by
          intro k
          induction k with
          | zero => intro _; exact Nat.le_refl _
          | succ k ihk =>
            intro hk
            have hk1 : i + 1 + k < fs.size := by omega
            obtain ⟨_, _, a3', _⟩ := hf (i + 1 + k) fs[i + 1 + k] Rs[i + 1 + k] (Array.getElem?_eq_getElem hk1) (List.getElem?_eq_getElem (by omega))
            have := ihk (by omega)
            have e : i + 1 + (k + 1) = i + 1 + k + 1 := by omega
            rw [e]; omega
        have := mono (fs.size - (i + 1)) (by omega)
        rw [show i + 1 + (fs.size - (i + 1)) = fs.size by omega] at this
        omega
      refine ⟨d ++ ds', ?_, ?_⟩
      · have e : cs.drop (off i) = (cs.drop (off i)).take Rs[i].1 ++ cs.drop (off (i + 1)) := by
          rw [a3, ← List.drop_drop, List.take_append_drop]
        rw [e]
        exact c1.append b1
      · rw [List.drop_eq_getElem_cons hlt']
        refine ⟨d, ds', rfl, ?_, c2, b2⟩
        rw [← c1.1]; simp; omega
  obtain ⟨ds, h1, h2⟩ := go _ 0 rfl (Nat.zero_le _)
  rw [h0] at h1
  exact ⟨ds, by simpa using h1, by simpa using h2⟩

/-- An array of cells. -/
theorem Opn.array {R : List DV → Prop} {n k : Nat} (ht : P.underlying t = some (.array n e)) (hk : P.cellsOf e = k) (hc : P.cellsOf t = n * k) (he : Opn P e R) : Opn P t (Parts (List.replicate n (k, R))) := fun H enc w held fuel cs x h => by
  obtain ⟨xs, m, _, _, hlen, hxl, hx⟩ := DataW.trod_array ht h
  have go : ∀ (j i : Nat), j = n - i → i ≤ n → ∃ ds, DReps w (cs.drop (i * k)) ds ∧ Parts (List.replicate j (k, R)) ds := by
    intro j
    induction j with
    | zero =>
      intro i hm hi
      have : i = n := by omega
      subst this
      rw [List.drop_eq_nil_of_le (by omega)]
      exact ⟨[], .nil, rfl⟩
    | succ j ih =>
      intro i hm hi
      obtain ⟨ds', b1, b2⟩ := ih (i + 1) (by omega) (by omega)
      have hx' := hx i (by omega)
      rw [List.getElem?_eq_getElem (by omega)] at hx'
      obtain ⟨d, c1, c2⟩ := he H enc w held m _ _ hx'
      rw [hk] at c1
      have hle : i * k + k ≤ cs.length := by
        have : (i + 1) * k ≤ n * k := Nat.mul_le_mul (by omega) (Nat.le_refl _)
        rw [Nat.add_mul] at this
        omega
      refine ⟨d ++ ds', ?_, ?_⟩
      · have e : cs.drop (i * k) = (cs.drop (i * k)).take k ++ cs.drop ((i + 1) * k) := by
          rw [Nat.add_mul, Nat.one_mul, ← List.drop_drop, List.take_append_drop]
        rw [e]
        exact c1.append b1
      · rw [List.replicate_succ]
        refine ⟨d, ds', rfl, ?_, c2, b2⟩
        rw [← c1.1]; simp; omega
  obtain ⟨ds, h1, h2⟩ := go _ 0 rfl (Nat.zero_le _)
  exact ⟨ds, by simpa using h1, by simpa using h2⟩

end

/-- Typed: a slice of cells. -/
theorem VecP.vec {α : Type} {R : DV → α → Prop} {d : DV} (h : VecP 1 (One fun d => ∃ a, R d a) d) : ∃ l, Vec R d l ∧ l.length ≤ 9223372036854775807 := by
  cases h with
  | nil => exact ⟨[], .nil, by simp⟩
  | @sl cs len cap hn hl h =>
    have each : ∀ i, i < len → ∃ a, R (cs.getD i Dnil) a := by
      intro i hi
      obtain ⟨d, hd, a, ha⟩ := h i hi
      have hlt : i < cs.length := by omega
      have e1 : (cs.drop (i * 1)).take 1 = [cs[i]] := by rw [Nat.mul_one, List.drop_eq_getElem_cons hlt]; rfl
      rw [e1] at hd
      simp only [List.cons.injEq, and_true] at hd
      exact ⟨a, by simpa [hlt, hd] using ha⟩
    cases len with
    | zero =>
      have : cs = [] := List.length_eq_zero_iff.1 (by simpa using hn)
      subst this
      exact ⟨[], Vec.sl (cs := []) (l := []) rfl (fun i c x hc => by simp at hc), by simp⟩
    | succ m =>
      obtain ⟨a0, _⟩ := each 0 (by omega)
      haveI : Inhabited α := ⟨a0⟩
      obtain ⟨f, hf⟩ := choose_lt each
      have e : ((List.range (m + 1)).map f).length = m + 1 := by simp
      refine ⟨(List.range (m + 1)).map f, ?_, by simp; omega⟩
      have : Vec R (.sl cs ((List.range (m + 1)).map f).length cap) ((List.range (m + 1)).map f) := .sl (by simp; omega) fun i c x hc hx => by
        rw [List.getElem?_map] at hx
        by_cases hi : i < m + 1
        · rw [List.getElem?_range hi] at hx
          simp only [Option.map_some, Option.some.injEq] at hx
          subst hx
          have := hf i hi
          rwa [List.getD_eq_getElem?_getD, hc, Option.getD_some] at this
        · rw [List.getElem?_eq_none (by simp; omega)] at hx; cases hx
      rwa [e] at this

end Go.Vm

