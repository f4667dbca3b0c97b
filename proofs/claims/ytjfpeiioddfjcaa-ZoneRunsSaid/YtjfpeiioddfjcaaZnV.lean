import Derived.Test.YtjfpeiioddfjcaaZnU
/-
  GUARDS: slices of three numbers each; whether values keep within them.
-/
namespace Go.Zn
abbrev G3 := Int × Int × Int
/-- Values keep within guards, in parts of 1/den. -/
def holdB (L : List G3) (v : Nat → Int) (den : Int) : Bool := L.all fun g => !decide (gre g.2.2 den < v g.1.toNat - v g.2.1.toNat)
/-- The bounds of a matrix as guards: whole rows, and the beginning of one. -/
def rowG3 (a : Nat → Nat → Int) (i j : Nat) : List G3 := (List.range j).map fun (y : Nat) => ((i : Int), (y : Int), a i y)
def ztG (n : Nat) (a : Nat → Nat → Int) (i j : Nat) : List G3 := (List.range i).flatMap (fun x => rowG3 a x n) ++ rowG3 a i j
theorem ztG_zero {n : Nat} {a : Nat → Nat → Int} : ztG n a 0 0 = [] := rfl
theorem ztG_step {n : Nat} {a : Nat → Nat → Int} {i j : Nat} : ztG n a i (j + 1) = ztG n a i j ++ [((i : Int), (j : Int), a i j)] := by
  unfold ztG rowG3
  rw [List.range_succ, List.map_append, List.append_assoc]; rfl
theorem ztG_next {n : Nat} {a : Nat → Nat → Int} {i : Nat} : ztG n a i n = ztG n a (i + 1) 0 := by
  unfold ztG
  rw [List.range_succ, List.flatMap_append]
  simp [rowG3]
theorem ztG_mem {n i j : Nat} {a : Nat → Nat → Int} {g : G3} (h : g ∈ ztG n a i j) : ∃ x y, (x < i ∧ y < n ∨ x = i ∧ y < j) ∧ g = ((x : Int), (y : Int), a x y) := by
  unfold ztG rowG3 at h
  rcases List.mem_append.1 h with h | h
  · obtain ⟨x, hx, h⟩ := List.mem_flatMap.1 h
    obtain ⟨y, hy, rfl⟩ := List.mem_map.1 h
    exact ⟨x, y, .inl ⟨List.mem_range.1 hx, List.mem_range.1 hy⟩, rfl⟩
  · obtain ⟨y, hy, rfl⟩ := List.mem_map.1 h
    exact ⟨i, y, .inr ⟨rfl, List.mem_range.1 hy⟩, rfl⟩
theorem ztG_in {n : Nat} {a : Nat → Nat → Int} {x y : Nat} (hx : x < n) (hy : y < n) : ((x : Int), (y : Int), a x y) ∈ ztG n a n 0 := by
  unfold ztG
  exact List.mem_append_left _ (List.mem_flatMap.2 ⟨x, List.mem_range.2 hx, List.mem_map.2 ⟨y, List.mem_range.2 hy, rfl⟩⟩)
theorem ztG_len {n : Nat} {a : Nat → Nat → Int} : ∀ i j, (ztG n a i j).length = i * n + j
  | 0, j => by simp [ztG, rowG3]
  | i + 1, j => by
    have h1 : ztG n a (i + 1) j = ztG n a i n ++ rowG3 a (i + 1) j := by rw [ztG_next]; simp [ztG, rowG3]
    rw [h1, List.length_append, ztG_len i n]
    simp [rowG3, Nat.add_mul]
/-- A point keeps within all bounds of a matrix. -/
def insideB (n : Nat) (a : Nat → Nat → Int) (v : Nat → Int) (den : Int) : Bool := holdB (ztG n a n 0) v den
theorem inside_iff {n : Nat} {a : Nat → Nat → Int} {v : Nat → Int} {den : Int} : insideB n a v den = true ↔ ∀ i j, i < n → j < n → v i - v j ≤ gre (a i j) den := by
  unfold insideB holdB
  rw [List.all_eq_true]
  constructor
  · intro h i j hi hj
    have := h _ (ztG_in hi hj)
    simp at this; exact this
  · intro h g hg
    obtain ⟨x, y, hxy, rfl⟩ := ztG_mem hg
    have := h x y (by omega) (by omega)
    simp; exact this
end Go.Zn
namespace Go.Vm
open Go.Zn
def gd3 (g : G3) : List DV := [DI g.1, DI g.2.1, DI g.2.2]
def flatG (L : List G3) : List DV := L.flatMap gd3
/-- A slice of guards. -/
inductive Gds : DV → List G3 → Prop
  | nil : Gds Dnil []
  | sl {L : List G3} {cap : Option Nat} : Gds (.sl (flatG L) L.length cap) L
theorem flatG_len (L : List G3) : (flatG L).length = L.length * 3 := by
  induction L with
  | nil => rfl
  | cons r rows ih => simp [flatG] at ih ⊢; rw [ih]; simp [gd3]; omega
theorem flatG_drop : ∀ (L : List G3) (m : Nat) (h : m < L.length), (flatG L).drop (m * 3) = gd3 L[m] ++ flatG (L.drop (m + 1))
  | [], _, h => by simp at h
  | r :: L, 0, _ => by simp [flatG]
  | r :: L, m + 1, h => by
    have := flatG_drop L m (by simpa using h)
    rw [show flatG (r :: L) = gd3 r ++ flatG L from rfl, Nat.add_mul, Nat.one_mul, List.drop_append]
    rw [List.drop_eq_nil_of_le (by simp [gd3]), show m * 3 + 3 - (gd3 r).length = m * 3 by simp [gd3]]
    simpa using this
theorem flatG_take (L : List G3) (m : Nat) (h : m < L.length) : ((flatG L).drop (m * 3)).take 3 = gd3 L[m] := by
  rw [flatG_drop _ _ h]; rfl
theorem flatG_snoc (L : List G3) (l : G3) : flatG (L ++ [l]) = flatG L ++ gd3 l := by simp [flatG]
section
variable {P : Program} {n : Nat} {ops : Array Oper} {l : List Oper} {σ : List VObj} {kn : Kn} {dst : Option Tmp} {ty : TypeId} {pos : String} {af : Array Edge} {g : Option (Nat × Bool)} {R : List Nat → List VObj → Kn → Prop}
theorem K.lenG {x : Operand} {t e : TypeId} {d : DV} {L : List G3} (hx : evK kn x = some (.d d)) (hL : Gds d L) (ht : P.underlying t = some (.slice e)) : KEv P ⟨dst, .call ⟨.builtin .len, #[x], #[t]⟩, ty, pos, af, g⟩ σ kn (.d (DI (L.length : Nat))) σ 0 := by
  cases hL with
  | nil => exact K.len (R := IsI) (l := []) hx .nil ht
  | sl => exact K.lenD hx ht
theorem K.idxG {x i : Operand} {t e : TypeId} {d : DV} {L : List G3} {m : Nat} (hx : evK kn x = some (.d d)) (hL : Gds d L) (hi : evK kn i = some (.d (DI (m : Int)))) (hm : m < L.length) (ht : P.underlying t = some (.slice e)) (hs : sizeT P e = some 3) :
    KEv P ⟨dst, .indexAddr t x i, ty, pos, af, g⟩ σ kn (.d (.ptr ((flatG L).drop (m * 3)))) σ 0 := by
  cases hL with
  | nil => simp at hm
  | sl => exact K.idxDK hx hi hm ht hs
theorem K.loadG {x : Operand} {t : TypeId} {L : List G3} {m : Nat} (hm : m < L.length) (hx : evK kn x = some (.d (.ptr ((flatG L).drop (m * 3))))) (ht : isAggT P t = some true) (hs : sizeT P t = some 3) :
    KEv P ⟨dst, .load t x, ty, pos, af, g⟩ σ kn (.d (.agg (gd3 L[m]))) σ 0 := by
  rw [← flatG_take L m hm]
  exact K.loadAgg (m := 3) hx ht hs (by rw [List.length_drop, flatG_len]; omega)
end
/-- The values of all clocks. -/
def c4 (v : Nat → Int) : List DV := [DI (v 0), DI (v 1), DI (v 2), DI (v 3)]
theorem c4_get {v : Nat → Int} {i : Nat} (hi : i < 4) : ((c4 v).map XV.d)[0 + i * 1]? = some (.d (DI (v i))) := by
  match i, hi with
  | 0, _ => rfl
  | 1, _ => rfl
  | 2, _ => rfl
  | 3, _ => rfl
  | k + 4, h => omega
def gdsD (L : List G3) : DV := .sl (flatG L) L.length none
theorem gdsD_gds (L : List G3) : Gds (gdsD L) L := .sl
theorem fin_gds {σ : List VObj} {k : Nat} {x : XV} {L : List G3} (h : OwnK 3 σ x ((flatG L).map .d)) (h0 : 0 < L.length) : deepen (freezeAll σ) (k + 2) x = some (gdsD L) := by
  generalize hc : (flatG L).map XV.d = cells at h
  cases h with
  | nil =>
    have := congrArg List.length hc
    rw [List.length_map, flatG_len, List.length_nil] at this; omega
  | @sl id n cells h hn =>
    subst hc
    have hl : n = L.length := by rw [List.length_map, flatG_len] at hn; omega
    subst hl
    have hf : (freezeAll σ)[id]? = some ⟨(flatG L).map .d, 1⟩ := by simp [freezeAll, h]
    rw [deepen_osl hf rfl (by simp [flatG_len]), List.drop_zero, List.take_of_length_le (by simp [flatG_len]), mapM_deep]
    rfl
end Go.Vm

