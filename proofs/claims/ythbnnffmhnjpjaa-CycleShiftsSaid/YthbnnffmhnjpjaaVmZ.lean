import Derived.Test.YthbnnffmhnjpjaaVmY
/-
  VALUES WITHOUT ADDRESSES, 26: lists of cells that are filled one after another; slice literals of two; own rows.
-/
namespace Go.Vm
open Go.RowKit

def updL (R : Nat) (f : Nat → XV) (z : XV) (i : Nat) : List XV := (List.range R).map fun k => if k < i then f k else z
section
variable {R : Nat} {f : Nat → XV} {z : XV} {i : Nat}
theorem updL_len : (updL R f z i).length = R := by simp [updL]
theorem updL_zero : List.replicate R z = updL R f z 0 := by
  refine List.ext_getElem? fun i => ?_
  by_cases hi : i < R
  · simp [updL, hi]
  · rw [List.getElem?_eq_none (by simp; omega), List.getElem?_eq_none (by simp [updL]; omega)]
theorem updL_set (hi : i < R) : (updL R f z i).set i (f i) = updL R f z (i + 1) := by
  refine List.ext_getElem? fun k => ?_
  rw [List.getElem?_set]
  by_cases hk : k < R
  · by_cases e : i = k
    · subst e; simp [updL, hi]
    · rw [if_neg e]
      simp only [updL, List.getElem?_map, List.getElem?_range hk, Option.map_some, Option.some.injEq]
      by_cases h : k < i
      · rw [if_pos h, if_pos (by omega)]
      · rw [if_neg h, if_neg (by omega)]
  · rw [if_neg (by omega), List.getElem?_eq_none (by simp [updL]; omega), List.getElem?_eq_none (by simp [updL]; omega)]
theorem updL_full (hi : R ≤ i) : updL R f z i = (List.range R).map f := by
  refine List.ext_getElem? fun k => ?_
  by_cases hk : k < R
  · simp [updL, hk, show k < i by omega]
  · rw [List.getElem?_eq_none (by simp [updL]; omega), List.getElem?_eq_none (by simp; omega)]
theorem updL_get {k : Nat} (hk : k < R) (h : k < i) : (updL R f z i)[k]? = some (f k) := by simp [updL, hk, h]
end

section
variable {P : Program} {n : Nat} {ops : Array Oper} {l : List Oper} {σ : List VObj} {kn : Kn} {dst : Option Tmp} {ty : TypeId} {pos : String} {af : Array Edge} {g : Option (Nat × Bool)}
theorem K.build2s {t e : TypeId} {x y : Operand} {a b : XV} {z : Value} (hx : evK kn x = some a) (hy : evK kn y = some b) (ha : cellsX a = [a]) (hb : cellsX b = [b]) (ht : P.underlying t = some (.slice e)) (h1 : OneT P e z) :
    KEv P ⟨dst, .buildSlice t 2 #[(0, x), (1, y)], ty, pos, af, g⟩ σ kn (.osl σ.length 0 2 1 2 true) (σ ++ [⟨[a, b], 0⟩]) 3 := ev_op fun env he => by
  have e1 := evK_evalX he hx
  have e2 := evK_evalX he hy
  unfold evalOp
  rw [litOp_buildSlice]
  obtain ⟨p, q, hz⟩ : ∃ p q, zeroRow z 2 = [p, q] := ⟨_, _, by rw [zeroRow_one h1.cells]; rfl⟩
  simp [e1, e2, opBuildSlice, ht, h1.size, h1.zero, fillX, ha, hb, hz, splice]
/-- A list of cells that is read from here on. -/
theorem deepen_cells {σ : List VObj} {id R : Nat} {cells : List XV} {ds : List DV} {ex : Bool} {k : Nat} (h : σ[id]? = some ⟨cells, 1⟩) (hc : cells = ds.map XV.d) (hn : ds.length = R) :
    deepen σ (k + 2) (.osl id 0 R 1 R ex) = some (.sl ds R (if ex then some R else none)) := by
  subst hc hn
  rw [deepen_osl (ob := ⟨ds.map XV.d, 1⟩) h rfl (by simp), List.drop_zero, List.take_of_length_le (by simp), mapM_deep]
  rfl
end

/-! A matrix that is made row by row. -/
section
variable (R N : Nat) (f : Nat → Nat → Int)
def oslF (k : Nat) : XV := .osl (k + 1) 0 N 1 N true
def rowF (i : Nat) (j : Nat) : XV := .d (DI (f i j))
def rowC (i j : Nat) : List XV := updL N (rowF f i) (.d (.lit (.int .i64 0))) j
def doneG (i : Nat) : List VObj := (List.range i).map fun k => ⟨rowC N f k N, 0⟩
def sgP (i : Nat) : List VObj := ⟨updL R (oslF N) (.d Dnil) i, 0⟩ :: doneG N f i
def sgQ (i j : Nat) : List VObj := ⟨updL R (oslF N) (.d Dnil) (i + 1), 0⟩ :: (doneG N f i ++ [⟨rowC N f i j, 0⟩])
def rowG (g : Nat → Int) : DV := .sl ((List.range N).map fun j => DI (g j)) N (some N)
def genD : DV := .sl ((List.range R).map fun k => rowG N (f k)) R (some R)
def genM : List (List Int) := (List.range R).map fun k => (List.range N).map (f k)
end
section
variable {R N : Nat} {f : Nat → Nat → Int}
theorem doneG_len (i : Nat) : (doneG N f i).length = i := by simp [doneG]
theorem doneG_succ (i : Nat) : doneG N f (i + 1) = doneG N f i ++ [⟨rowC N f i N, 0⟩] := by simp [doneG, List.range_succ]
theorem sgP_zero : sgP R N f 0 = [⟨List.replicate R (.d Dnil), 0⟩] := by rw [updL_zero (f := oslF N)]; rfl
theorem sgP_len (i : Nat) : (sgP R N f i).length = i + 1 := by simp [sgP, doneG_len]
theorem rowC_len (i j : Nat) : (rowC N f i j).length = N := updL_len
theorem sgP_start {i : Nat} (hi : i < R) : (sgP R N f i ++ [(⟨List.replicate N (XV.d (.lit (.int .i64 0))), 0⟩ : VObj)]).set 0 ⟨(updL R (oslF N) (.d Dnil) i).set (0 + i) (.osl (sgP R N f i).length 0 N 1 N true), 0⟩ = sgQ R N f i 0 := by
  rw [sgP_len, Nat.zero_add, show XV.osl (i + 1) 0 N 1 N true = oslF N i from rfl, updL_set hi, updL_zero (f := rowF f i)]
  rfl
theorem sgQ_row (i j : Nat) : (sgQ R N f i j)[i + 1]? = some ⟨rowC N f i j, 0⟩ := by
  simp only [sgQ, List.getElem?_cons_succ]
  rw [List.getElem?_append_right (by rw [doneG_len]; omega), doneG_len]; simp
theorem sgQ_step {i j : Nat} (hj : j < N) {v : Int} (hv : v = f i j) : (sgQ R N f i j).set (i + 1) ⟨(rowC N f i j).set (0 + j) (.d (DI v)), 0⟩ = sgQ R N f i (j + 1) := by
  subst hv
  rw [Nat.zero_add, show rowC N f i j = updL N (rowF f i) _ j from rfl, show XV.d (DI (f i j)) = rowF f i j from rfl, updL_set hj]
  simp only [sgQ, List.set_cons_succ]
  rw [List.set_append_right _ _ (by rw [doneG_len]; omega), doneG_len]
  simp [rowC]
theorem sgQ_end (i : Nat) : sgQ R N f i N = sgP R N f (i + 1) := by rw [sgQ, sgP, doneG_succ]
theorem oslF_get {i : Nat} (hi : i < R) : (updL R (oslF N) (.d Dnil) (i + 1))[0 + i]? = some (.osl (i + 1) 0 N 1 N true) := by
  rw [Nat.zero_add, updL_get hi (by omega)]; rfl
theorem gen_fin : deepen (freezeAll (sgP R N f R)) 5 (.osl 0 0 R 1 R true) = some (genD R N f) := by
  have hf : freezeAll (sgP R N f R) = ⟨updL R (oslF N) (.d Dnil) R, 1⟩ :: (List.range R).map fun i => (⟨((List.range N).map fun j => DI (f i j)).map XV.d, 1⟩ : VObj) := by
    simp [freezeAll, sgP, doneG, Function.comp_def, rowC, updL_full, rowF]
  have hlen : (updL R (oslF N) (.d Dnil) R).length = R := updL_len
  rw [hf, deepen_osl (ob := ⟨updL R (oslF N) (.d Dnil) R, 1⟩) rfl rfl (by simp [hlen])]
  have h2 : ((updL R (oslF N) (.d Dnil) R).drop 0).take (R * 1) = (List.range R).map (oslF N) := by rw [List.drop_zero, Nat.mul_one, List.take_of_length_le (by omega), updL_full (Nat.le_refl _)]
  rw [show ((⟨updL R (oslF N) (.d Dnil) R, 1⟩ : VObj).cells.drop 0).take (R * 1) = (List.range R).map (oslF N) from h2]
  have hall : ∀ (l : List Nat), (∀ i ∈ l, i < R) → (l.map (oslF N)).mapM (deepen (⟨updL R (oslF N) (.d Dnil) R, 1⟩ :: (List.range R).map fun i => (⟨((List.range N).map fun j => DI (f i j)).map XV.d, 1⟩ : VObj)) 4) = some (l.map fun k => rowG N (f k)) := by
    intro l
    induction l with
    | nil => intro _; rfl
    | cons i l ih =>
      intro hl
      have hi := hl i (by simp)
      rw [List.map_cons, List.mapM_cons, ih (fun k hk => hl k (by simp [hk]))]
      rw [show oslF N i = .osl (i + 1) 0 N 1 N true from rfl, deepen_cells (k := 2) (R := N) (ds := (List.range N).map fun j => DI (f i j)) (by simp [hi]) rfl (by simp)]
      rfl
  rw [hall (List.range R) (fun i hi => by simpa using hi)]; rfl
theorem rowG_ints (g : Nat → Int) : Ints (rowG N g) ((List.range N).map g) := by
  have : Ints (.sl ((List.range N).map fun j => DI (g j)) ((List.range N).map g).length (some N)) ((List.range N).map g) := .sl (by simp) fun i c x hc hx => by
    rw [List.getElem?_map] at hc hx
    cases h : (List.range N)[i]? with
    | none => rw [h] at hc; simp at hc
    | some r => rw [h] at hc hx; simp at hc hx; subst hc hx; rfl
  rw [show ((List.range N).map g).length = N by simp] at this
  exact this
theorem genD_mat : Mat (genD R N f) (genM R N f) := by
  have : Mat (.sl ((List.range R).map fun k => rowG N (f k)) (genM R N f).length (some R)) (genM R N f) := .sl (by simp [genM]) fun i c x hc hx => by
    rw [genM] at hx
    rw [List.getElem?_map] at hc hx
    cases h : (List.range R)[i]? with
    | none => rw [h] at hc; simp at hc
    | some r => rw [h] at hc hx; simp at hc hx; subst hc hx; exact rowG_ints _
  rw [show (genM R N f).length = R by simp [genM]] at this
  exact this
end

/-! A matrix to which row after row is appended. -/
section
variable (N : Nat) (g : Nat → Nat → Int)
def rowS (k : Nat) : List XV := (List.range N).map fun j => .d (DI (g k j))
abbrev oslI (id : Nat) : XV := .osl id 0 N 1 N true
structure RowsI (σ : List VObj) (x : XV) (ids : List Nat) : Prop where
  own : OwnK 1 σ x (ids.map (oslI N))
  row : ∀ k id, ids[k]? = some id → σ[id]? = some (⟨rowS N g k, 0⟩ : VObj)
  ne : ∀ id, id ∈ ids → idX x ≠ some id
def genS (R : Nat) : DV := .sl ((List.range R).map fun k => rowG N (g k)) R none
end
section
variable {N : Nat} {g : Nat → Nat → Int}
theorem RowsI.zero {σ : List VObj} : RowsI N g σ (.d Dnil) [] := ⟨.nil, fun k id h => by simp at h, fun id h => by simp at h⟩
theorem RowsI.step {σ0 σ1 σ2 : List VObj} {x0 x1 : XV} {ids : List Nat} {a b : VObj} (h : RowsI N g σ0 x0 ids) (ho : OwnK 1 σ1 x1 (ids.map (oslI N) ++ [oslI N σ0.length]))
    (k1 : ∀ j, idX x0 ≠ some j → j < ((σ0 ++ [a]) ++ [b]).length → σ1[j]? = ((σ0 ++ [a]) ++ [b])[j]?) (w1 : ∃ j, idX x1 = some j ∧ ((σ0 ++ [a]) ++ [b]).length ≤ j)
    (h2 : σ2[σ0.length]? = some ⟨rowS N g ids.length, 0⟩) (v2 : ∀ j, j ≠ σ0.length → σ2[j]? = σ1[j]?) : RowsI N g σ2 x1 (ids ++ [σ0.length]) := by
  obtain ⟨j1, e1, l1⟩ := w1
  simp only [List.length_append, List.length_cons, List.length_nil] at l1
  have lt : ∀ id, id ∈ ids → id < σ0.length := fun id hid => by
    obtain ⟨k, hk⟩ := List.mem_iff_getElem?.1 hid
    exact (List.getElem?_eq_some_iff.1 (h.row k id hk)).1
  refine ⟨?_, fun k id hk => ?_, fun id hid => ?_⟩
  · rw [List.map_append]
    exact ho.keep fun j hj => v2 j (by rw [e1] at hj; cases hj; omega)
  · by_cases hk2 : k < ids.length
    · rw [List.getElem?_append_left hk2] at hk
      have l := lt id (List.mem_of_getElem? hk)
      rw [v2 id (by omega), k1 id (h.ne id (List.mem_of_getElem? hk)) (by simp; omega), List.getElem?_append_left (by simp; omega), List.getElem?_append_left l]
      exact h.row k id hk
    · rw [List.getElem?_append_right (by omega)] at hk
      have hk3 : k = ids.length := by
        by_cases e : k - ids.length = 0
        · omega
        · rw [List.getElem?_eq_none (by simp; omega)] at hk; cases hk
      subst hk3
      simp at hk
      subst hk
      exact h2
  · rw [e1]
    rcases List.mem_append.1 hid with h3 | h3
    · have := lt id h3
      intro e; cases e; omega
    · simp at h3
      subst h3
      intro e; cases e; omega
theorem RowsI.fin {σ : List VObj} {x : XV} {ids : List Nat} (h : RowsI N g σ x ids) (h0 : 0 < ids.length) : deepen (freezeAll σ) 5 x = some (genS N g ids.length) := by
  obtain ⟨own, row, ne⟩ := h
  generalize hc : ids.map (oslI N) = cells at own
  cases own with
  | nil => have := congrArg List.length hc; rw [List.length_map, List.length_nil] at this; omega
  | @sl id k cells ho hn =>
    subst hc
    have hk : k = ids.length := by simp at hn; omega
    subst hk
    rw [deepen_osl (ob := ⟨ids.map (oslI N), 1⟩) (by simp [freezeAll, ho]) rfl (by simp), List.drop_zero, List.take_of_length_le (by simp)]
    have key : ∀ (l : List Nat) (m : Nat), (∀ k id, l[k]? = some id → σ[id]? = some (⟨rowS N g (m + k), 0⟩ : VObj)) → (l.map (oslI N)).mapM (deepen (freezeAll σ) 4) = some ((List.range' m l.length).map fun k => rowG N (g k)) := by
      intro l
      induction l with
      | nil => intro m _; rfl
      | cons i l ih =>
        intro m hl
        have h1 := hl 0 i rfl
        rw [Nat.add_zero] at h1
        rw [List.map_cons, List.mapM_cons, ih (m + 1) (fun k id hk => by rw [hl (k + 1) id hk, show m + (k + 1) = m + 1 + k by omega])]
        rw [show oslI N i = .osl i 0 N 1 N true from rfl, deepen_cells (k := 2) (R := N) (ds := (List.range N).map fun j => DI (g m j)) (by simp [freezeAll, h1]; rfl) (by simp [rowS]) (by simp)]
        rfl
    rw [key ids 0 (fun k id hk => by rw [Nat.zero_add]; exact row k id hk)]
    simp [genS, List.range_eq_range']
theorem genS_mat {R : Nat} : Mat (genS N g R) (genM R N g) := by
  have : Mat (.sl ((List.range R).map fun k => rowG N (g k)) (genM R N g).length none) (genM R N g) := .sl (by simp [genM]) fun i c x hc hx => by
    rw [genM] at hx
    rw [List.getElem?_map] at hc hx
    cases h : (List.range R)[i]? with
    | none => rw [h] at hc; simp at hc
    | some r => rw [h] at hc hx; simp at hc hx; subst hc hx; exact rowG_ints _
  rw [show (genM R N g).length = R by simp [genM]] at this
  exact this
theorem freeze_range (σ : List VObj) : freezeIds σ (List.range σ.length) = freezeAll σ := by
  refine List.ext_getElem? fun i => ?_
  simp only [freezeIds, freezeAll, List.getElem?_mapIdx, List.getElem?_map]
  by_cases h : i < σ.length
  · simp [h]
  · rw [List.getElem?_eq_none (by omega)]; rfl
/-- A row of zeros but for one place. -/
theorem row_one {i : Nat} {v : Int} (hi : i < N) (h1 : g i i = v) (h2 : ∀ j, j ≠ i → g i j = 0) : (List.replicate N (XV.d (.lit (.int .i64 0)))).set (0 + i) (.d (DI v)) = rowS N g i := by
  rw [Nat.zero_add]
  refine List.ext_getElem? fun k => ?_
  rw [List.getElem?_set]
  by_cases hk : k < N
  · by_cases e : i = k
    · subst e; simp [rowS, hk, h1]
    · rw [if_neg e]
      simp [rowS, hk, h2 k (fun h => e h.symm)]
  · rw [if_neg (by omega), List.getElem?_eq_none (by simp; omega), List.getElem?_eq_none (by simp [rowS]; omega)]
theorem row_none {i : Nat} (h2 : ∀ j, j < N → g i j = 0) : List.replicate N (XV.d (.lit (.int .i64 0))) = rowS N g i := by
  refine List.ext_getElem? fun k => ?_
  by_cases hk : k < N
  · simp [rowS, hk, h2 k hk]
  · rw [List.getElem?_eq_none (by simp; omega), List.getElem?_eq_none (by simp [rowS]; omega)]
end
end Go.Vm

