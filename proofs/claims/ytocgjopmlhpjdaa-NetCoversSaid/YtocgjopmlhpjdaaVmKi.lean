import Derived.Test.YtocgjopmlhpjdaaVmY
import Derived.Tactics
import Derived.Scope
import Derived.MapKept
import Derived.Laws.RangeString
import Derived.WideKeyArr
import Derived.StringKeys
import Derived.Shelf.Sort.AssemblyIn
import Derived.Lib.SliceRun
import Derived.Laws.Strings
import Derived.Laws.Closers25b
import Derived.Lib.Small
import Derived.Shelf.SlSortCmp.Whole1
section
/-
  VALUES WITHOUT ADDRESSES, 26: lists of cells that are filled one after another; slice literals of two; own rows.
-/
namespace Go.Vm
open Go.RowKit

def updL (R : Nat) (f : Nat → XV) (z : XV) (i : Nat) : List XV := (List.range R).map fun k => if k < i then f k else z
section
variable {R : Nat} {f : Nat → XV} {z : XV} {i : Nat}
theorem updL_len : (updL R f z i).length = R := by simp [updL]
theorem updL_zero : List.replicate R z = updL R f z 0 := by
  refine List.ext_getElem? fun i => ?_
  by_cases hi : i < R
  · simp [updL, hi]
  · rw [List.getElem?_eq_none (by simp; omega), List.getElem?_eq_none (by simp [updL]; omega)]
theorem updL_set (hi : i < R) : (updL R f z i).set i (f i) = updL R f z (i + 1) := by
  refine List.ext_getElem? fun k => ?_
  rw [List.getElem?_set]
  by_cases hk : k < R
  · by_cases e : i = k
    · subst e; simp [updL, hi]
    · rw [if_neg e]
      simp only [updL, List.getElem?_map, List.getElem?_range hk, Option.map_some, Option.some.injEq]
      by_cases h : k < i
      · rw [if_pos h, if_pos (by omega)]
      · rw [if_neg h, if_neg (by omega)]
  · rw [if_neg (by omega), List.getElem?_eq_none (by simp [updL]; omega), List.getElem?_eq_none (by simp [updL]; omega)]
theorem updL_full (hi : R ≤ i) : updL R f z i = (List.range R).map f := by
  refine List.ext_getElem? fun k => ?_
  by_cases hk : k < R
  · simp [updL, hk, show k < i by omega]
  · rw [List.getElem?_eq_none (by simp [updL]; omega), List.getElem?_eq_none (by simp; omega)]
end

section
variable {P : Program} {n : Nat} {ops : Array Oper} {l : List Oper} {σ : List VObj} {kn : Kn} {dst : Option Tmp} {ty : TypeId} {pos : String} {af : Array Edge} {g : Option (Nat × Bool)}
/-- A list of cells that is read from here on. -/
theorem deepen_cells {σ : List VObj} {id R : Nat} {cells : List XV} {ds : List DV} {ex : Bool} {k : Nat} (h : σ[id]? = some ⟨cells, 1⟩) (hc : cells = ds.map XV.d) (hn : ds.length = R) :
    deepen σ (k + 2) (.osl id 0 R 1 R ex) = some (.sl ds R (if ex then some R else none)) := by
  subst hc hn
  rw [deepen_osl (ob := ⟨ds.map XV.d, 1⟩) h rfl (by simp), List.drop_zero, List.take_of_length_le (by simp), mapM_deep]
  rfl
end

/-! A matrix that is made row by row. -/
section
variable (R N : Nat) (f : Nat → Nat → Int)
def rowF (i : Nat) (j : Nat) : XV := .d (DI (f i j))
def rowG (g : Nat → Int) : DV := .sl ((List.range N).map fun j => DI (g j)) N (some N)
end
section
variable {R N : Nat} {f : Nat → Nat → Int}
end

/-! A matrix to which row after row is appended. -/
section
variable (N : Nat) (g : Nat → Nat → Int)
def rowS (k : Nat) : List XV := (List.range N).map fun j => .d (DI (g k j))
abbrev oslI (id : Nat) : XV := .osl id 0 N 1 N true
structure RowsI (σ : List VObj) (x : XV) (ids : List Nat) : Prop where
  own : OwnK 1 σ x (ids.map (oslI N))
  row : ∀ k id, ids[k]? = some id → σ[id]? = some (⟨rowS N g k, 0⟩ : VObj)
  ne : ∀ id, id ∈ ids → idX x ≠ some id
def genS (R : Nat) : DV := .sl ((List.range R).map fun k => rowG N (g k)) R none
end
section
variable {N : Nat} {g : Nat → Nat → Int}
theorem RowsI.zero {σ : List VObj} : RowsI N g σ (.d Dnil) [] := ⟨.nil, fun k id h => by simp at h, fun id h => by simp at h⟩
theorem RowsI.step {σ0 σ1 σ2 : List VObj} {x0 x1 : XV} {ids : List Nat} {a b : VObj} (h : RowsI N g σ0 x0 ids) (ho : OwnK 1 σ1 x1 (ids.map (oslI N) ++ [oslI N σ0.length]))
    (k1 : ∀ j, idX x0 ≠ some j → j < ((σ0 ++ [a]) ++ [b]).length → σ1[j]? = ((σ0 ++ [a]) ++ [b])[j]?) (w1 : ∃ j, idX x1 = some j ∧ ((σ0 ++ [a]) ++ [b]).length ≤ j)
    (h2 : σ2[σ0.length]? = some ⟨rowS N g ids.length, 0⟩) (v2 : ∀ j, j ≠ σ0.length → σ2[j]? = σ1[j]?) : RowsI N g σ2 x1 (ids ++ [σ0.length]) := by
  obtain ⟨j1, e1, l1⟩ := w1
  simp only [List.length_append, List.length_cons, List.length_nil] at l1
  have lt : ∀ id, id ∈ ids → id < σ0.length := fun id hid => by
    obtain ⟨k, hk⟩ := List.mem_iff_getElem?.1 hid
    exact (List.getElem?_eq_some_iff.1 (h.row k id hk)).1
  refine ⟨?_, fun k id hk => ?_, fun id hid => ?_⟩
  · rw [List.map_append]
    exact ho.keep fun j hj => v2 j (by rw [e1] at hj; cases hj; omega)
  · by_cases hk2 : k < ids.length
    · rw [List.getElem?_append_left hk2] at hk
      have l := lt id (List.mem_of_getElem? hk)
      rw [v2 id (by omega), k1 id (h.ne id (List.mem_of_getElem? hk)) (by simp; omega), List.getElem?_append_left (by simp; omega), List.getElem?_append_left l]
      exact h.row k id hk
    · rw [List.getElem?_append_right (by omega)] at hk
      have hk3 : k = ids.length := by
        by_cases e : k - ids.length = 0
        · omega
        · rw [List.getElem?_eq_none (by simp; omega)] at hk; cases hk
      subst hk3
      simp at hk
      subst hk
      exact h2
  · rw [e1]
    rcases List.mem_append.1 hid with h3 | h3
    · have := lt id h3
      intro e; cases e; omega
    · simp at h3
      subst h3
      intro e; cases e; omega
theorem RowsI.fin {σ : List VObj} {x : XV} {ids : List Nat} (h : RowsI N g σ x ids) (h0 : 0 < ids.length) : deepen (freezeAll σ) 5 x = some (genS N g ids.length) := by
  obtain ⟨own, row, ne⟩ := h
  generalize hc : ids.map (oslI N) = cells at own
  cases own with
  | nil => have := congrArg List.length hc; rw [List.length_map, List.length_nil] at this; omega
  | @sl id k cells ho hn =>
    subst hc
    have hk : k = ids.length := by simp at hn; omega
    subst hk
    rw [deepen_osl (ob := ⟨ids.map (oslI N), 1⟩) (by simp [freezeAll, ho]) rfl (by simp), List.drop_zero, List.take_of_length_le (by simp)]
    have key : ∀ (l : List Nat) (m : Nat), (∀ k id, l[k]? = some id → σ[id]? = some (⟨rowS N g (m + k), 0⟩ : VObj)) → (l.map (oslI N)).mapM (deepen (freezeAll σ) 4) = some ((List.range' m l.length).map fun k => rowG N (g k)) := by
      intro l
      induction l with
      | nil => intro m _; rfl
      | cons i l ih =>
        intro m hl
        have h1 := hl 0 i rfl
        rw [Nat.add_zero] at h1
        rw [List.map_cons, List.mapM_cons, ih (m + 1) (fun k id hk => by rw [hl (k + 1) id hk, show m + (k + 1) = m + 1 + k by omega])]
        rw [show oslI N i = .osl i 0 N 1 N true from rfl, deepen_cells (k := 2) (R := N) (ds := (List.range N).map fun j => DI (g m j)) (by simp [freezeAll, h1]; rfl) (by simp [rowS]) (by simp)]
        rfl
    rw [key ids 0 (fun k id hk => by rw [Nat.zero_add]; exact row k id hk)]
    simp [genS, List.range_eq_range']
end
end Go.Vm

end
section
/-
  DATAFLOW GRAPHS: what the program computes, as functions on numbers and lists, and what these functions promise.
-/
namespace Go.Fl

/-- A link of a valid graph. -/
structure LN where
  f : Nat
  t : Nat
  g : Nat
  k : Nat
  s : Nat

/-- Sums of six. -/
def tot (X : Nat → Nat) : Nat := X 0 + X 1 + X 2 + X 3 + X 4 + X 5
theorem tot_upd {X : Nat → Nat} {v : Nat} {i : Nat} (hi : i < 6) : tot (fun j => if j = i then v else X j) + X i = tot X + v := by
  match i, hi with
  | 0, _ => simp [tot]; omega
  | 1, _ => simp [tot]; omega
  | 2, _ => simp [tot]; omega
  | 3, _ => simp [tot]; omega
  | 4, _ => simp [tot]; omega
  | 5, _ => simp [tot]; omega
def eqB (X q : Nat → Nat) : Bool := (List.range 6).all fun i => decide (X i = q i)
abbrev zs (s : List Nat) : List Int := s.map fun (a : Nat) => (a : Int)
end Go.Fl

end
section
/-
  DATAFLOW GRAPHS: the repetition vector as the program computes it, and that it balances every link.
-/
namespace Go.Fl

abbrev Fra := Nat × Nat
def knB (x : Fra) : Bool := !(decide (x.1 = 0) && decide (x.2 = 0))
abbrev Rat6 := Nat → Fra
def setF (R : Rat6) (i : Nat) (v : Fra) : Rat6 := fun j => if j = i then v else R j
def knum (R : Rat6) : Nat := tot fun i => if knB (R i) = true then 1 else 0
def addR (R : Rat6) (C : Nat) (q : Nat → Nat) : Nat → Nat := fun a => if knB (R a) = true then (R a).1 * (C / (R a).2) else q a
structure GoodF (x : Fra) (e : Nat) : Prop where
  n0 : 0 < x.1
  d0 : 0 < x.2
  nd : x.1 ∣ 60 ^ e
  dd : x.2 ∣ 60 ^ e
  co : Nat.gcd x.1 x.2 = 1

structure GoodR (N : Nat) (R : Rat6) : Prop where
  out : ∀ i, N ≤ i → R i = (0, 0)
  pos : 1 ≤ knum R
  val : ∀ i, knB (R i) = true → GoodF (R i) (knum R - 1)

theorem GoodF.kn {x : Fra} {e : Nat} (h : GoodF x e) : knB x = true := by
  have := h.n0
  simp [knB]; omega
theorem GoodF.mono {x : Fra} {e e' : Nat} (h : GoodF x e) (he : e ≤ e') : GoodF x e' :=
  ⟨h.n0, h.d0, Nat.dvd_trans h.nd (Nat.pow_dvd_pow 60 he), Nat.dvd_trans h.dd (Nat.pow_dvd_pow 60 he), h.co⟩
theorem GoodF.le {x : Fra} {e : Nat} (h : GoodF x e) (he : e ≤ 5) : x.1 ≤ 777600000 ∧ x.2 ≤ 777600000 := by
  have h5 := h.mono he
  exact ⟨Nat.le_of_dvd (by decide) (show x.1 ∣ 777600000 from h5.nd), Nat.le_of_dvd (by decide) (show x.2 ∣ 777600000 from h5.dd)⟩
theorem knum_set {R : Rat6} {i : Nat} {v : Fra} (hi : i < 6) (h : knB (R i) = false) (hv : knB v = true) : knum (setF R i v) = knum R + 1 := by
  have h1 := tot_upd (X := fun i => if knB (R i) = true then 1 else 0) (v := 1) hi
  have e : (fun j => if j = i then 1 else if knB (R j) = true then 1 else 0) = fun j => if knB (setF R i v j) = true then 1 else 0 := by
    funext j
    unfold setF
    by_cases e : j = i
    · rw [if_pos e, if_pos e, if_pos hv]
    · rw [if_neg e, if_neg e]
  rw [e, h] at h1
  simp only [Bool.false_eq_true, if_false] at h1
  exact h1

theorem GoodR.set {N : Nat} {R : Rat6} (hG : GoodR N R) (hN : N ≤ 6) {i : Nat} {v : Fra} (hi : i < N) (h : knB (R i) = false) (hv : GoodF v (knum R)) : GoodR N (setF R i v) ∧ knum (setF R i v) = knum R + 1 := by
  have hk := knum_set (v := v) (show i < 6 by omega) h hv.kn
  refine ⟨⟨fun j hj => ?_, by omega, fun j hj => ?_⟩, hk⟩
  · unfold setF; rw [if_neg (by omega)]; exact hG.out j hj
  · rw [hk]
    unfold setF at hj ⊢
    by_cases e : j = i
    · rw [if_pos e]; exact hv.mono (by omega)
    · rw [if_neg e] at hj ⊢; exact (hG.val j hj).mono (by omega)

end Go.Fl

end
section
/-
  Links, fractions and numbers of firings as cells; slices whose variables take several cells.
-/
namespace Go.Vm
open Go.Fl
section
variable {P : Program} {σ : List VObj} {kn : Kn} {dst : Option Tmp} {ty : TypeId} {pos : String} {af : Array Edge} {g : Option (Nat × Bool)}
theorem K.idxOK {x i : Operand} {t e : TypeId} {id off len lo m k : Nat} {ex : Bool} (hx : evK kn x = some (.osl id off len k lo ex)) (hi : evK kn i = some (.d (DI (m : Int)))) (hm : m < len) (ht : P.underlying t = some (.slice e)) (hs : sizeT P e = some k) :
    KEv P ⟨dst, .indexAddr t x i, ty, pos, af, g⟩ σ kn (.optr id (off + m * k)) σ 0 := ev_op fun env he => by
  have e1 := evK_evalX he hx
  have e2 := evK_evalX he hi
  unfold evalOp
  rw [litOp_none (x := x) (by simp [Op.operands]) (by rw [e1]; rfl)]
  have h1 : (m : Int) < (len : Int) := by omega
  simp [e1, e2, opIndexAddr, litOf, ht, hs, h1]
theorem K.idxDK {x i : Operand} {t e : TypeId} {cs : List DV} {len m k : Nat} {cap : Option Nat} (hx : evK kn x = some (.d (.sl cs len cap))) (hi : evK kn i = some (.d (DI (m : Int)))) (hm : m < len) (ht : P.underlying t = some (.slice e)) (hs : sizeT P e = some k) :
    KEv P ⟨dst, .indexAddr t x i, ty, pos, af, g⟩ σ kn (.d (.ptr (cs.drop (m * k)))) σ 0 := ev_op fun env he => by
  have e1 := evK_evalX he hx
  have e2 := evK_evalX he hi
  unfold evalOp
  rw [litOp_none (x := x) (by simp [Op.operands]) (by rw [e1]; rfl)]
  have h1 : (m : Int) < (len : Int) := by omega
  simp [e1, e2, opIndexAddr, litOf, ht, hs, h1]
theorem K.lenD {x : Operand} {t e : TypeId} {cs : List DV} {len : Nat} {cap : Option Nat} (hx : evK kn x = some (.d (.sl cs len cap))) (ht : P.underlying t = some (.slice e)) : KEv P ⟨dst, .call ⟨.builtin .len, #[x], #[t]⟩, ty, pos, af, g⟩ σ kn (.d (DI len)) σ 0 := ev_op fun env he => by
  have e1 := evK_evalX he hx
  unfold evalOp
  rw [litOp_none (x := x) (by simp [Op.operands, Call.operands]) (by rw [e1]; rfl)]
  simp [e1, opLen, isSliceT, ht]
end

/-- A link of any numbers. -/
structure LZ where
  f : Int
  t : Int
  g : Int
  k : Int
  s : Int
def _root_.Go.Fl.LN.z (l : LN) : LZ := ⟨l.f, l.t, l.g, l.k, l.s⟩
section
variable {P : Program} {n : Nat} {ops : Array Oper} {l : List Oper} {σ : List VObj} {kn : Kn} {dst : Option Tmp} {ty : TypeId} {pos : String} {af : Array Edge} {g : Option (Nat × Bool)} {R : List Nat → List VObj → Kn → Prop}
end

end Go.Vm

end
section
/-
  Scopes with a label that nothing jumps to.
-/
namespace Go.Vm
open Go.Fl
section
variable {P : Program} {M : Nat → Prop} {W0 : World} {n : Nat} {σ : List VObj} {kn : Kn}
theorem KC.label {l : Nat} {T : Exit → List VObj → Kn → Prop} (h : T .normal σ kn) : KC P M W0 n (.label l) σ kn T := fun _ he => Wp.label ⟨kn, he, h⟩
variable {T : Exit → List VObj → Kn → Prop} {id : Nat}
end
section
variable {P : Program} {σ : List VObj} {kn : Kn} {dst : Option Tmp} {ty : TypeId} {pos : String} {af : Array Edge} {g : Option (Nat × Bool)}
/-- A struct or an array in a variable of one's own. -/
theorem K.loadOA {x : Operand} {t : TypeId} {id m md : Nat} (ds : List DV) (hx : evK kn x = some (.optr id 0)) (ho : σ[id]? = some ⟨ds.map .d, md⟩) (h2 : md < 2) (ha : isAggT P t = some true) (hs : sizeT P t = some m) (hm : ds.length = m) :
    KEv P ⟨dst, .load t x, ty, pos, af, g⟩ σ kn (.d (.agg ds)) σ 1 := by
  have h := K.loadOAgg (dst := dst) (ty := ty) (pos := pos) (af := af) (g := g) hx ho h2 ha hs (by simp; omega)
  rwa [List.drop_zero, List.take_of_length_le (by simp; omega), aggX_d] at h
theorem splice_all {α : Type} {cells cs : List α} (h : cells.length = cs.length) : splice cells 0 cs = cs := by
  simp [splice, List.drop_eq_nil_of_le (show cells.length ≤ cs.length by omega)]
end
section
variable {P : Program} {σ : List VObj} {kn : Kn}
/-- Three results, the first of which lies in a variable. -/
theorem resK_ctt {fn : Func} {a t b c id m md : Nat} (ds : List DV) {y z : XV} (hr : fn.results = #[.cell a t, .tmp b, .tmp c]) (hl : look kn a = some (.optr id 0)) (ho : σ[id]? = some ⟨ds.map .d, md⟩) (h2 : md < 2) (ha : isAggT P t = some true) (hs : sizeT P t = some m) (hm : ds.length = m) (hy : look kn b = some y) (hz : look kn c = some z) :
    resK P fn σ kn = some (.tup [.d (.agg ds), y, z]) := by
  unfold resK
  rw [hr]
  have e : resVarK P σ kn (.cell a t) = some (.d (.agg ds)) := by
    simp only [resVarK, hl, Option.bind_some, opLoad, ho]
    rw [if_neg (fun h => h h2)]
    simp only [takeVar, ha, hs, List.drop_zero]
    rw [if_pos (by simp; omega), List.take_of_length_le (by simp; omega), aggX_d]; rfl
  have e2 : resVarK P σ kn (.tmp b) = some y := hy
  have e3 : resVarK P σ kn (.tmp c) = some z := hz
  simp only [List.mapM_cons, List.mapM_nil, e, e2, e3]
  rfl
end
section
variable {P : Program} {σ : List VObj} {kn : Kn} {dst : Option Tmp} {ty : TypeId} {pos : String} {af : Array Edge} {g : Option (Nat × Bool)}
end
theorem freezeIds_not {σ : List VObj} {ids : List Nat} {j : Nat} (h : j ∉ ids) : (freezeIds σ ids)[j]? = σ[j]? := by
  unfold freezeIds
  rw [List.getElem?_mapIdx]
  cases hs : σ[j]? with
  | none => rfl
  | some o => simp [h]
theorem freezeIds_in {σ : List VObj} {ids : List Nat} {j : Nat} {cs : List XV} (h : j ∈ ids) (hs : σ[j]? = some ⟨cs, 0⟩) : (freezeIds σ ids)[j]? = some ⟨cs, 1⟩ := by
  unfold freezeIds
  rw [List.getElem?_mapIdx, hs]
  simp [h]
section
variable {P : Program} {σ : List VObj} {kn : Kn} {dst : Option Tmp} {ty : TypeId} {pos : String} {af : Array Edge} {g : Option (Nat × Bool)}
theorem K.buildC {t e : TypeId} {x : Operand} {k : Nat} {v : XV} {cs : List XV} {z : Value} (hx : evK kn x = some v) (hc : cellsX v = cs) (hk : cs.length = k) (ht : P.underlying t = some (.slice e)) (hs : sizeT P e = some k) (hz : zeroT P e = some z) (hk2 : k ≤ 16777216) :
    KEv P ⟨dst, .buildSlice t 1 #[(0, x)], ty, pos, af, g⟩ σ kn (.osl σ.length 0 1 k 1 true) (σ ++ [⟨cs, 0⟩]) 3 := ev_op fun env he => by
  have e1 := evK_evalX he hx
  unfold evalOp
  rw [litOp_buildSlice]
  have h3 : splice (zeroRow z k) 0 cs = cs := by
    simp [splice, zeroRow, hk]
  simp [e1, opBuildSlice, ht, hs, hz, fillX, hc, zeroRow_len, hk, h3, hk2]
end
section
variable {P : Program} {n : Nat} {ops : Array Oper} {l : List Oper} {σ : List VObj} {kn : Kn} {dst : Option Tmp} {ty : TypeId} {pos : String} {af : Array Edge} {g : Option (Nat × Bool)} {R : List Nat → List VObj → Kn → Prop}
/-- A store into the newest object. -/
theorem KT.storeL {x y : Operand} {t : TypeId} {A : List VObj} {z cs : List XV} {v : XV} (hg : guardK ops kn ⟨dst, .store t x y, ty, pos, af, g⟩ = some true) (hd : dstOk n dst = true) (hx : evK kn x = some (.optr A.length 0)) (hy : evK kn y = some v)
    (hc : cellsX v = cs) (hz : z.length = cs.length) (h1 : cs.all oneX = true) (hs : sizeT P t = some cs.length) (h : KT P n ops l (A ++ [⟨cs, 0⟩]) (extK dst undefX kn) (fun fls τ k => R (2 :: fls) τ k)) :
    KT P n ops (⟨dst, .store t x y, ty, pos, af, g⟩ :: l) (A ++ [⟨z, 0⟩]) kn R := by
  subst hc
  refine KT.step hg hd (K.storeN hx hy (List.getElem?_concat_length ..) (by omega) h1 hs) ?_
  rw [splice_all hz]
  have e : (A ++ [(⟨z, 0⟩ : VObj)]).set A.length ⟨cellsX v, 0⟩ = A ++ [⟨cellsX v, 0⟩] := by
    rw [List.set_append_right _ _ (Nat.le_refl _), Nat.sub_self]; rfl
  rw [e]
  exact h
end
end Go.Vm

end
section
/-
  THE ALGEBRA OF TIMES, without any program: sums are maxima, products are sums; none is 'never'.
-/
namespace Go.Cy

abbrev O := Option Int

/-- a is at most u. -/
def Ub (a : O) (u : Int) : Prop := ∀ x, a = some x → x ≤ u

theorem ub_ext {a b : O} (h : ∀ u, Ub a u ↔ Ub b u) : a = b := by
  cases a with
  | none =>
    cases b with
    | none => rfl
    | some y => have := (h (y - 1)).1 (fun x hx => by cases hx) y rfl; omega
  | some x =>
    cases b with
    | none => have := (h (x - 1)).2 (fun x hx => by cases hx) x rfl; omega
    | some y =>
      have h1 := (h y).2 (fun z hz => by cases hz; omega) x rfl
      have h2 := (h x).1 (fun z hz => by cases hz; omega) y rfl
      rw [show x = y by omega]

def omax : O → O → O
  | none, b => b
  | a, none => a
  | some x, some y => some (max x y)
def oadd : O → O → O
  | some x, some y => some (x + y)
  | _, _ => none

theorem ub_max {a b : O} {u : Int} : Ub (omax a b) u ↔ Ub a u ∧ Ub b u := by
  cases a with
  | none => exact ⟨fun h => ⟨fun x hx => (by cases hx), h⟩, fun h => h.2⟩
  | some x =>
    cases b with
    | none => exact ⟨fun h => ⟨h, fun x hx => by cases hx⟩, fun h => h.1⟩
    | some y =>
      constructor
      · intro h
        have := h (max x y) rfl
        exact ⟨fun z hz => by cases hz; omega, fun z hz => by cases hz; omega⟩
      · intro ⟨h1, h2⟩ z hz
        have e1 := h1 x rfl
        have e2 := h2 y rfl
        cases hz; omega

/-- The greatest of f 0 .. f (n - 1). -/
def osup : Nat → (Nat → O) → O
  | 0, _ => none
  | n + 1, f => omax (osup n f) (f n)

theorem ub_sup {f : Nat → O} {u : Int} : ∀ {n : Nat}, Ub (osup n f) u ↔ ∀ k, k < n → Ub (f k) u
  | 0 => ⟨fun _ k h => by omega, fun _ x hx => by cases hx⟩
  | n + 1 => by
    rw [osup, ub_max, ub_sup]
    constructor
    · intro ⟨h1, h2⟩ k hk
      by_cases e : k = n
      · subst e; exact h2
      · exact h1 k (by omega)
    · intro h; exact ⟨fun k hk => h k (by omega), h n (by omega)⟩

/-- It is one of them. -/
theorem sup_some {f : Nat → O} {w : Int} : ∀ {n : Nat}, osup n f = some w → ∃ k, k < n ∧ f k = some w
  | 0, h => by cases h
  | n + 1, h => by
    rw [osup] at h
    cases ha : osup n f with
    | none =>
      rw [ha] at h
      exact ⟨n, by omega, by cases hb : f n <;> rw [hb] at h <;> exact h⟩
    | some x =>
      rw [ha] at h
      cases hb : f n with
      | none =>
        rw [hb] at h
        obtain ⟨k, hk, e⟩ := sup_some (f := f) (n := n) (ha.trans h)
        exact ⟨k, by omega, e⟩
      | some y =>
        rw [hb] at h
        simp only [omax, Option.some.injEq] at h
        by_cases hxy : x ≤ y
        · exact ⟨n, by omega, by rw [hb, ← h, Int.max_eq_right hxy]⟩
        · obtain ⟨k, hk, e⟩ := sup_some (f := f) (n := n) ha
          exact ⟨k, by omega, by rw [e, ← h, Int.max_eq_left (by omega)]⟩

theorem sup_none {f : Nat → O} {n : Nat} : osup n f = none ↔ ∀ k, k < n → f k = none := by
  constructor
  · intro h k hk
    cases hf : f k with
    | none => rfl
    | some x =>
      have h1 : Ub (osup n f) (x - 1) := by rw [h]; intro z hz; cases hz
      have := ub_sup.1 h1 k hk x hf; omega
  · intro h
    cases hs : osup n f with
    | none => rfl
    | some x => obtain ⟨k, hk, e⟩ := sup_some hs; rw [h k hk] at e; cases e

theorem sup_ge {f : Nat → O} {n k : Nat} {x : Int} (hk : k < n) (hf : f k = some x) : ∃ y, osup n f = some y ∧ x ≤ y := by
  cases hs : osup n f with
  | none => rw [sup_none.1 hs k hk] at hf; cases hf
  | some y =>
    have h1 : Ub (osup n f) y := by rw [hs]; intro z hz; cases hz; omega
    exact ⟨y, rfl, ub_sup.1 h1 k hk x hf⟩

theorem ub_add {a b : O} {u : Int} : Ub (oadd a b) u ↔ ∀ x y, a = some x → b = some y → x + y ≤ u := by
  constructor
  · intro h x y hx hy; subst hx hy; exact h _ rfl
  · intro h z hz
    cases a with
    | none => cases hz
    | some x => cases b with
      | none => cases hz
      | some y => cases hz; exact h x y rfl rfl
theorem add_some {a b : O} {w : Int} : oadd a b = some w ↔ ∃ x y, a = some x ∧ b = some y ∧ w = x + y := by
  constructor
  · intro h
    cases a with
    | none => cases h
    | some x => cases b with
      | none => cases h
      | some y => cases h; exact ⟨x, y, rfl, rfl, rfl⟩
  · rintro ⟨x, y, rfl, rfl, rfl⟩; rfl
theorem add_comm (a b : O) : oadd a b = oadd b a := by
  cases a <;> cases b <;> simp [oadd, Int.add_comm]
theorem add_zero (a : O) : oadd a (some 0) = a := by cases a <;> simp [oadd]
theorem zero_add (a : O) : oadd (some 0) a = a := by cases a <;> simp [oadd]

/-- Matrices of n rows: outside of them there is never anything. -/
abbrev TM := Nat → Nat → O
def tone (n : Nat) : TM := fun i j => if i = j ∧ i < n then some 0 else none
def tmul (n : Nat) (A B : TM) : TM := fun i j => osup n fun k => oadd (A i k) (B k j)
def tpow (n : Nat) (A : TM) : Nat → TM
  | 0 => tone n
  | k + 1 => tmul n (tpow n A k) A

theorem ub_mul {n : Nat} {A B : TM} {i j : Nat} {u : Int} : Ub (tmul n A B i j) u ↔ ∀ k x y, k < n → A i k = some x → B k j = some y → x + y ≤ u := by
  unfold tmul; rw [ub_sup]
  constructor
  · intro h k x y hk hx hy; exact ub_add.1 (h k hk) x y hx hy
  · intro h k hk; exact ub_add.2 fun x y hx hy => h k x y hk hx hy
theorem mul_some {n : Nat} {A B : TM} {i j : Nat} {w : Int} (h : tmul n A B i j = some w) : ∃ k x y, k < n ∧ A i k = some x ∧ B k j = some y ∧ w = x + y := by
  obtain ⟨k, hk, h⟩ := sup_some h
  obtain ⟨x, y, h1, h2, h3⟩ := add_some.1 h
  exact ⟨k, x, y, hk, h1, h2, h3⟩
theorem mul_ge {n : Nat} {A B : TM} {i j k : Nat} {x y : Int} (hk : k < n) (hx : A i k = some x) (hy : B k j = some y) : ∃ w, tmul n A B i j = some w ∧ x + y ≤ w :=
  sup_ge hk (add_some.2 ⟨x, y, hx, hy, rfl⟩)

/-- Numbers, with one for never. -/
def Nv : Int := -1099511627776
def Good (b x : Int) : Prop := x = Nv ∨ (-b ≤ x ∧ x ≤ b)
theorem Good.mono {b c x : Int} (h : Good b x) (hbc : b ≤ c) : Good c x := h.imp id fun h => by omega
theorem Good.ne {b x : Int} (h : -b ≤ x ∧ x ≤ b) (hb : b ≤ 1000000000000) : x ≠ Nv := by unfold Nv; omega

end Go.Cy

end
section
/-
  KARP'S THEOREM on greatest means of cycles, without any program.
-/
namespace Go.Cy

/-- The greatest weights of ways of k arcs to a node, from anywhere. -/
def dk (n : Nat) (A : TM) (k j : Nat) : O := osup n fun i => tpow n A k i j
/-- How far the arcs are above num/den. -/
def gain (A : TM) (num den : Int) : TM := fun i j => (A i j).map fun x => den * x - num
theorem pow_gain {n : Nat} {A : TM} {num den : Int} (hd : 0 < den) : ∀ k i j, tpow n (gain A num den) k i j = (tpow n A k i j).map fun x => den * x - num * (k : Int)
  | 0, i, j => by
    show tone n i j = (tone n i j).map _
    unfold tone; split <;> simp
  | k + 1, i, j => by
    show tmul n _ _ i j = (tmul n _ _ i j).map _
    refine ub_ext fun u => ?_
    have hub : ∀ (o : O) (f : Int → Int) (u : Int), Ub (o.map f) u ↔ ∀ x, o = some x → f x ≤ u := fun o f u => by
      cases o with
      | none => exact ⟨fun _ x hx => (by cases hx), fun _ x hx => (by cases hx)⟩
      | some z => exact ⟨fun h x hx => by cases hx; exact h _ rfl, fun h x hx => by cases hx; exact h z rfl⟩
    rw [hub, ub_mul]
    constructor
    · intro h w hw
      obtain ⟨l, x, y, hl, hx, hy, rfl⟩ := mul_some hw
      have := h l (den * x - num * k) (den * y - num) hl (by rw [pow_gain hd k, hx]; rfl) (by unfold gain; rw [hy]; rfl)
      simp only [Int.mul_add, Int.natCast_add]; simp; omega
    · intro h l x y hl hx hy
      rw [pow_gain hd k] at hx
      obtain ⟨a, ha, rfl⟩ := Option.map_eq_some_iff.1 hx
      unfold gain at hy
      obtain ⟨b, hb, rfl⟩ := Option.map_eq_some_iff.1 hy
      obtain ⟨w, hw, hle⟩ := mul_ge (n := n) hl ha hb
      have h1 := h w hw
      have h2 := Int.mul_le_mul_of_nonneg_left hle (Int.le_of_lt hd)
      simp only [Int.mul_add, Int.natCast_add] at h1 h2; simp at h1; omega
end Go.Cy

end
section
/-
  THE GREATEST MEAN OF A CYCLE: that there is one, that it is one number, and that Karp's way finds it.
-/
namespace Go.Cy

/-- num/den is the mean of A: no closed path is above it, and one has it. -/
structure MeanOf (n : Nat) (A : TM) (num den : Int) : Prop where
  pos : 0 < den
  le : ∀ k i w, 0 < k → tpow n A k i i = some w → den * w ≤ num * (k : Int)
  eq : ∃ k c w, 0 < k ∧ tpow n A k c c = some w ∧ den * w = num * (k : Int)

theorem MeanOf.zero {n : Nat} {A : TM} {num den : Int} (h : MeanOf n A num den) : ∃ L c, 0 < L ∧ tpow n (gain A num den) L c c = some 0 := by
  obtain ⟨k, c, w, h1, h2, h3⟩ := h.eq
  exact ⟨k, c, h1, by rw [pow_gain h.pos, h2]; simp; omega⟩
/-- The means are equal as fractions. -/
theorem MeanOf.uniq {n : Nat} {A : TM} {p q p' q' : Int} (h : MeanOf n A p q) (h' : MeanOf n A p' q') : p * q' = p' * q := by
  obtain ⟨k, c, w, h1, h2, h3⟩ := h.eq
  obtain ⟨k', c', w', h1', h2', h3'⟩ := h'.eq
  have e1 := h'.le k c w h1 h2
  have e2 := h.le k' c' w' h1' h2'
  have hk : (0 : Int) < k := by omega
  have hk' : (0 : Int) < k' := by omega
  have hq := h.pos
  have hq' := h'.pos
  -- q' w <= p' k, q w = p k: multiply
  have f1 : k * (p * q') ≤ k * (p' * q) := by
    have : q * (q' * w) ≤ q * (p' * k) := Int.mul_le_mul_of_nonneg_left e1 (by omega)
    have a : q * (q' * w) = k * (p * q') := by rw [show q * (q' * w) = q' * (q * w) by rw [← Int.mul_assoc, Int.mul_comm q q', Int.mul_assoc], h3, ← Int.mul_assoc, Int.mul_comm q' p, Int.mul_comm]
    have b : q * (p' * k) = k * (p' * q) := by rw [← Int.mul_assoc, Int.mul_comm q p', Int.mul_comm]
    omega
  have f2 : k' * (p' * q) ≤ k' * (p * q') := by
    have : q' * (q * w') ≤ q' * (p * k') := Int.mul_le_mul_of_nonneg_left e2 (by omega)
    have a : q' * (q * w') = k' * (p' * q) := by rw [show q' * (q * w') = q * (q' * w') by rw [← Int.mul_assoc, Int.mul_comm q' q, Int.mul_assoc], h3', ← Int.mul_assoc, Int.mul_comm q p', Int.mul_comm]
    have b : q' * (p * k') = k' * (p * q') := by rw [← Int.mul_assoc, Int.mul_comm q' p, Int.mul_comm]
    omega
  exact Int.le_antisymm (Int.le_of_mul_le_mul_left f1 hk) (Int.le_of_mul_le_mul_left f2 hk')

end Go.Cy

end
section
/-
  MATRICES OF INTS as deep values: by functions of the row and the column.
-/
namespace Go.Cy
open Go.Vm Go.RowKit

def okX (L x : Int) : Bool := decide (x = Nv) || (decide (-L ≤ x) && decide (x ≤ L))
def okRow (n : Nat) (L : Int) (r : List Int) : Bool := decide (r.length = n) && r.all (okX L)
def validB (L : Int) (m : List (List Int)) : Bool := (decide (1 ≤ m.length) && decide (m.length ≤ 6)) && m.all (okRow m.length L)

end Go.Cy

end
section
/-
  MATRICES THAT ARE MADE BY A FUNCTION VALUE, behind other objects.
-/
namespace Go.Vm
open Go.RowKit

/-- A contract on deep values, among objects. -/
theorem DeepCall.own {P : Program} {f : FuncId} {args : List DV} {res : DV} (h : DeepCall P f args res) (σ : List VObj) : OwnCall P f σ (args.map .d) σ (.d res) := by
  intro M W0 ι w vs hm hl hx
  refine (h (Forb M ι σ) w vs hm.forb_lt (by simpa using hl) fun i v x hv hx' => ?_).mono fun e w' => ?_
  · have := hx i v (.d x) hv (by simp [hx'])
    cases this with
    | d h => exact h
  · rintro ⟨v, rfl, h1, h2⟩
    obtain ⟨g1, g2⟩ := hm.grown h2
    exact ⟨ι, σ, .d res, v, rfl, g1, g2, .d h1, rfl, rfl⟩

section
variable (L N : Nat) (f : Nat → Nat → Int)
end
section
variable {L N : Nat} {f : Nat → Nat → Int} {pre : List VObj}
end
end Go.Vm
namespace Go.Vm
end Go.Vm
namespace Go.Vm
section
variable {P : Program} {σ : List VObj} {kn : Kn} {dst : Option Tmp} {ty : TypeId} {pos : String} {af : Array Edge} {g : Option (Nat × Bool)}
/-- A function value that brings variables. -/
theorem K.makeF {fn : Fn} {caps : Array Operand} {xs : List XV} {x : Operand} {v : XV} {m : Nat} (ha : caps.toList.mapM (evK kn) = some xs) (hx : caps[m]? = some x) (hv : evK kn x = some v) (hl : litOf v = none) :
    KEv P ⟨dst, .makeFunc fn #[] caps, ty, pos, af, g⟩ σ kn (.fn fn [] xs) σ 0 := ev_op fun env he => by
  have e1 := evK_evalX he hv
  unfold evalOp
  rw [litOp_none (x := x) (by simpa [Op.operands] using Array.mem_of_getElem? hx) (by rw [e1]; exact hl)]
  have := mapM_evK he ha
  simp [this]
end
end Go.Vm
namespace Go.Vm
end Go.Vm
namespace Go.Cy
end Go.Cy

end
section
/-
  VALUES WITHOUT ADDRESSES: what a cell of one's own, or a slot, stands for may be told in another way.
-/
namespace Go.Vm
open Go.RowKit

theorem Mem.recell {M : Nat → Prop} {W0 w : World} {ι : List Nat} {σ : List VObj} (hm : Mem M W0 ι σ w) {id i : Nat} {ob : VObj} {x : XV} {d : DV} (ho : σ[id]? = some ob) (h2 : ob.mode < 2) (hx : ob.cells[i]? = some x)
    (hd : ∀ v, XRep w ι (Forb M ι σ) v x → DRep w (Forb M ι σ) v d) : Mem M W0 ι (σ.set id ⟨ob.cells.set i (.d d), ob.mode⟩) w ∧ Ext M ι σ w ι (σ.set id ⟨ob.cells.set i (.d d), ob.mode⟩) w := by
  have hlt := (List.getElem?_eq_some_iff.1 ho).1
  have hback : ∀ (j : Nat) (o : VObj), (σ.set id ⟨ob.cells.set i (.d d), ob.mode⟩)[j]? = some o → ∃ o1, σ[j]? = some o1 ∧ o.mode = o1.mode ∧ o.cells.length = o1.cells.length := by
    intro j o h
    by_cases e : id = j
    · subst e
      rw [List.getElem?_set_self hlt] at h
      cases h
      exact ⟨ob, ho, rfl, by simp⟩
    · rw [List.getElem?_set_ne e] at h
      exact ⟨o, h, rfl, rfl⟩
  have hmt : ∀ c, Mut ι (σ.set id ⟨ob.cells.set i (.d d), ob.mode⟩) c → Mut ι σ c := by
    rintro c ⟨j, p, h1, h2, h3⟩
    obtain ⟨o, k1, k2, _⟩ := hback j p h1
    exact ⟨j, o, k1, h2, by rw [← k2]; exact h3⟩
  have hext : Ext M ι σ w ι (σ.set id ⟨ob.cells.set i (.d d), ob.mode⟩) w := ⟨fun _ _ h => h, fun _ _ _ => rfl, Nat.le_refl _, fun c _ h => hmt c h, fun _ _ h => h, fun _ r h => ⟨r, h⟩⟩
  refine ⟨⟨by rw [hm.len]; simp, ?_, fun j o b h1 h2' h3 => by
    by_cases e : id = j
    · subst e
      rw [List.getElem?_set_self hlt] at h1
      cases h1
      simp only at h3; omega
    · rw [List.getElem?_set_ne e] at h1
      exact (hm.spec j o b h1 h2' h3).ext hext rfl, hm.fresh, ?_, hm.below, hm.outer⟩, hext⟩
  · intro j o b h1 h2' h3
    by_cases e : id = j
    · subst e
      rw [List.getElem?_set_self hlt] at h1
      cases h1
      obtain ⟨cur, ty, q1, q2, q3⟩ := hm.objs id ob b ho h2' h2
      refine ⟨cur, ty, q1, by simpa using q2, fun m y hy => ?_⟩
      by_cases em : i = m
      · subst em
        rw [List.getElem?_set_self (List.getElem?_eq_some_iff.1 hx).1] at hy
        cases hy
        obtain ⟨v, kv, kx⟩ := q3 i x hx
        exact ⟨v, kv, (XRep.d (hd v kx)).ext hext⟩
      · rw [List.getElem?_set_ne em] at hy
        obtain ⟨v, kv, kx⟩ := q3 m y hy
        exact ⟨v, kv, kx.ext hext⟩
    · rw [List.getElem?_set_ne e] at h1
      obtain ⟨cur, ty, q1, q2, q3⟩ := hm.objs j o b h1 h2' h3
      exact ⟨cur, ty, q1, q2, fun m y hy => by
        obtain ⟨v, kv, kx⟩ := q3 m y hy
        exact ⟨v, kv, kx.ext hext⟩⟩
  · intro i' j oi oj bi bj hij h1 h2' h3 h4 h5 h6
    obtain ⟨o1, a1, a2, _⟩ := hback i' oi h1
    obtain ⟨o2, b1, b2, _⟩ := hback j oj h2'
    exact hm.apart i' j o1 o2 bi bj hij a1 b1 h3 h4 (by rw [← a2]; exact h5) (by omega)

section
variable {P : Program} {M : Nat → Prop} {W0 : World} {n : Nat} {σ : List VObj} {kn : Kn}
/-- A cell that refers to an object which is only read from here on. -/
theorem KC.ghostC {c : Code} {T : Exit → List VObj → Kn → Prop} (ids : List Nat) (m : Nat) {id i : Nat} {ob : VObj} {x : XV} {d : DV} (ho : (freezeIds σ ids)[id]? = some ob) (h2 : ob.mode < 2) (hx : ob.cells[i]? = some x) (hd : deepen (freezeIds σ ids) m x = some d)
    (h : KC P M W0 n c ((freezeIds σ ids).set id ⟨ob.cells.set i (.d d), ob.mode⟩) kn T) : KC P M W0 n c σ kn T := by
  intro env he C ι a w hF Q hQ
  obtain ⟨f1, f2⟩ := freezeIds_tamed hF.mem ids
  obtain ⟨g1, g2⟩ := f1.recell ho h2 hx fun v hv => deepen_sound f1 m v x d hv hd
  exact h env he C ι a w ⟨g1, fun s => ((hF.env s).ext f2).ext g2, hF.size, (hF.defers.ext f2).ext g2, fun l hl => let ⟨r, hr⟩ := hF.round l hl; (f2.trans g2).loops l r hr⟩ Q fun e ι' s' a' w' hT hFr hE => hQ e ι' s' a' w' hT hFr (f2.trans (g2.trans hE))
end
end Go.Vm

end
section
/-
  VALUES WITHOUT ADDRESSES, 30: maps whose keys are strings, walks over strings, checks for nil.
-/
namespace Go.Vm
open Go.RowKit

section
variable {P : Program} {σ : List VObj} {kn : Kn} {dst : Option Tmp} {ty : TypeId} {pos : String} {af : Array Edge} {g : Option (Nat × Bool)}

theorem K.semP {o : Oper} {x : XV} (hs : ∀ env, Agree kn env → ∀ (F : Nat → Prop) (ι : List Nat) (w : World) (ev : Operand → Value), (∀ y ∈ o.op.operands, XRep w ι F (ev y) (evalX env y)) → ∃ v, (execOp ev o).run P w = .ok (.value v) w ∧ XRep w ι F v x) : KEv P o σ kn x σ 0 :=
  fun env he => .semP (s := ⟨σ, env⟩) (hs env he)

theorem K.semG {o : Oper} {x : XV} {τ : List VObj} (hs : ∀ env, Agree kn env → ∀ (M : Nat → Prop) (W0 : World) (ι : List Nat) (w : World) (ev : Operand → Value), Mem M W0 ι σ w → (∀ y ∈ o.op.operands, XRep w ι (Forb M ι σ) (ev y) (evalX env y)) → Good P M W0 ι σ w (execOp ev o) x (σ ++ τ)) : KEv P o σ kn x (σ ++ τ) 3 :=
  fun env he => .semG (s := ⟨σ, env⟩) (hs env he)

theorem K.semW {o : Oper} {x : XV} {σ' : List VObj} (hs : ∀ env, Agree kn env → ∀ (M : Nat → Prop) (W0 : World) (ι : List Nat) (w : World) (ev : Operand → Value), Mem M W0 ι σ w → (∀ y ∈ o.op.operands, XRep w ι (Forb M ι σ) (ev y) (evalX env y)) → Good P M W0 ι σ w (execOp ev o) x σ') : KEv P o σ kn x σ' 2 :=
  fun env he => .semW (s := ⟨σ, env⟩) (hs env he)

/-- A pointer to a variable of the call's own is not nil. -/
theorem K.nilCheckO {x : Operand} {id off : Nat} (hx : evK kn x = some (.optr id off)) : KEv P ⟨dst, .nilCheck x, ty, pos, af, g⟩ σ kn (.optr id off) σ 0 := by
  refine K.semP fun env he F ι w ev h => ?_
  have h1 := h x (by simp [Op.operands])
  rw [evK_evalX he hx] at h1
  generalize hv : ev x = v at h1
  cases h1 with
  | optr hb =>
    refine ⟨_, ?_, .optr hb⟩
    simp [execOp, hv]

end
end Go.Vm

end
section
/-
  VALUES WITHOUT ADDRESSES: maps of the call's own with any keys that Go compares plainly: looked up, put, deleted, counted; a map that is only read.
-/
namespace Go.Vm
open Go.RowKit

/-- Which values are keys, and that Go finds them. -/
structure KeyR (P : Program) (kt : TypeId) (K : Value → Prop) : Prop where
  check : ∀ (w : World) (em : Bool) (v : Value), K v → (Instr.checkKey em 10000 kt v).run P w = .ok () w
  find : ∀ (w : World) (x : Value), K x → ∀ es : List MapEntry, (∀ e ∈ es, K e.key) →
    ((Instr.findKey kt x es).run P w = .ok none w ∧ ∀ e ∈ es, e.key ≠ x) ∨ ∃ j e, (Instr.findKey kt x es).run P w = .ok (some (j, e.val)) w ∧ es[j]? = some e ∧ e.key = x
  stays : ∀ (w : World) (v : Value), K v → (Instr.keyThatStays v v).run P w = .ok v w

theorem KeyR.plain {P : Program} {kt : TypeId} {d : TypeDesc} (hd : P.underlying kt = some d) : KeyR P kt (MapKept.IsKey d) where
  check w em v h := MapKept.run_checkKey hd h em 9999
  find w x hx es hes := by
    rcases MapKept.findNow_spec hx es 0 hes with ⟨h1, h2⟩ | ⟨j, e, h1, h2, h3⟩
    · exact .inl ⟨MapKept.run_findKey hd h1, h2⟩
    · exact .inr ⟨j, e, by have := MapKept.run_findKey (P := P) (w := w) hd h1; simpa using this, h2, h3⟩
  stays w v h := MapKept.run_keyThatStays h

theorem KeyR.law {P : Program} {kt : TypeId} (L : WideMaps.KeyLaw P kt) : KeyR P kt (fun v => ∃ l, keyOf P kt v = some l) where
  check w em v h := by obtain ⟨l, h⟩ := h; exact L.check w em h
  find w x hx es hes := by obtain ⟨l, hx⟩ := hx; exact L.find w hx es hes
  stays w v h := by obtain ⟨l, h⟩ := h; exact L.stays w h

theorem KeyR.sub {P : Program} {kt : TypeId} {K K' : Value → Prop} (h : KeyR P kt K) (hs : ∀ v, K' v → K v) : KeyR P kt K' where
  check w em v hv := h.check w em v (hs v hv)
  find w x hx es hes := h.find w x (hs x hx) es fun e he => hs _ (hes e he)
  stays w v hv := h.stays w v (hs v hv)

/-- The entries of a map of the call's own. -/
def entX (l : List (Value × XV)) : List XV := l.map fun p => XV.ent p.1 p.2

structure RepX (w : World) (ι : List Nat) (F : Nat → Prop) (es : Array MapEntry) (l : List (Value × XV)) : Prop where
  size : es.size = l.length
  get : ∀ (i : Nat) (e : MapEntry), es[i]? = some e → ∃ p, l[i]? = some p ∧ e.key = p.1 ∧ XRep w ι F e.val p.2

section
variable {w : World} {ι : List Nat} {F : Nat → Prop} {es : Array MapEntry} {l : List (Value × XV)} {K : Value → Prop}

theorem RepX.keys (h : RepX w ι F es l) (hK : ∀ p ∈ l, K p.1) : ∀ e ∈ es.toList, K e.key := fun x hx => by
  obtain ⟨i, hi⟩ := List.getElem?_of_mem hx
  obtain ⟨p, a, b, _⟩ := h.get i x (by simpa using hi)
  rw [b]; exact hK p (List.mem_of_getElem? a)

theorem RepX.none (h : RepX w ι F es l) {k : Value} (hk : ∀ e ∈ es.toList, e.key ≠ k) : ∀ p ∈ l, p.1 ≠ k := fun p hp e => by
  obtain ⟨i, hi⟩ := List.getElem?_of_mem hp
  have hlt : i < es.size := by rw [h.size]; exact (List.getElem?_eq_some_iff.1 hi).1
  obtain ⟨q, a, b, _⟩ := h.get i es[i] (Array.getElem?_eq_getElem hlt)
  rw [hi] at a; cases a
  exact hk es[i] (by simp) (b.trans e)

theorem RepX.spec (h : RepX w ι F es l) {b clock mode : Nat} (hm : mode = 3 ∨ mode = 4) (hb : w.heap[b]? = some (.map es clock)) : Spec w ι F b mode (entX l) :=
  .inl ⟨hm, es, clock, hb, by rw [h.size]; simp [entX], fun i e c hi hc => by
    obtain ⟨p, h1, h2, h3⟩ := h.get i e hi
    unfold entX at hc
    rw [List.getElem?_map, h1] at hc
    cases hc
    exact ⟨p.2, by rw [h2], h3⟩⟩

theorem Spec.repX {b mode : Nat} (hm : mode = 3 ∨ mode = 4) (h : Spec w ι F b mode (entX l)) : ∃ es clock, w.heap[b]? = some (.map es clock) ∧ RepX w ι F es l := by
  rcases h with ⟨_, es, clock, q1, q2, q3⟩ | ⟨q, _⟩ | ⟨q, _⟩
  · refine ⟨es, clock, q1, by rw [q2]; simp [entX], fun i e hi => ?_⟩
    have hlt : i < l.length := by
      have := (Array.getElem?_eq_some_iff.1 hi).1
      rw [q2] at this; simpa [entX] using this
    obtain ⟨x, e1, e2⟩ := q3 i e _ hi (by unfold entX; rw [List.getElem?_map, List.getElem?_eq_getElem hlt]; rfl)
    simp only [XV.ent, XV.tup.injEq, List.cons.injEq, XV.d.injEq, DV.lit.injEq, and_true] at e1
    exact ⟨l[i], List.getElem?_eq_getElem hlt, e1.1.symm, by rw [e1.2]; exact e2⟩
  · omega
  · omega

theorem RepX.ext {M : Nat → Prop} {σ σ' : List VObj} {ι' : List Nat} {w' : World} (h : RepX w ι (Forb M ι σ) es l) (e : Ext M ι σ w ι' σ' w') : RepX w' ι' (Forb M ι' σ') es l :=
  ⟨h.size, fun i x hi => let ⟨p, a, b, c⟩ := h.get i x hi; ⟨p, a, b, c.ext e⟩⟩

theorem RepX.push (h : RepX w ι F es l) {k v : Value} {x : XV} {clock : Nat} (hx : XRep w ι F v x) : RepX w ι F (es.push { key := k, val := v, born := clock }) (l ++ [(k, x)]) := by
  refine ⟨by simp [h.size], fun i e hi => ?_⟩
  rw [Array.getElem?_push] at hi
  split at hi
  · rename_i e1
    cases hi
    exact ⟨(k, x), by rw [e1, h.size]; simp, rfl, hx⟩
  · obtain ⟨p, h1, h2⟩ := h.get i e hi
    exact ⟨p, by rw [List.getElem?_append_left (List.getElem?_eq_some_iff.1 h1).1]; exact h1, h2⟩

theorem RepX.modify (h : RepX w ι F es l) {k v : Value} {x : XV} {j : Nat} (hx : XRep w ι F v x) : RepX w ι F (es.modify j fun e => { e with key := k, val := v }) (l.set j (k, x)) := by
  refine ⟨by simp [h.size], fun i e hi => ?_⟩
  rw [Array.getElem?_modify] at hi
  have hlt : i < l.length := by
    rw [← h.size]
    have := hi
    split at this
    · obtain ⟨a, ha, _⟩ := Option.map_eq_some_iff.1 this
      exact (Array.getElem?_eq_some_iff.1 ha).1
    · exact (Array.getElem?_eq_some_iff.1 this).1
  rw [List.getElem?_set]
  by_cases e1 : j = i
  · rw [if_pos e1] at hi
    obtain ⟨a, _, rfl⟩ := Option.map_eq_some_iff.1 hi
    subst e1
    exact ⟨(k, x), by rw [if_pos rfl, if_pos hlt], rfl, hx⟩
  · rw [if_neg e1] at hi
    rw [if_neg e1]
    exact h.get i e hi

end

/-- The key k stands at place i of the map alone. -/
def AtK (l : List (Value × XV)) (k : Value) (i : Nat) (x : XV) : Prop := l[i]? = some (k, x) ∧ ∀ (j : Nat) (p : Value × XV), l[j]? = some p → p.1 = k → j = i
/-- What a look-up gives. -/
def lookR (ok : Bool) (x : XV) (b : Bool) : XV := if ok then .tup [x, .d (.lit (.bool b))] else x

section
variable {P : Program} {M : Nat → Prop} {W0 w : World} {ι : List Nat} {σ : List VObj} {K : Value → Prop} {mty kt et : TypeId} {l : List (Value × XV)} {k : Value} {x : XV} {id : Nat}

theorem lookR_rep {F : Nat → Prop} {ok b : Bool} {v : Value} {x : XV} (h : XRep w ι F v x) : XRep w ι F (if ok then .tuple #[v, .bool b] else v) (lookR ok x b) := by
  unfold lookR
  cases ok with
  | false => exact h
  | true =>
    refine .tup rfl fun i v' x' hv hx => ?_
    match i with
    | 0 => simp at hv hx; subst hv hx; exact h
    | 1 => simp at hv hx; subst hv hx; exact .d (.lit _)
    | i + 2 => simp at hv

/-- Looking up: the key is there. -/
theorem run_look (R : KeyR P kt K) (ht : P.underlying mty = some (.map kt et)) {b clock : Nat} {es : Array MapEntry} (hb : w.heap[b]? = some (.map es clock)) {F : Nat → Prop} (h : RepX w ι F es l) (hl : ∀ p ∈ l, K p.1) (hk : K k) {i : Nat} (ha : AtK l k i x) (ok : Bool) :
    ∃ v, (Instr.lookup mty (.map (some b)) k ok).run P w = .ok v w ∧ XRep w ι F v (lookR ok x true) := by
  rcases R.find w k hk es.toList (h.keys hl) with ⟨_, h2⟩ | ⟨j, e, h1, h2, h3⟩
  · exact absurd rfl (h.none h2 _ (List.mem_of_getElem? ha.1))
  · obtain ⟨p, r1, r2, r3⟩ := h.get j e (by simpa using h2)
    have hji := ha.2 j p r1 (r2.symm.trans h3)
    subst hji
    rw [ha.1] at r1; cases r1
    refine ⟨_, ?_, lookR_rep r3⟩
    simp [Instr.lookup, run_underlying ht, MapKept.run_getObj_map hb, R.check w _ k hk, h1, Result.andThen]

end
end Go.Vm

end
section
/-
  VALUES WITHOUT ADDRESSES: the K-rules for maps with any keys.
-/
namespace Go.Vm
open Go.RowKit

section
variable {P : Program} {σ : List VObj} {kn : Kn} {dst : Option Tmp} {ty : TypeId} {pos : String} {af : Array Edge} {g : Option (Nat × Bool)} {Kq : Value → Prop} {mty kt et : TypeId} {m key val : Operand} {id : Nat} {l : List (Value × XV)} {k : Value} {kx x : XV}

theorem K.look {ok : Bool} {i : Nat} (hm : evK kn m = some (.omp id)) (ho : σ[id]? = some ⟨entX l, 3⟩) (R : KeyR P kt Kq) (ht : P.underlying mty = some (.map kt et)) (hl : ∀ p ∈ l, Kq p.1) (hk : evK kn key = some kx) (hx : litOf2 kx = some k) (hK : Kq k) (ha : AtK l k i x) :
    KEv P ⟨dst, .lookup mty m key ok, ty, pos, af, g⟩ σ kn (lookR ok x true) σ 2 := by
  refine K.semW fun env he M W0 ι w ev hM h => ?_
  have h1 := h m (by simp [Op.operands])
  have h2 := h key (by simp [Op.operands])
  rw [evK_evalX he hm] at h1
  rw [evK_evalX he hk] at h2
  have h2 := litOf2_rep h2 hx
  have hex : ∀ ev : Operand → Value, execOp ev ⟨dst, .lookup mty m key ok, ty, pos, af, g⟩ = (do pure (.value (← Instr.lookup mty (ev m) (ev key) ok))) := fun _ => rfl
  rw [hex, h2]
  generalize ev m = vm at *
  cases h1 with
  | @omp b _ hb =>
  obtain ⟨es, clock, q1, q2⟩ := (hM.spec id _ b ho hb (by simp)).repX (.inl rfl)
  obtain ⟨v, r1, r2⟩ := run_look R ht q1 q2 hl hK ha ok
  exact .pure hM (v := v) (by simp [r1, Result.andThen]) r2

end
end Go.Vm

end
section
/-
  VALUES WITHOUT ADDRESSES, 35: slices.Sort on a slice of ints of the call's own: the library's contract, told among objects.
-/
namespace Go.Vm
open Go.RowKit Go.Sort Go.Shelf

section
variable {P : Program} {ρ : Ren}

theorem setRow_eq_mapBlock (w : World) (b : Nat) (f : Array Value → Array Value) {cur : Array Value} {ty : TypeId} {fr : Nat × Nat} (h : w.heap[b]? = some (.cells cur ty fr)) : mapBlock w b f = w.setRow b (f cur) := by
  unfold mapBlock World.setRow
  congr 1
  apply Array.ext_getElem?
  intro k
  simp only [Array.getElem?_modify]
  by_cases hk : b = k
  · subst hk
    simp only [if_true, h, Option.map_some, onCells]
  · simp [hk]

end
end Go.Vm

end
section
/-
  HEAT: streams, levels, surpluses, cascades: pure functions.
-/
namespace Go.Ht
open Go.Vm

/-- A stream: where it begins, where it ends, its heat for each degree. -/
structure Sm where
  a : Int
  b : Int
  r : Int
  deriving Inhabited, DecidableEq

def Sm.ok (s : Sm) : Bool := decide (0 ≤ s.a) && decide (s.a ≤ 200) && (decide (0 ≤ s.b) && decide (s.b ≤ 200)) && decide (s.a ≠ s.b) && (decide (1 ≤ s.r) && decide (s.r ≤ 20))
def hot (s : Sm) : Bool := decide (s.b < s.a)
def up (gap : Int) (s : Sm) : Int := if hot s then s.a - gap else s.b
def lo (gap : Int) (s : Sm) : Int := if hot s then s.b - gap else s.a
/-- The heat of a stream between two shifted temperatures. -/
def ht (gap : Int) (s : Sm) (u d : Int) : Int := s.r * max 0 (min u (up gap s) - max d (lo gap s))
/-- .. counted for a hot stream, against for a cold one. -/
def hs (gap : Int) (u d : Int) (s : Sm) : Int := if hot s then ht gap s u d else - ht gap s u d
/-! ### Levels -/
def ends (gap : Int) (l : List Sm) : List Int := l.flatMap fun s => [up gap s, lo gap s]
/-! ### The cascade -/
end Go.Ht

end
section
/-
  A STATEMENT WHOSE ORDER IS OPEN, WALKED THROUGH EVERY ORDER: for statements that make two objects.
-/
namespace Go.Vm
open Go.RowKit

/-- The operations that are left, in every order. -/
def KA (P : Program) (M : Nat → Prop) (W0 : World) (n : Nat) (ops : Array Oper) (T : List VObj → Kn → Prop) (fuel : Nat) (listed : Array Bool) (σ : List VObj) (kn : Kn) : Prop :=
  ∀ env, Agree kn env → ∀ (C : Ctx) (ι : List Nat) (a : Act) (w : World), Fr M W0 C n ι ⟨σ, env⟩ a w → ∀ Q : Exit → Act → World → Prop,
    (∀ (ι' : List Nat) (s' : St) (kn' : Kn) (a' : Act) (w' : World), T s'.σ kn' → Agree kn' s'.env → Fr M W0 C n ι' s' a' w' → Ext M ι σ w ι' s'.σ w' → Q .normal a' w') → wpAnyIn (FR C.ro) 0 P .any ops Q fuel listed a w

/-- One of them next. -/
def KO (P : Program) (M : Nat → Prop) (W0 : World) (n : Nat) (ops : Array Oper) (T : List VObj → Kn → Prop) (fuel : Nat) (listed : Array Bool) (σ : List VObj) (kn : Kn) (i : Nat) : Prop :=
  ∃ (o : Oper) (x : XV) (σ' : List VObj) (fl : Nat), ops[i]? = some o ∧ guardK ops kn o = some true ∧ dstOk n o.dst = true ∧ KEv P o σ kn x σ' fl ∧
    KA P M W0 n ops T fuel (listed.setIfInBounds i true) σ' (extK o.dst x kn)

def KAll (p : Nat → Prop) : List Nat → Prop
  | [] => True
  | i :: l => p i ∧ KAll p l
theorem KAll.mem {p : Nat → Prop} : ∀ {l : List Nat}, KAll p l → ∀ i ∈ l, p i
  | [], _, _, h => by simp at h
  | j :: l, h, i, hi => by
    rcases List.mem_cons.1 hi with e | e
    · subst e; exact h.1
    · exact h.2.mem i e

section
variable {P : Program} {M : Nat → Prop} {W0 : World} {n : Nat} {ops : Array Oper} {T : List VObj → Kn → Prop} {fuel : Nat} {listed : Array Bool} {σ : List VObj} {kn : Kn}
theorem KA.done (hr : Region.ready .any ops listed = []) (h : T σ kn) : KA P M W0 n ops T fuel listed σ kn := by
  intro env ha C ι a w hf Q hq
  have := hq ι ⟨σ, env⟩ kn a w h ha hf (.refl _ _ _ _)
  cases fuel with
  | zero => exact ⟨hr, this⟩
  | succ f => exact ⟨fun _ => this, fun i hi => by rw [hr] at hi; simp at hi⟩
theorem KA.next {i0 : Nat} {r : List Nat} (hr : Region.ready .any ops listed = i0 :: r) (h : KAll (KO P M W0 n ops T fuel listed σ kn) (i0 :: r)) : KA P M W0 n ops T (fuel + 1) listed σ kn := by
  intro env ha C ι a w hf Q hq
  refine ⟨fun h0 => by rw [hr] at h0; simp at h0, fun i hi => ?_⟩
  rw [hr] at hi
  obtain ⟨o, x, σ', fl, ho, hg, hd, he, hk⟩ := h.mem i hi
  unfold wpOpIn
  rw [ho]
  simp only
  rw [if_pos (by rw [guardX_sound hf.env (guardK_X ha hg)])]
  refine (he env ha).wp hf.mem hf.env fun ι' v w' h1 h2 h3 => ?_
  exact hk (putE env o.dst x) (ha.ext o.dst x) C ι' _ w' (hf.put hd h1 h2 h3) Q fun ι'' s' kn' a' w'' k0 k1 k2 k3 => hq ι'' s' kn' a' w'' k0 k1 k2 (h2.trans k3)
theorem KO.op {i : Nat} {o : Oper} {x : XV} {σ' : List VObj} {fl : Nat} (ho : ops[i]? = some o) (hg : guardK ops kn o = some true) (hd : dstOk n o.dst = true) (he : KEv P o σ kn x σ' fl)
    (h : KA P M W0 n ops T fuel (listed.setIfInBounds i true) σ' (extK o.dst x kn)) : KO P M W0 n ops T fuel listed σ kn i := ⟨o, x, σ', fl, ho, hg, hd, he, h⟩
theorem KC.orders (hm : P.follows .mixedOrders = true) {rid : Nat} {T : Exit → List VObj → Kn → Prop} (h : KA P M W0 n ops (T .normal) ops.size (Array.replicate ops.size false) σ kn) : KC P M W0 n (.region rid ops true) σ kn T := by
  intro env ha C ι a w hf Q hq
  have hmem : Mem M W0 ι σ { w with drawn := w.drawn + 1 } ∧ Ext M ι σ w ι σ { w with drawn := w.drawn + 1 } := hf.mem.grown (Below.drew (Below.refl _ _))
  exact wpIn_region_any hm (h env ha C ι a _ ⟨hmem.1, fun t => (hf.env t).ext hmem.2, hf.size, hf.defers.ext hmem.2, hf.round⟩ Q fun ι' s' kn' a' w' k0 k1 k2 k3 => hq .normal ι' s' a' w' ⟨kn', k1, k0⟩ k2 (hmem.2.trans k3))
end
end Go.Vm

end
section
/-
  WHAT A STATEMENT OPENS, for types that hold themselves: by the depth of the reading.
-/
namespace Go.Vm
open Go.RowKit Go.ChangeShapes Go.WideShapes Go.Deep

/-- The same, for readings of so many levels. -/
def OpnB (B : Nat) (P : Program) (t : TypeId) (R : List DV → Prop) : Prop :=
  ∀ (H : Type) (enc : TypeId × Value → H) (w : World) (held : Bool) (fuel : Nat) (cs : List Value) (x : DataW H × List MemPlace), fuel ≤ B → DataW.trod enc P w 0 (fun _ => true) held fuel t cs = some x → ∃ ds, DReps w cs ds ∧ R ds
section
variable {P : Program} {t e : TypeId}
theorem OpnB.all {R : List DV → Prop} (h : ∀ B, OpnB B P t R) : Opn P t R := fun H enc w held fuel cs x hx => h fuel H enc w held fuel cs x (Nat.le_refl _) hx
theorem Opn.b {R : List DV → Prop} (h : Opn P t R) (B : Nat) : OpnB B P t R := fun H enc w held fuel cs x _ hx => h H enc w held fuel cs x hx
theorem OpnB.less {R : List DV → Prop} {B C : Nat} (h : OpnB C P t R) (hb : B ≤ C) : OpnB B P t R := fun H enc w held fuel cs x hB hx => h H enc w held fuel cs x (Nat.le_trans hB hb) hx
theorem OpnB.mono {B : Nat} {R R' : List DV → Prop} (h : OpnB B P t R) (hr : ∀ ds, R ds → R' ds) : OpnB B P t R' := fun H enc w held fuel cs x hB hx => by
  obtain ⟨ds, h1, h2⟩ := h H enc w held fuel cs x hB hx
  exact ⟨ds, h1, hr _ h2⟩
theorem OpnB.slice {B : Nat} {R : List DV → Prop} {k : Nat} (ht : P.underlying t = some (.slice e)) (hk : P.cellsOf e = k) (he : OpnB B P e R) : OpnB (B + 1) P t (One (VecP k R)) := fun H enc w held fuel cs x hB h => by
  rcases DataW.trod_slice ht h with ⟨rfl, _⟩ | ⟨a, len, cap, elems, rest, n, hfu, rfl, _, _, hl, hm, hlen, hel, _, _⟩
  · exact ⟨[Dnil], .one (.lit _), _, rfl, .nil⟩
  · have each : ∀ i, i < len → ∃ y : List Value × List DV, w.cells? 0 (a.add (i * k)) k = some y.1 ∧ DReps w y.1 y.2 ∧ R y.2 := by
      intro i hi
      have h1 := hel i hi
      rw [List.getElem?_eq_getElem (by omega), hk] at h1
      obtain ⟨c, hc, hd⟩ := Option.bind_eq_some_iff.1 h1
      obtain ⟨ds, h2, h3⟩ := he H enc w held n c _ (by omega) hd
      exact ⟨(c, ds), hc, h2, h3⟩
    obtain ⟨y, hy⟩ := choose_lt each
    have hcl : ∀ i, i < len → (y i).1.length = k ∧ (y i).2.length = k := fun i hi => by
      obtain ⟨_, h2, _⟩ := World.cells?_some (hy i hi).1
      exact ⟨h2, by rw [← (hy i hi).2.1.1]; exact h2⟩
    have f2 := rows_flat k ((List.range len).map fun i => (y i).2) (fun l hl' => by
      obtain ⟨i, hi, rfl⟩ := List.mem_map.1 hl'
      exact (hcl i (by simpa using hi)).2)
    have f1 := rows_flat k ((List.range len).map fun i => (y i).1) (fun l hl' => by
      obtain ⟨i, hi, rfl⟩ := List.mem_map.1 hl'
      exact (hcl i (by simpa using hi)).1)
    simp only [List.length_map, List.length_range] at f1 f2
    refine ⟨[.sl ((List.range len).map fun i => (y i).2).flatten len none], .one ?_, _, rfl, .sl f2.1 (by have := maxLen_is; omega) fun i hi => ?_⟩
    · have split : ∀ p, p < len * k → ∃ i j, i < len ∧ j < k ∧ p = i * k + j := fun p hp => by
        have hk0 : 0 < k := by
          cases k with
          | zero => simp at hp
          | succ k => omega
        exact ⟨p / k, p % k, by rw [Nat.div_lt_iff_lt_mul hk0]; exact hp, Nat.mod_lt _ hk0, by rw [Nat.mul_comm]; exact (Nat.div_add_mod p k).symm⟩
      have cellAt : ∀ i j, i < len → j < k → w.cell? (a.add (i * k + j)) = (y i).1[j]? ∧ ((List.range len).map fun i => (y i).1).flatten[i * k + j]? = (y i).1[j]? ∧ ((List.range len).map fun i => (y i).2).flatten[i * k + j]? = (y i).2[j]? := by
        intro i j hi hj
        obtain ⟨_, _, h3⟩ := World.cells?_some (hy i hi).1
        have h4 := f1.2 i (y i).1 (by simp [hi])
        have h5 := f2.2 i (y i).2 (by simp [hi])
        refine ⟨?_, ?_, ?_⟩
        · rw [← h3 j hj, add_add']
        · conv => rhs; rw [← h4]
          rw [List.getElem?_take, if_pos hj, List.getElem?_drop]
        · conv => rhs; rw [← h5]
          rw [List.getElem?_take, if_pos hj, List.getElem?_drop]
      have key : len * k ≠ 0 → a.spot = none := by
        intro h0
        obtain ⟨i, j, hi, hj, he⟩ := split 0 (by omega)
        have h1 := (cellAt i j hi hj).1
        rw [← he, List.getElem?_eq_getElem (by rw [(hcl i hi).1]; exact hj)] at h1
        have := World.cell?_spot h1
        simpa [Addr.add] using this
      refine .sl ((List.range len).map fun i => (y i).1).flatten hl (fun c h => by cases h) (by rw [f1.1, f2.1]) (fun hne => ⟨key ?_, fun h => h⟩) (fun p v hv => ?_) (fun p v x hv hx => ?_)
      · intro h0
        apply hne
        rw [← List.length_eq_zero_iff, f2.1, h0]
      · have hp : p < len * k := by rw [← f1.1]; exact (List.getElem?_eq_some_iff.1 hv).1
        obtain ⟨i, j, hi, hj, rfl⟩ := split p hp
        obtain ⟨c1, c2, c3⟩ := cellAt i j hi hj
        have hs := key (by omega)
        obtain ⟨b, off, spot⟩ := a
        simp only at hs
        subst hs
        rw [c2, ← c1, add_plain] at hv
        exact hv
      · have hp : p < len * k := by rw [← f1.1]; exact (List.getElem?_eq_some_iff.1 hv).1
        obtain ⟨i, j, hi, hj, rfl⟩ := split p hp
        obtain ⟨c1, c2, c3⟩ := cellAt i j hi hj
        rw [c2] at hv
        rw [c3] at hx
        exact (hy i hi).2.1.2 j v x hv hx
    · rw [f2.2 i (y i).2 (by simp [hi])]
      exact (hy i hi).2.2

/-- A struct, field by field. -/
theorem OpnB.struct {B : Nat} {fs : Array Field} (ht : P.underlying t = some (.struct fs)) (Rs : List (Nat × (List DV → Prop))) (off : Nat → Nat) (h0 : off 0 = 0) (hs : Rs.length = fs.size) (hc : P.cellsOf t = off fs.size)
    (hf : ∀ (i : Nat) (f : Field) (q : Nat × (List DV → Prop)), fs[i]? = some f → Rs[i]? = some q → f.offset = off i ∧ P.cellsOf f.type = q.1 ∧ off (i + 1) = off i + q.1 ∧ OpnB B P f.type q.2) : OpnB (B + 1) P t (Parts Rs) := fun H enc w held fuel cs x hB h => by
  obtain ⟨xs, n, hfu, _, hlen, hxl, hx⟩ := DataW.trod_struct ht h
  have go : ∀ (m i : Nat), m = fs.size - i → i ≤ fs.size → ∃ ds, DReps w (cs.drop (off i)) ds ∧ Parts (Rs.drop i) ds := by
    intro m
    induction m with
    | zero =>
      intro i hm hi
      have : i = fs.size := by omega
      subst this
      rw [List.drop_eq_nil_of_le (by omega), List.drop_eq_nil_of_le (by omega)]
      exact ⟨[], .nil, rfl⟩
    | succ m ih =>
      intro i hm hi
      have hlt : i < fs.size := by omega
      have hlt' : i < Rs.length := by omega
      obtain ⟨a1, a2, a3, a4⟩ := hf i fs[i] Rs[i] (Array.getElem?_eq_getElem hlt) (List.getElem?_eq_getElem hlt')
      obtain ⟨ds', b1, b2⟩ := ih (i + 1) (by omega) (by omega)
      have hx' := hx i fs[i] (Array.getElem?_eq_getElem hlt)
      rw [List.getElem?_eq_getElem (by omega)] at hx'
      obtain ⟨d, c1, c2⟩ := a4 H enc w held n _ _ (by omega) hx'
      rw [a1, a2] at c1
      have hle : off i + Rs[i].1 ≤ cs.length := by
        have mono : ∀ k, i + 1 + k ≤ fs.size → off (i + 1) ≤ off (i + 1 + k) := by
          intro k
          induction k with
          | zero => intro _; exact Nat.le_refl _
          | succ k ihk =>
            intro hk
            have hk1 : i + 1 + k < fs.size := by omega
            obtain ⟨_, _, a3', _⟩ := hf (i + 1 + k) fs[i + 1 + k] Rs[i + 1 + k] (Array.getElem?_eq_getElem hk1) (List.getElem?_eq_getElem (by omega))
            have := ihk (by omega)
            have e : i + 1 + (k + 1) = i + 1 + k + 1 := by omega
            rw [e]; omega
        have := mono (fs.size - (i + 1)) (by omega)
        rw [show i + 1 + (fs.size - (i + 1)) = fs.size by omega] at this
        omega
      refine ⟨d ++ ds', ?_, ?_⟩
      · have e : cs.drop (off i) = (cs.drop (off i)).take Rs[i].1 ++ cs.drop (off (i + 1)) := by
          rw [a3, ← List.drop_drop, List.take_append_drop]
        rw [e]
        exact c1.append b1
      · rw [List.drop_eq_getElem_cons hlt']
        refine ⟨d, ds', rfl, ?_, c2, b2⟩
        rw [← c1.1]; simp; omega
  obtain ⟨ds, h1, h2⟩ := go _ 0 rfl (Nat.zero_le _)
  rw [h0] at h1
  exact ⟨ds, by simpa using h1, by simpa using h2⟩


end
end Go.Vm

end
section
/-
  SLICES whose elements are of k cells each, as values; streams as cells.
-/
namespace Go.Vm
theorem chunk {α : Type} {k : Nat} : ∀ (n : Nat) (cs : List α), cs.length = n * k → ((List.range n).map fun i => (cs.drop (i * k)).take k).flatten = cs
  | 0, cs, h => by
    rw [Nat.zero_mul] at h
    rw [List.eq_nil_of_length_eq_zero h]; rfl
  | n + 1, cs, h => by
    have h2 : (cs.drop k).length = n * k := by rw [List.length_drop, h, Nat.add_mul, Nat.one_mul]; omega
    have ih := chunk n (cs.drop k) h2
    rw [List.range_succ_eq_map, List.map_cons, List.map_map, List.flatten_cons]
    have e : ((fun i => (cs.drop (i * k)).take k) ∘ Nat.succ) = fun i => ((cs.drop k).drop (i * k)).take k := funext fun i => by
      show (cs.drop ((i + 1) * k)).take k = _
      rw [List.drop_drop, Nat.add_mul, Nat.one_mul, Nat.add_comm]
    rw [e, ih, Nat.zero_mul, List.drop_zero, List.take_append_drop]
theorem VecP.rows {k : Nat} {R : List DV → Prop} {d : DV} (h : VecP k R d) : d = Dnil ∨ ∃ (rows : List (List DV)) (cap : Option Nat), d = .sl rows.flatten rows.length cap ∧ rows.length ≤ 9223372036854775807 ∧ ∀ r ∈ rows, R r := by
  cases h with
  | nil => exact .inl rfl
  | @sl cs len cap hn hl h =>
    refine .inr ⟨(List.range len).map fun i => (cs.drop (i * k)).take k, cap, ?_, by simpa using hl, fun r hr => ?_⟩
    · rw [chunk len cs hn, List.length_map, List.length_range]
    · obtain ⟨i, hi, rfl⟩ := List.mem_map.1 hr
      exact h i (List.mem_range.1 hi)
/-- A slice whose elements stand as k cells each. -/
inductive FlD {α : Type} (k : Nat) (f : α → List DV) : DV → List α → Prop
  | nil : FlD k f Dnil []
  | sl {l : List α} {cap : Option Nat} : FlD k f (.sl (l.flatMap f) l.length cap) l

theorem flat_drop {α : Type} {k : Nat} {f : α → List DV} (hf : ∀ a, (f a).length = k) : ∀ (l : List α) (m : Nat) (hm : m < l.length), (l.flatMap f).drop (m * k) = f l[m] ++ (l.drop (m + 1)).flatMap f
  | [], m, hm => absurd hm (Nat.not_lt_zero _)
  | a :: l, 0, _ => by simp
  | a :: l, m + 1, hm => by
    rw [List.flatMap_cons, show (m + 1) * k = k + m * k by rw [Nat.add_mul]; omega, ← List.drop_drop, List.drop_append_of_le_length (by rw [hf]; exact Nat.le_refl _), List.drop_of_length_le (l := f a) (by rw [hf]; exact Nat.le_refl _), List.nil_append]
    exact flat_drop hf l m (by simpa using hm)

/-- The value that stands for a list of an own slice. -/
def flV {α : Type} (f : α → List DV) (l : List α) : DV := match l with | [] => Dnil | _ => .sl (l.flatMap f) l.length none
theorem flV_ok {α : Type} {k : Nat} {f : α → List DV} (l : List α) : FlD k f (flV f l) l := by
  cases l with
  | nil => exact .nil
  | cons a l => exact .sl

section
variable {P : Program} {n : Nat} {ops : Array Oper} {l : List Oper} {σ : List VObj} {kn : Kn} {dst : Option Tmp} {ty : TypeId} {pos : String} {af : Array Edge} {g : Option (Nat × Bool)}
  {R : List Nat → List VObj → Kn → Prop} {α : Type} {k : Nat} {f : α → List DV}
theorem K.lenF {x : Operand} {t e : TypeId} {d : DV} {ks : List α} (hx : evK kn x = some (.d d)) (hd : FlD k f d ks) (ht : P.underlying t = some (.slice e)) :
    KEv P ⟨dst, .call ⟨.builtin .len, #[x], #[t]⟩, ty, pos, af, g⟩ σ kn (.d (DI (ks.length : Nat))) σ 0 := by
  cases hd with
  | nil => exact K.len (R := fun _ (_ : Nat) => True) (l := []) hx .nil ht
  | sl => exact K.lenD hx ht
theorem K.idxF (hf : ∀ a, (f a).length = k) {x i : Operand} {t e : TypeId} {d : DV} {ks : List α} {m : Nat} (hx : evK kn x = some (.d d)) (hd : FlD k f d ks)
    (hi : evK kn i = some (.d (DI (m : Nat)))) (hm : m < ks.length) (ht : P.underlying t = some (.slice e)) (hs : sizeT P e = some k) :
    KEv P ⟨dst, .indexAddr t x i, ty, pos, af, g⟩ σ kn (.d (.ptr (f ks[m] ++ (ks.drop (m + 1)).flatMap f))) σ 0 := by
  cases hd with
  | nil => simp at hm
  | sl =>
    have hK := K.idxDK (P := P) (σ := σ) (dst := dst) (ty := ty) (pos := pos) (af := af) (g := g) (k := k) hx hi hm ht hs
    rwa [flat_drop hf _ _ hm] at hK
/-- The whole element. -/
theorem K.loadFl {x : Operand} {t : TypeId} {cs rest : List DV} {m : Nat} (hm : cs.length = m) (hx : evK kn x = some (.d (.ptr (cs ++ rest)))) (ht : isAggT P t = some true) (hs : sizeT P t = some m) :
    KEv P ⟨dst, .load t x, ty, pos, af, g⟩ σ kn (.d (.agg cs)) σ 0 := by
  have h := K.loadAgg (σ := σ) (dst := dst) (ty := ty) (pos := pos) (af := af) (g := g) (cs := cs ++ rest) (m := m) hx ht hs (by simp; omega)
  rwa [List.take_append_of_le_length (by omega), List.take_of_length_le (by omega)] at h

/-- A slice that is appended to: made so, or a literal. -/
inductive OwnL (k : Nat) (σ : List VObj) : XV → List XV → Prop
  | own {x : XV} {cells : List XV} (h : OwnK k σ x cells) : OwnL k σ x cells
  | lit {id n : Nat} {cells : List XV} (h : σ[id]? = some ⟨cells, 0⟩) (hn : cells.length = n * k) : OwnL k σ (.osl id 0 n k n true) cells
theorem OwnL.keep {k : Nat} {σ σ' : List VObj} {x : XV} {cells : List XV} (h : OwnL k σ x cells) (hk : ∀ j, idX x = some j → σ'[j]? = σ[j]?) : OwnL k σ' x cells := by
  cases h with
  | own h => exact .own (h.keep hk)
  | lit h hn => exact .lit (by rw [hk _ rfl]; exact h) hn
theorem OwnL.lt {k : Nat} {σ : List VObj} {x : XV} {cells : List XV} (h : OwnL k σ x cells) {j : Nat} (hj : idX x = some j) : j < σ.length := by
  cases h with
  | own h => exact h.lt hj
  | lit h hn => cases hj; exact (List.getElem?_eq_some_iff.1 h).1
theorem OwnL.pushed {k : Nat} {σ : List VObj} {x : XV} {cells : List XV} (h : OwnL k σ x cells) (o : VObj) : OwnL k (σ ++ [o]) x cells := by
  cases h with
  | own h => exact .own (h.pushed o)
  | lit h hn => exact .lit (getElem?_pre _ _ _ _ h) hn
end
end Go.Vm
namespace Go.Ht
open Go.Vm
def c3 (s : Sm) : List DV := [DI s.a, DI s.b, DI s.r]
def c5 (gap : Int) (s : Sm) : List DV := [DI s.a, DI s.b, DI s.r, DI (up gap s), DI (lo gap s)]
/-- Whole numbers of an own slice. -/
def ints (l : List Int) : List DV := l.map fun n => DI n
end Go.Ht

end
section
/-
  RULES: clear of an own slice of whole numbers, parts of own slices, a slice without its first element.
-/
namespace Go.Vm
open Go.RowKit
section
variable {P : Program} {σ : List VObj} {kn : Kn} {dst : Option Tmp} {ty : TypeId} {pos : String} {af : Array Edge} {g : Option (Nat × Bool)}

/-- A struct that is built, of plain values or not. -/
theorem K.buildS {t : TypeId} {parts : Array (Nat × Operand)} {qs : List (Nat × XV)} {r : XV} (hp : parts.toList.mapM (fun p => (evK kn p.2).map fun v => (p.1, v)) = some qs) (hr : opBuild P t qs = some r) : KEv P ⟨dst, .build t parts, ty, pos, af, g⟩ σ kn r σ 0 := by
  refine K.semP fun env he F ι w ev h => ?_
  have hex : ∀ ev : Operand → Value, execOp ev ⟨dst, .build t parts, ty, pos, af, g⟩ = (do pure (.value (← Instr.build t (parts.map fun (i, x) => (i, ev x))))) := fun _ => rfl
  rw [hex]
  obtain ⟨h1, h2⟩ := mapM_get hp
  obtain ⟨v, k1, k2⟩ := opBuild_sound (P := P) (w := w) (ι := ι) (F := F) (ps := (parts.map fun p => (p.1, ev p.2)).toList) (by simpa using h1) (fun i p q hpi hqi => by
    simp only [Array.toList_map, List.getElem?_map, Option.map_eq_some_iff] at hpi
    obtain ⟨p', hp', rfl⟩ := hpi
    have h3 := h2 i p' q hp' hqi
    obtain ⟨u, hu, rfl⟩ := Option.map_eq_some_iff.1 h3
    refine ⟨rfl, ?_⟩
    have := h p'.2 (by
      simp only [Op.operands, List.mem_toArray, List.mem_map]
      exact ⟨p', List.mem_of_getElem? hp', rfl⟩)
    rw [evK_evalX he hu] at this
    exact this) hr
  refine ⟨v, ?_, k2⟩
  rw [Array.toArray_toList] at k1
  simp [k1, Result.andThen]

/-- One result, that lies in a variable. -/
theorem resK_c {fn : Func} {a t id m md : Nat} (ds : List DV) (hr : fn.results = #[.cell a t]) (hl : look kn a = some (.optr id 0)) (ho : σ[id]? = some ⟨ds.map .d, md⟩) (h2 : md < 2) (ha : isAggT P t = some true) (hs : sizeT P t = some m) (hm : ds.length = m) :
    resK P fn σ kn = some (.d (.agg ds)) := by
  have := resK_agg (m := m) hr hl ho h2 ha hs (by simp; omega)
  rwa [List.drop_zero, List.take_of_length_le (by simp; omega), aggX_d] at this
end
section
variable {P : Program} {n : Nat} {ops : Array Oper} {l : List Oper} {σ : List VObj} {kn : Kn} {dst : Option Tmp} {ty : TypeId} {pos : String} {af : Array Edge} {g : Option (Nat × Bool)}
  {R : List Nat → List VObj → Kn → Prop}
/-- All cells of a variable are written. -/
theorem KT.putAll {x y : Operand} {t : TypeId} {id : Nat} {cells cs : List XV} {v : XV} (hg : guardK ops kn ⟨dst, .store t x y, ty, pos, af, g⟩ = some true) (hd : dstOk n dst = true) (hx : evK kn x = some (.optr id 0)) (hy : evK kn y = some v)
    (ho : σ[id]? = some ⟨cells, 0⟩) (hc : cellsX v = cs) (hz : cells.length = cs.length) (h1 : cs.all oneX = true) (hs : sizeT P t = some cs.length)
    (h : KT P n ops l (σ.set id ⟨cs, 0⟩) (extK dst undefX kn) (fun fls τ k => R (2 :: fls) τ k)) :
    KT P n ops (⟨dst, .store t x y, ty, pos, af, g⟩ :: l) σ kn R := by
  subst hc
  refine KT.step hg hd (K.storeN hx hy ho (by omega) h1 hs) ?_
  rw [splice_all hz]
  exact h
end
end Go.Vm

end
section
/-
  Controllers: words and findings as deep values; the keys of what was met.
-/
namespace Go.Vm
open Go.RowKit Go.Sc

section
variable {P : Program} {σ : List VObj} {kn : Kn} {dst : Option Tmp} {ty : TypeId} {pos : String} {af : Array Edge} {g : Option (Nat × Bool)}
theorem K.lenSl {x : Operand} {t e : TypeId} {ds : List DV} {n : Nat} {cap : Option Nat} (hx : evK kn x = some (.d (.sl ds n cap))) (ht : P.underlying t = some (.slice e)) :
    KEv P ⟨dst, .call ⟨.builtin .len, #[x], #[t]⟩, ty, pos, af, g⟩ σ kn (.d (DI (n : Nat))) σ 0 := ev_op fun env he => by
  have e1 := evK_evalX he hx
  unfold evalOp
  rw [litOp_none (x := x) (by simp [Op.operands, Call.operands]) (by rw [e1]; rfl)]
  simp [e1, opLen, isSliceT, ht]
end

/-- A word. -/
def wV : List Nat → DV
  | [] => Dnil
  | w => .sl (w.map fun i => DI (i : Nat)) w.length none
/-- Findings. -/
def f2 (p : Nat × List Nat) : List DV := [DI (p.1 : Nat), wV p.2]
def f3 (p : (Nat × Nat) × List Nat) : List DV := [DI (p.1.1 : Nat), DI (p.1.2 : Nat), wV p.2]
/-- What is own and not empty. -/
theorem OwnK.is {k : Nat} {σ : List VObj} {x : XV} {cells : List XV} {n : Nat} (h : OwnK k σ x cells) (hn : cells.length = n * k) (hk : 0 < k) (h0 : 0 < n) : ∃ id, x = .osl id 0 n k n false ∧ σ[id]? = some ⟨cells, 0⟩ := by
  cases h with
  | nil =>
    have := Nat.mul_pos h0 hk
    simp at hn; omega
  | @sl id m _ h1 h2 =>
    have : m = n := Nat.eq_of_mul_eq_mul_right hk (h2.symm.trans hn)
    subst this
    exact ⟨id, rfl, h1⟩

def met {S : Type} (key : S → Value) (fs : List S) : List (Value × XV) := fs.map fun s => (key s, .d (DB true))
end Go.Vm
namespace Go.Vm
theorem obj_put {σ : List VObj} {i : Nat} {o : VObj} (h : σ[i]? = some o) (ob : VObj) : ∃ σ2, σ.set i ob = σ2 ∧ σ2[i]? = some ob ∧ (∀ j, j ≠ i → σ2[j]? = σ[j]?) ∧ σ2.length = σ.length :=
  ⟨_, rfl, by rw [List.getElem?_set, if_pos rfl, if_pos (List.getElem?_eq_some_iff.1 h).1], fun j hj => by rw [List.getElem?_set, if_neg (fun e => hj e.symm)], by simp⟩
theorem obj_left {σ τ : List VObj} {i : Nat} {o : VObj} (h : σ[i]? = some o) : (σ ++ τ)[i]? = some o := by
  rw [List.getElem?_append_left (List.getElem?_eq_some_iff.1 h).1]; exact h
theorem obj_ne {σ : List VObj} {i j : Nat} {a b : VObj} (hi : σ[i]? = some a) (hj : σ[j]? = some b) (h : a.mode ≠ b.mode) : i ≠ j := by
  rintro rfl; rw [hi] at hj; cases hj; exact h rfl
theorem obj_lt {σ : List VObj} {i : Nat} {o : VObj} (h : σ[i]? = some o) : i < σ.length := (List.getElem?_eq_some_iff.1 h).1
end Go.Vm
namespace Go.Vm
end Go.Vm
namespace Go.Vm
open Go.RowKit
section
variable {P : Program} {σ : List VObj} {kn : Kn} {dst : Option Tmp} {ty : TypeId} {pos : String} {af : Array Edge} {g : Option (Nat × Bool)}
end
end Go.Vm
namespace Go.Vm
end Go.Vm
namespace Go.Vm
open Go.RowKit
section
variable {P : Program} {σ : List VObj} {kn : Kn} {dst : Option Tmp} {ty : TypeId} {pos : String} {af : Array Edge} {g : Option (Nat × Bool)}
/-- A function value that brings arguments of its own. -/
theorem K.makeFF {fn : Fn} {first : Array Operand} {ys : List XV} {x : Operand} {v : XV} {m : Nat} (hb : first.toList.mapM (evK kn) = some ys) (hx : first[m]? = some x) (hv : evK kn x = some v) (hl : litOf v = none) :
    KEv P ⟨dst, .makeFunc fn first #[], ty, pos, af, g⟩ σ kn (.fn fn ys []) σ 0 := ev_op fun env he => by
  have e1 := evK_evalX he hv
  unfold evalOp
  rw [litOp_none (x := x) (by simpa [Op.operands] using Array.mem_of_getElem? hx) (by rw [e1]; exact hl)]
  have := mapM_evK he hb
  simp [this]
/-- A call of a function value that is a deep one. -/
theorem K.callFC {c : Operand} {v : XV} {f : FuncId} {args : Array Operand} {ts : Array TypeId} {fs ds cs : List DV} {res : DV} (hv : evK kn c = some v) (hf : asFn v = some (f, fs.map .d, cs.map .d)) (ha : args.toList.mapM (evK kn) = some (ds.map .d))
    (hp : plainFn P f = true) (hc : DeepCall P f (fs ++ ds ++ cs) res) : KEv P ⟨dst, .call ⟨.value c, args, ts⟩, ty, pos, af, g⟩ σ kn (.d res) σ 0 := fun env he =>
  .call (first := fs.map .d) (caps := cs.map .d) rfl (by rw [evK_evalX he hv]; exact hf) hp (by rw [mapM_evK he ha]; simp) hc
end
end Go.Vm
namespace Go.Sc
section
variable {S : Type} (nx : S → Nat → S) (ou : S → Nat → Int)
end
end Go.Sc
namespace Go.Vm
end Go.Vm
namespace Go.Vm
open Go.RowKit Go.Sc
end Go.Vm

end
section
/-
  EVERY ORDER: rules for trees of orders; stores where some loads may come late.
-/
namespace Go.Vm
theorem KAll.nil' {p : Nat → Prop} : KAll p [] := trivial
theorem KAll.cons' {p : Nat → Prop} {i : Nat} {l : List Nat} (h : p i) (hl : KAll p l) : KAll p (i :: l) := ⟨h, hl⟩
theorem KC.ordersM {P : Program} {M : Nat → Prop} {W0 : World} {n : Nat} {ops : Array Oper} {σ : List VObj} {kn : Kn} (hm : P.follows .mixedOrders = true) {rid m : Nat} (hs : ops.size = m) {T T' : Exit → List VObj → Kn → Prop} (h : KA P M W0 n ops (T' .normal) m (Array.replicate m false) σ kn) (ht : ∀ e τ k, T' e τ k → T e τ k) : KC P M W0 n (.region rid ops true) σ kn T := by
  subst hs
  exact (KC.orders hm h).mono ht
section
variable {P : Program} {n : Nat} {ops : Array Oper} {Z : Nat → Prop} {l : List Oper} {σ : List VObj} {kn : Kn} {dst : Option Tmp} {ty : TypeId} {pos : String} {af : Array Edge} {g : Option (Nat × Bool)}
/-- A store into what no late load reads. -/
theorem KTZ.storeG {x y : Operand} {t : TypeId} {id off : Nat} {cells : List XV} {v : XV} {R : List Nat → List Nat → List VObj → Kn → Prop} (hg : guardK ops kn ⟨dst, .store t x y, ty, pos, af, g⟩ = some true) (hd : dstOk n dst = true) (hx : evK kn x = some (.optr id off)) (hy : evK kn y = some v)
    (hz : Z id) (ho : σ[id]? = some ⟨cells, 0⟩) (hof : off < cells.length) (hc : cellsX v = [v]) (h1 : oneX v = true) (hs : sizeT P t = some 1)
    (h : ∀ σ', σ'.length = σ.length → σ'[id]? = some ⟨cells.set off v, 0⟩ → (∀ j, j ≠ id → σ'[j]? = σ[j]?) → KTZ P n ops Z l σ' (extK dst undefX kn) (fun fls gs τ k => R (2 :: fls) (2 :: gs) τ k)) :
    KTZ P n ops Z (⟨dst, .store t x y, ty, pos, af, g⟩ :: l) σ kn R := by
  refine KTZ.write hg hd (fun j ob hj hob => ?_) (K.storeO hx hy ho hof hc h1 hs) (h _ (by simp) ?_ fun j hj => ?_)
  · have hne : j ≠ id := fun e => hj (by subst e; exact hz)
    exact ⟨ob, by rw [List.getElem?_set_ne (fun e => hne e.symm)]; exact hob, rfl, Iff.rfl⟩
  · rw [List.getElem?_set, if_pos rfl, if_pos (List.getElem?_eq_some_iff.1 ho).1]
  · rw [List.getElem?_set, if_neg (fun e => hj e.symm)]
theorem KTZ.storeL {x y : Operand} {t : TypeId} {id off : Nat} {cells : List XV} {v : XV} {R : List Nat → List Nat → List VObj → Kn → Prop} (hg : guardK ops kn ⟨dst, .store t x y, ty, pos, af, g⟩ = some true) (hd : dstOk n dst = true) (hx : evK kn x = some (.optr id off)) (hy : evK kn y = some v)
    (ho : σ[id]? = some ⟨cells, 0⟩) (hof : off < cells.length) (hc : cellsX v = [v]) (h1 : oneX v = true) (hs : sizeT P t = some 1)
    (h : ∀ σ', σ'.length = σ.length → σ'[id]? = some ⟨cells.set off v, 0⟩ → (∀ j, j ≠ id → σ'[j]? = σ[j]?) → KTZ P n ops Z l σ' (extK dst undefX kn) (fun fls gs τ k => R (2 :: fls) (0 :: gs) τ k)) :
    KTZ P n ops Z (⟨dst, .store t x y, ty, pos, af, g⟩ :: l) σ kn R := by
  refine KTZ.step hg hd (K.storeO hx hy ho hof hc h1 hs) (h _ (by simp) ?_ fun j hj => ?_)
  · rw [List.getElem?_set, if_pos rfl, if_pos (List.getElem?_eq_some_iff.1 ho).1]
  · rw [List.getElem?_set, if_neg (fun e => hj e.symm)]
end
end Go.Vm

end
section
/-
  VALUES WITHOUT ADDRESSES, 33: a loop over a function: its record as an object, one round, the statement; lists of operations whose calls are known by a relation.
-/
namespace Go.Vm
open Go.RowKit

/-- The record of a loop. -/
def recL (fn : FuncId) (ps : Array Tmp) (assign body : Code) : Loop := { state := .ready, pending := none, fn, tmps := #[], params := ps, assign, body, defers := 0 }

def dead : VObj := ⟨[], 2⟩

section
variable {P : Program} {M : Nat → Prop} {W0 w : World} {ι : List Nat} {σ : List VObj}

theorem Mem.loopAt (hm : Mem M W0 ι σ w) {id l : Nat} {L : Loop} {env : List XV} (ho : σ[id]? = some ⟨.lp L :: env, 6⟩) (hb : ι[id]? = some l) :
    ∃ r : Loop, w.heap[l]? = some (Obj.loop r) ∧ L = r.bare ∧ r.tmps.size = env.length ∧ ∀ (i : Nat) (v : Value) (x : XV), r.tmps[i]? = some v → env[i]? = some x → XRep w ι (Forb M ι σ) v x := by
  rcases hm.spec id _ l ho hb (by simp) with ⟨h, _⟩ | ⟨h, _⟩ | ⟨_, r, L', env', h1, h2, h3, h4, h5⟩
  · simp at h
  · simp at h
  · simp only [List.cons.injEq, XV.lp.injEq] at h2
    obtain ⟨rfl, rfl⟩ := h2
    exact ⟨r, h1, h3, h4, h5⟩

/-- The state of a loop's record turns. -/
theorem Mem.loopSet (hm : Mem M W0 ι σ w) {id l : Nat} {L : Loop} {env : List XV} (ho : σ[id]? = some ⟨.lp L :: env, 6⟩) (hb : ι[id]? = some l) {r : Loop} (hr : w.heap[l]? = some (Obj.loop r)) (st : LoopState) (pd : Option Code) :
    Mem M W0 ι (σ.set id ⟨.lp { L with state := st, pending := pd } :: env, 6⟩) (w.putObj l (.loop { r with state := st, pending := pd })) ∧
      Ext M ι σ w ι (σ.set id ⟨.lp { L with state := st, pending := pd } :: env, 6⟩) (w.putObj l (.loop { r with state := st, pending := pd })) := by
  obtain ⟨r', k1, k2, k3, k4⟩ := hm.loopAt ho hb
  rw [hr] at k1; cases k1
  exact hm.writeG ho hb (.inr (.inr rfl)) (.loop { r with state := st, pending := pd }) (fun _ _ _ h => by cases h) (.lp { L with state := st, pending := pd } :: env) (fun _ _ => ⟨_, rfl⟩)
    (fun w' σ' he hw => .inr (.inr ⟨rfl, _, _, env, hw, rfl, by rw [k2]; rfl, k3, fun i v x hv hx => (k4 i v x hv hx).ext he⟩))

/-- An object that nobody looks at any more. -/
theorem Mem.kill (hm : Mem M W0 ι σ w) (id : Nat) : Mem M W0 ι (σ.set id dead) w ∧ Ext M ι σ w ι (σ.set id dead) w := by
  have hmt : ∀ c, Mut ι (σ.set id dead) c → Mut ι σ c := by
    rintro c ⟨i, p, h1, h2, h3⟩
    rcases set_get _ _ _ _ _ h1 with ⟨rfl, rfl, _⟩ | ⟨_, h1'⟩
    · simp [Wr, dead] at h3
    · exact ⟨i, p, h1', h2, h3⟩
  have hext : Ext M ι σ w ι (σ.set id dead) w := ⟨fun _ _ h => h, fun _ _ _ => rfl, Nat.le_refl _, fun c _ h => hmt c h, fun _ _ h => h, fun _ r h => ⟨r, h⟩⟩
  refine ⟨⟨by simp [hm.len], fun i p c h1 h2 h3 => ?_, fun i p c h1 h2 h3 => ?_, hm.fresh, fun i j oi oj bi bj hij h1 h2 h3 h4 h5 h6 => ?_, hm.below, hm.outer⟩, hext⟩
  · rcases set_get _ _ _ _ _ h1 with ⟨rfl, rfl, _⟩ | ⟨_, h1'⟩
    · simp [dead] at h3
    · obtain ⟨cu, t, q1, q2, q3⟩ := hm.objs i p c h1' h2 h3
      refine ⟨cu, t, q1, q2, fun j x hj => ?_⟩
      obtain ⟨v, kv, kx⟩ := q3 j x hj
      exact ⟨v, kv, kx.ext hext⟩
  · rcases set_get _ _ _ _ _ h1 with ⟨rfl, rfl, _⟩ | ⟨_, h1'⟩
    · simp [dead] at h3
    · exact (hm.spec i p c h1' h2 h3).ext hext rfl
  · rcases set_get _ _ _ _ _ h1 with ⟨rfl, rfl, _⟩ | ⟨_, h1'⟩
    · simp [Wr, dead] at h5
    rcases set_get _ _ _ _ _ h2 with ⟨rfl, rfl, _⟩ | ⟨_, h2'⟩
    · simp [dead] at h6
    exact hm.apart i j oi oj bi bj hij h1' h2' h3 h4 h5 h6

/-- Yield's arguments in the temporaries of a round. -/
def putsX : List XV → List (Tmp × XV) → List XV
  | env, [] => env
  | env, (t, x) :: l => putsX (env.set t x) l

theorem length_putsX : ∀ (env : List XV) (l : List (Tmp × XV)), (putsX env l).length = env.length
  | _, [] => rfl
  | env, (t, x) :: l => by rw [putsX, length_putsX]; simp

theorem puts_rep {F : Nat → Prop} : ∀ (ps : List Tmp) (vs : List Value) (xs : List XV) (tmps : Array Value) (env : List XV), vs.length = xs.length → tmps.size = env.length →
    (∀ (i : Nat) (v : Value) (x : XV), tmps[i]? = some v → env[i]? = some x → XRep w ι F v x) → (∀ (i : Nat) (v : Value) (x : XV), vs[i]? = some v → xs[i]? = some x → XRep w ι F v x) →
    (((ps.zip vs).foldl (fun t (p : Tmp × Value) => t.setIfInBounds p.1 p.2) tmps).size = env.length) ∧
    ∀ (i : Nat) (v : Value) (x : XV), ((ps.zip vs).foldl (fun t (p : Tmp × Value) => t.setIfInBounds p.1 p.2) tmps)[i]? = some v → (putsX env (ps.zip xs))[i]? = some x → XRep w ι F v x
  | [], vs, xs, tmps, env, h1, h2, h3, h4 => by simpa [putsX] using ⟨h2, h3⟩
  | p :: ps, [], [], tmps, env, h1, h2, h3, h4 => by simpa [putsX] using ⟨h2, h3⟩
  | p :: ps, v :: vs, x :: xs, tmps, env, h1, h2, h3, h4 => by
    simp only [List.zip_cons_cons, List.foldl_cons, putsX]
    have hs : (tmps.setIfInBounds p v).size = (env.set p x).length := by simp [h2]
    have := puts_rep ps vs xs (tmps.setIfInBounds p v) (env.set p x) (by simpa using h1) hs (fun i u y hu hy => by
      rcases set_get _ _ _ _ _ hy with ⟨rfl, rfl, hlt⟩ | ⟨hne, hy'⟩
      · rw [Array.getElem?_setIfInBounds_self, if_pos (by omega)] at hu
        cases hu
        exact h4 0 _ _ rfl rfl
      · rw [Array.getElem?_setIfInBounds_ne hne] at hu
        exact h3 i u y hu hy') (fun i u y hu hy => h4 (i + 1) u y (by simpa using hu) (by simpa using hy))
    rw [List.length_set] at this
    exact this

def envF (env : List XV) : Nat → XV := fun t => (env[t]?).getD undefX

theorem envF_rep {F : Nat → Prop} {tmps : Array Value} {env : List XV} (hs : tmps.size = env.length) (h : ∀ (i : Nat) (v : Value) (x : XV), tmps[i]? = some v → env[i]? = some x → XRep w ι F v x) : ∀ t, XRep w ι F (tmps.getD t undef) (envF env t) := by
  intro t
  unfold envF
  by_cases ht : t < env.length
  · rw [List.getElem?_eq_getElem ht, Option.getD_some]
    have ht' : t < tmps.size := by omega
    have e : tmps.getD t undef = tmps[t] := by simp [ht']
    rw [e]
    exact h t _ _ (Array.getElem?_eq_getElem ht') (List.getElem?_eq_getElem ht)
  · rw [List.getElem?_eq_none (by omega)]
    have e : tmps.getD t undef = undef := by
      simp only [Array.getD_eq_getD_getElem?]
      rw [Array.getElem?_eq_none (by omega)]; rfl
    rw [e]; exact .d (.lit _)

/-- How a round ends. -/
def endT (id : Nat) (L : Loop) (env : List XV) (Q : List VObj → Bool → Prop) : Exit → St → Prop
  | .normal, s => s.σ[id]? = some ⟨.lp { L with state := .busy } :: env, 6⟩ ∧ Q (s.σ.set id ⟨.lp { L with state := .ready, pending := none } :: env, 6⟩) true
  | .ret, s => s.σ[id]? = some ⟨.lp { L with state := .busy } :: env, 6⟩ ∧ Q (s.σ.set id ⟨.lp { L with state := .done, pending := some .ret } :: env, 6⟩) false
  | .exit k, s => s.σ[id]? = some ⟨.lp { L with state := .busy } :: env, 6⟩ ∧ Q (s.σ.set id ⟨.lp { L with state := .done, pending := some (.exit k) } :: env, 6⟩) false
  | _, _ => False

/-- ONE ROUND. -/
theorem inRound_of {id : Nat} {σ : List VObj} {L : Loop} {env args : List XV} {Q : List VObj → Bool → Prop} (hσ : σ[id]? = some ⟨.lp L :: env, 6⟩) (hst : L.state = .ready) (_ : L.pending = none) (hn : args.length = L.params.size)
    (h : Wp P M W0 env.length L.assign ⟨σ, envF (putsX env (L.params.toList.zip args))⟩ (fun e s1 => e = .normal ∧ s1.σ[id]? = some ⟨.lp L :: env, 6⟩ ∧
      Wp P M W0 env.length L.body ⟨s1.σ.set id ⟨.lp { L with state := .busy } :: env, 6⟩, s1.env⟩ (endT id L env Q))) : InRound P M W0 id σ args Q := by
  intro ι w l vs hm hb hl hx
  obtain ⟨r, k1, k2, k3, k4⟩ := hm.loopAt hσ hb
  have hp : L.params = r.params := by rw [k2]; rfl
  have ha : L.assign = r.assign := by rw [k2]; rfl
  have hbo : L.body = r.body := by rw [k2]; rfl
  refine ⟨_, _, _, _, run_yield k1 (by rw [List.size_toArray, hl, hn, hp]), ?_⟩
  obtain ⟨p1, p2⟩ := puts_rep (w := w) (ι := ι) r.params.toList vs args r.tmps env hl k3 k4 hx
  have hfold : (r.params.zip vs.toArray).foldl (fun tmps (x : Tmp × Value) => tmps.setIfInBounds x.1 x.2) r.tmps = (r.params.toList.zip vs).foldl (fun t (p : Tmp × Value) => t.setIfInBounds p.1 p.2) r.tmps := by
    rw [← Array.foldl_toList, Array.toList_zip]
  have hfr : Fr M W0 ⟨w.heap.size, some l⟩ env.length ι ⟨σ, envF (putsX env (L.params.toList.zip args))⟩ { tmps := (r.params.zip vs.toArray).foldl (fun tmps (x : Tmp × Value) => tmps.setIfInBounds x.1 x.2) r.tmps, defers := [] } w := by
    refine ⟨hm, ?_, by rw [hfold]; exact p1, ⟨Nat.le_refl _, [], rfl, List.nodup_nil, fun D h => by simp at h⟩, fun l' hl' => by cases hl'; exact ⟨r, k1⟩⟩
    simp only [hfold]
    refine envF_rep (by rw [p1, length_putsX]) fun i v x hv hx => ?_
    rw [hp] at hx
    exact p2 i v x hv hx
  refine roundIn_of_wpIn trivial ?_
  rw [← ha, ← hbo]
  show L.assign.wpIn (FR (some l)) 0 P _ _ w
  refine h ⟨w.heap.size, some l⟩ ι _ w hfr _ fun e ι1 s1 a1 w1 hT f1 e1 => ?_
  obtain ⟨rfl, hs1, hB⟩ := hT
  have hb1 := e1.pre _ _ hb
  obtain ⟨r1, q1, q2, q3, q4⟩ := f1.mem.loopAt hs1 hb1
  obtain ⟨m1, m2⟩ := f1.mem.loopSet hs1 hb1 q1 .busy r1.pending
  have hpend : r1.pending = L.pending := by rw [q2]; rfl
  have hLb : ({ L with state := .busy, pending := r1.pending } : Loop) = { L with state := .busy } := by rw [hpend]
  rw [hLb] at m1 m2
  have hrb : ({ r1 with state := .busy, pending := r1.pending } : Loop) = { r1 with state := .busy } := rfl
  rw [hrb] at m1 m2
  refine ⟨_, run_beginRound q1 (by rw [show r1.state = L.state by rw [q2]; rfl]; exact hst), ?_⟩
  have f2 : Fr M W0 ⟨w.heap.size, some l⟩ env.length ι1 ⟨s1.σ.set id ⟨.lp { L with state := .busy } :: env, 6⟩, s1.env⟩ a1 (w1.putObj l (.loop { r1 with state := .busy })) :=
    ⟨m1, fun t => (f1.env t).ext m2, f1.size, f1.defers.ext m2, fun l' hl' => let ⟨r, hr⟩ := f1.round l' hl'; m2.loops l' r hr⟩
  show L.body.wpIn (FR (some l)) 0 P _ _ _
  refine hB ⟨w.heap.size, some l⟩ ι1 a1 _ f2 _ fun e ι2 s2 a2 w2 hT2 f3 e3 => ?_
  have hb2 := e3.pre _ _ hb1
  have fin : ∀ (st : LoopState) (pd : Option Code) (b : Bool), s2.σ[id]? = some ⟨.lp { L with state := .busy } :: env, 6⟩ → Q (s2.σ.set id ⟨.lp { L with state := st, pending := pd } :: env, 6⟩) b → ∀ r2 : Loop, w2.heap[l]? = some (Obj.loop r2) →
      ∃ (ι' : List Nat) (σ' : List VObj) (b' : Bool), Ending.returned (.bool b) = .returned (.bool b') ∧ Mem M W0 ι' σ' (w2.putObj l (.loop { r2 with state := st, pending := pd })) ∧ Ext M ι σ w ι' σ' (w2.putObj l (.loop { r2 with state := st, pending := pd })) ∧ Q σ' b' := by
    intro st pd b hs hq r2 hr2
    obtain ⟨n1, n2⟩ := f3.mem.loopSet hs hb2 hr2 st pd
    exact ⟨ι2, _, b, rfl, n1, e1.trans (m2.trans (e3.trans n2)), hq⟩
  have hl2 : s2.σ[id]? = some ⟨.lp { L with state := .busy } :: env, 6⟩ → ∃ r2 : Loop, w2.heap[l]? = some (Obj.loop r2) := fun hs => by
    obtain ⟨r2, h, _⟩ := f3.mem.loopAt hs hb2
    exact ⟨r2, h⟩
  cases e with
  | normal =>
    obtain ⟨hs, hq⟩ := hT2
    obtain ⟨r2, hr2⟩ := hl2 hs
    exact ⟨_, _, run_endRound none hr2, fin .ready none true hs hq r2 hr2⟩
  | ret =>
    obtain ⟨hs, hq⟩ := hT2
    obtain ⟨r2, hr2⟩ := hl2 hs
    exact ⟨_, _, run_endRound (some .ret) hr2, fin .done (some .ret) false hs hq r2 hr2⟩
  | exit k =>
    obtain ⟨hs, hq⟩ := hT2
    obtain ⟨r2, hr2⟩ := hl2 hs
    exact ⟨_, _, run_endRound (some (.exit k)) hr2, fin .done (some (.exit k)) false hs hq r2 hr2⟩
  | goto k => exact hT2.elim
  | panic c => exact hT2.elim
  | outgrown => exact hT2.elim

/-- What follows a loop over a function: the jump that a round has left, if any. -/
def jumpT (P : Program) (M : Nat → Prop) (W0 : World) (n : Nat) (T : Exit → St → Prop) (s : St) : Option Code → Prop
  | none => T .normal s
  | some c => Wp P M W0 n c s T

theorem run_enterLoop_in {l0 : Nat} {r0 : Loop} (h0 : w.heap[l0]? = some (Obj.loop r0)) (fn : FuncId) (tmps : Array Value) (ps : Array Tmp) (assign body : Code) :
    (Instr.enterLoop fn tmps ps assign body (some l0)).run P w =
      .ok (w.heap.size, []) (w.alloc (.loop { state := .ready, pending := none, fn, tmps, params := ps, assign, body, defers := r0.defers })) := by
  unfold Instr.enterLoop
  simp only [Sem.run_bind, run_getLoop h0, run_newObj_alloc, Result.andThen, Sem.run_pure]

/-- THE STATEMENT. -/
theorem Wp.rangeFunc {n : Nat} {g : Operand} {ps : Array Tmp} {assign body : Code} {s : St} {T : Exit → St → Prop} {f : FuncId} {first caps : List XV} (hg : asFn (evalX s.env g) = some (f, first, caps)) (hp : plainFn P f = true)
    (hcall : ∀ fn, InCall P M W0 f (s.σ ++ [⟨.lp (recL fn ps assign body) :: (List.range n).map s.env, 6⟩]) (first ++ [.yl s.σ.length] ++ caps) (fun σ' _ => ∃ (L : Loop) (env : List XV), σ'[s.σ.length]? = some ⟨.lp L :: env, 6⟩ ∧ L.state ≠ .busy ∧
      jumpT P M W0 n T ⟨σ'.set s.σ.length dead, s.env⟩ L.pending)) : Wp P M W0 n (.rangeFunc g ps assign body) s T := by
  intro C ι a w hf Q hq
  obtain ⟨vs, us, e1, e2, e3, e4, e5⟩ := asFn_rep (evalX_rep hf.env g) hg
  refine wpIn_rangeFunc fun fn _ => ?_
  -- the record is laid
  obtain ⟨w', mark, D, hrun, hb', hmk⟩ : ∃ (w' : World) (mark : List Deferred) (D : Nat), (Instr.enterLoop fn a.tmps ps assign body C.ro).run P w = .ok (w'.heap.size, mark) (w'.alloc (.loop { state := .ready, pending := none, fn, tmps := a.tmps, params := ps, assign, body, defers := D })) ∧
      Below w.heap.size w w' ∧ Marks M C.B ι s.σ w' (mark ++ a.defers) := by
    cases hro : C.ro with
    | none =>
      refine ⟨w.alloc (.deferred (some [])), [{ target := .collected w.heap.size, args := #[] }], w.heap.size, ?_, (Below.refl _ w).alloc (Nat.le_refl _) _, ?_⟩
      · rw [run_enterLoop_outer]; simp [World.size_alloc]
      · have hbl : Below w.heap.size w (w.alloc (.deferred (some []))) := (Below.refl _ w).alloc (Nat.le_refl _) _
        obtain ⟨h0, Ds, d1, d2, d3⟩ := hf.defers.ext (hf.mem.grown hbl).2
        have hB := hf.defers.1
        refine ⟨h0, w.heap.size :: Ds, by rw [d1]; rfl, List.nodup_cons.2 ⟨fun hD => ?_, d2⟩, fun E hE => ?_⟩
        · obtain ⟨_, Ds', x1, x2, x3⟩ := hf.defers
          have : Ds = Ds' := by
            rw [d1] at x1
            have := congrArg (List.map fun (d : Deferred) => match d.target with | .collected r => r | _ => 0) x1
            simpa [Function.comp_def] using this
          subst this
          have := (Array.getElem?_eq_some_iff.1 (x3 _ hD).2.2).1
          omega
        · rcases List.mem_cons.1 hE with rfl | hE
          · refine ⟨hB, ?_, Go.heap_alloc_new w _⟩
            rintro (h | ⟨id, o, h1, h2, h3⟩)
            · have := hf.mem.outer _ h; have := hf.mem.below.size; omega
            · have := (hf.mem.fresh _ _ h2).2; omega
          · exact d3 E hE
    | some l0 =>
      obtain ⟨r0, hr0⟩ := hf.round l0 hro
      exact ⟨w, [], r0.defers, run_enterLoop_in hr0 .., Below.refl _ _, by simpa using hf.defers⟩
  obtain ⟨g1, g2⟩ := hf.mem.grown hb'
  let r : Loop := { state := .ready, pending := none, fn, tmps := a.tmps, params := ps, assign, body, defers := D }
  have hsz : a.tmps.size = ((List.range n).map s.env).length := by simp [hf.size]
  have hev : ∀ (w2 : World) (F : Nat → Prop) (ι2 : List Nat), (∀ t, XRep w2 ι2 F (a.tmps.getD t undef) (s.env t)) → ∀ (i : Nat) (v : Value) (x : XV), a.tmps[i]? = some v → ((List.range n).map s.env)[i]? = some x → XRep w2 ι2 F v x := by
    intro w2 F ι2 h i v x hv hx
    simp only [List.getElem?_map, Option.map_eq_some_iff] at hx
    obtain ⟨j, hj, rfl⟩ := hx
    have : j = i := by
      rw [List.getElem?_eq_some_iff] at hj
      obtain ⟨h1, h2⟩ := hj
      simpa using h2.symm
    subst this
    have := h j
    rwa [show a.tmps.getD j undef = v by simp [Array.getD_eq_getD_getElem?, hv]] at this
  obtain ⟨m1, m2⟩ : Mem M W0 (ι ++ [w'.heap.size]) (s.σ ++ [⟨.lp (recL fn ps assign body) :: (List.range n).map s.env, 6⟩]) (w'.alloc (.loop r)) ∧
      Ext M ι s.σ w' (ι ++ [w'.heap.size]) (s.σ ++ [⟨.lp (recL fn ps assign body) :: (List.range n).map s.env, 6⟩]) (w'.alloc (.loop r)) :=
    g1.pushG (.loop r) 6 _ (by omega) fun w2 he hw2 => .inr (.inr ⟨rfl, r, recL fn ps assign body, (List.range n).map s.env, hw2, rfl, rfl, hsz, hev w2 _ _ fun t => ((hf.env t).ext g2).ext he⟩)
  have hx1 := g2.trans m2
  -- the one call
  obtain ⟨d, hres, hinv⟩ : ∃ d : Deferred, (resolve a.eval (rangeCall g w'.heap.size) 0).run P (w'.alloc (.loop r)) = .ok d (w'.alloc (.loop r)) ∧
      (invoke d.target d.args).run P (w'.alloc (.loop r)) = .ok (.enter f (vs ++ #[Value.func (.yield w'.heap.size) #[] #[]] ++ us)) (w'.alloc (.loop r)) := by
    unfold plainFn at hp
    split at hp
    · rename_i fn' hfn
      simp only [Bool.and_eq_true, Bool.not_eq_true'] at hp
      obtain ⟨h1, h2⟩ := hp
      have h3 : ¬ fn'.body = none := by intro e; rw [e] at h2; simp at h2
      have h4 : ¬ fn'.name = "runtime.NumGoroutine" := by simpa using h1
      refine ⟨{ target := .fn (.func f) us, args := vs ++ #[Value.func (.yield w'.heap.size) #[] #[]] }, by simp [resolve, e1, Deferred.ofValue, show ∀ v, a.eval (.const v) = v from fun _ => rfl], ?_⟩
      simp [invoke, callFunc, hfn, h4, h3]
    · cases hp
  refine ⟨w'.heap.size, mark, w'.alloc (.loop r), d, w'.alloc (.loop r), f, _, w'.alloc (.loop r), hrun, hres, fun _ _ => trivial, hinv, fun h => Bool.noConfusion (show false = true from h), callsIn_FR ?_⟩
  have hargs : ∀ (i : Nat) (v : Value) (x : XV), (vs ++ #[Value.func (.yield w'.heap.size) #[] #[]] ++ us).toList[i]? = some v → (first ++ [.yl s.σ.length] ++ caps)[i]? = some x →
      XRep (w'.alloc (.loop r)) (ι ++ [w'.heap.size]) (Forb M (ι ++ [w'.heap.size]) (s.σ ++ [⟨.lp (recL fn ps assign body) :: (List.range n).map s.env, 6⟩])) v x := by
    intro i v x hv hx
    simp only [Array.toList_append] at hv
    have l1 : vs.toList.length = first.length := by simpa using e2
    by_cases hi : i < first.length + 1
    · rw [List.getElem?_append_left (by simp; omega)] at hv
      rw [List.getElem?_append_left (by simp; omega)] at hx
      by_cases hj : i < first.length
      · rw [List.getElem?_append_left (by omega)] at hv
        rw [List.getElem?_append_left hj] at hx
        exact (e4 i v x (by simpa using hv) hx).ext hx1
      · have : i = first.length := by omega
        subst this
        rw [List.getElem?_append_right (by omega)] at hv
        rw [List.getElem?_append_right (by omega)] at hx
        simp [l1] at hv hx
        subst hv hx
        exact .yl (by rw [List.getElem?_append_right (by rw [hf.mem.len]; omega), hf.mem.len]; simp)
    · rw [List.getElem?_append_right (by simp; omega)] at hv
      rw [List.getElem?_append_right (by simp; omega)] at hx
      simp only [List.length_append, List.length_cons, List.length_nil, Array.length_toList, e2] at hv hx
      exact (e5 _ v x (by simpa using hv) hx).ext hx1
  have hC := hcall fn (ι ++ [w'.heap.size]) (w'.alloc (.loop r)) (vs ++ #[Value.func (.yield w'.heap.size) #[] #[]] ++ us).toList m1 (by simp [e2, e3]) hargs
  rw [Array.toArray_toList] at hC
  refine hC.mono fun e w3 => ?_
  rintro ⟨ι', σ', x, v, rfl, h1, h2, _, L, env, hL, hst, hj⟩
  have hl : ι'[s.σ.length]? = some w'.heap.size := h2.pre _ _ (by rw [List.getElem?_append_right (by rw [hf.mem.len]; omega), hf.mem.len]; simp)
  obtain ⟨r3, k1, k2, k3, k4⟩ := h1.loopAt hL hl
  have hst3 : r3.state ≠ .busy := by rw [show r3.state = L.state by rw [k2]; rfl]; exact hst
  obtain ⟨n1, n2⟩ := h1.loopSet hL hl k1 .exhausted r3.pending
  obtain ⟨q1, q2⟩ := n1.kill s.σ.length
  rw [List.set_set] at q1 q2
  have hE := hx1.trans (h2.trans (n2.trans q2))
  have hfin : Fr M W0 C n ι' ⟨σ'.set s.σ.length dead, s.env⟩ { a with defers := mark ++ a.defers } (w3.putObj w'.heap.size (.loop { r3 with state := .exhausted })) :=
    ⟨q1, fun t => (hf.env t).ext hE, hf.size, hmk.ext (m2.trans (h2.trans (n2.trans q2))), fun l hl => let ⟨r, hr⟩ := hf.round l hl; hE.loops l r hr⟩
  refine ⟨r3.pending, _, run_endLoop k1 hst3, ?_⟩
  have hpe : r3.pending = L.pending := by rw [k2]; rfl
  clear n1 n2 q1 q2
  revert hfin hE
  have hw4 : ({ r3 with state := .exhausted } : Loop) = { r3 with state := .exhausted, pending := r3.pending } := rfl
  generalize w3.putObj w'.heap.size (.loop { r3 with state := .exhausted, pending := r3.pending }) = w4
  intro hE hfin
  rw [hpe]
  cases hp' : L.pending with
  | none =>
    rw [hp'] at hj
    exact hq .normal ι' _ _ _ hj hfin hE
  | some c =>
    rw [hp'] at hj
    exact hj C ι' _ _ hfin Q fun e ι'' s'' a'' w'' t1 t2 t3 => hq e ι'' s'' a'' w'' t1 t2 (hE.trans t3)
end
end Go.Vm

end
section
/-
  VALUES WITHOUT ADDRESSES, 34: operations whose result is known by a relation; iterators; a walk through a loop over a function.
-/
namespace Go.Vm
open Go.RowKit

section
variable {P : Program} {M : Nat → Prop} {W0 : World} {n : Nat} {ops : Array Oper} {l : List Oper} {o : Oper} {σ σ' : List VObj} {kn : Kn}

/-- A call of yield whose result is known by a relation. -/
theorem WpL.yld {s : St} {T : St → Prop} {callee : Operand} {args : Array Operand} {ts : Array TypeId} {id : Nat} {Q : List VObj → Bool → Prop} (hg : guardX ops s.env o = some true)
    (ho : o.op = .call ⟨.value callee, args, ts⟩) (hv : evalX s.env callee = .yl id) (_ : id < s.σ.length) (hc : InRound P M W0 id s.σ (args.toList.map (evalX s.env)) Q)
    (hd : dstOk n o.dst = true) (h : ∀ σ' b, Q σ' b → WpL P M W0 n ops l ⟨σ', putE s.env o.dst (.d (.lit (.bool b)))⟩ T) : WpL P M W0 n ops (o :: l) s T := by
  intro C ι a w hfr R hq
  unfold wpListIn
  rw [if_pos (by rw [guardX_sound hfr.env hg])]
  have e1 := evalX_rep hfr.env callee
  rw [hv] at e1
  generalize hcv : a.eval callee = cv at e1
  cases e1 with
  | yl hb =>
    rename_i lb
    obtain ⟨a1, a2⟩ := args_rep (args := args) (vs := #[]) (us := #[]) (first := []) (caps := []) hfr.env rfl rfl (by simp) (by simp)
    obtain ⟨fn, tmps, assign, body, k1, k2⟩ := hc ι w lb (args.map a.eval).toList hfr.mem hb (by simp) (fun i v x h1 h2 => a2 i v x (by simpa using h1) (by simpa using h2))
    rw [Array.toArray_toList] at k1
    have hrun : (execOp a.eval o).run P w = .ok (.round lb fn tmps assign body) w := by
      simp [execOp, ho, resolve, hcv, Deferred.ofValue, invoke, k1]
    refine ⟨fun _ _ => trivial, ?_⟩
    rw [semAt_of hrun (by simp)]
    refine ⟨fun h => Bool.noConfusion (show false = true from h), ?_⟩
    refine RoundIn.mono (show RoundIn (FR C.ro) 0 P lb fn tmps assign body w _ from k2) fun e w' => ?_
    rintro ⟨ι', σ', b, rfl, h1, h2, h3⟩
    exact h σ' b h3 C ι' _ w' (hfr.put hd h1 h2 (.d (.lit _))) R fun ι'' s' a' w'' q1 q2 q3 => hq ι'' s' a' w'' q1 q2 (h2.trans q3)

/-- A list of operations, the results known by relations. -/
def KL (P : Program) (M : Nat → Prop) (W0 : World) (n : Nat) (ops : Array Oper) (l : List Oper) (σ : List VObj) (kn : Kn) (T : List VObj → Kn → Prop) : Prop :=
  ∀ env, Agree kn env → WpL P M W0 n ops l ⟨σ, env⟩ (fun s => ∃ kn', Agree kn' s.env ∧ T s.σ kn')

theorem KL.nil {T : List VObj → Kn → Prop} (h : T σ kn) : KL P M W0 n ops [] σ kn T := fun _ he => .nil ⟨kn, he, h⟩

theorem KL.step {T : List VObj → Kn → Prop} {x : XV} {fl : Nat} (hg : guardK ops kn o = some true) (hd : dstOk n o.dst = true) (he : KEv P o σ kn x σ' fl)
    (h : KL P M W0 n ops l σ' (extK o.dst x kn) T) : KL P M W0 n ops (o :: l) σ kn T :=
  fun env ha => .step (s := ⟨σ, env⟩) (guardK_X ha hg) (he env ha) hd (h _ (ha.ext o.dst x))

theorem KL.skip {T : List VObj → Kn → Prop} (hg : guardK ops kn o = some false) (hd : dstOk n o.dst = true) (h : KL P M W0 n ops l σ (extK o.dst undefX kn) T) : KL P M W0 n ops (o :: l) σ kn T :=
  fun env ha => .skip (s := ⟨σ, env⟩) (guardK_X ha hg) hd (h _ (ha.ext o.dst undefX))

/-- A call among the caller's objects, known by a relation. -/
theorem KL.call {T : List VObj → Kn → Prop} {c : Operand} {v : XV} {args : Array Operand} {ts : Array TypeId} {f : FuncId} {first caps xs : List XV} {R : List VObj → XV → Prop} {dst : Option Tmp} {ty : TypeId} {pos : String} {af : Array Edge} {g : Option (Nat × Bool)}
    (hg : guardK ops kn ⟨dst, .call ⟨.value c, args, ts⟩, ty, pos, af, g⟩ = some true) (hd : dstOk n dst = true) (hv : evK kn c = some v) (hf : asFn v = some (f, first, caps)) (ha : args.toList.mapM (evK kn) = some xs) (hp : plainFn P f = true)
    (hc : InCall P M W0 f σ (first ++ xs ++ caps) R) (h : ∀ σ' x, R σ' x → KL P M W0 n ops l σ' (extK dst x kn) T) : KL P M W0 n ops (⟨dst, .call ⟨.value c, args, ts⟩, ty, pos, af, g⟩ :: l) σ kn T :=
  fun env he => .inl (s := ⟨σ, env⟩) (guardK_X he hg) rfl (by show asFn (evalX env c) = _; rw [evK_evalX he hv]; exact hf) hp (by show InCall P M W0 f σ (first ++ args.toList.map (evalX env) ++ caps) R; rw [mapM_evK he ha]; exact hc) hd
    (fun σ' x hr => h σ' x hr _ (he.ext dst x))

/-- A call of yield, known by a relation. -/
theorem KL.yld {T : List VObj → Kn → Prop} {c : Operand} {id : Nat} {args : Array Operand} {ts : Array TypeId} {xs : List XV} {Q : List VObj → Bool → Prop} {dst : Option Tmp} {ty : TypeId} {pos : String} {af : Array Edge} {g : Option (Nat × Bool)}
    (hg : guardK ops kn ⟨dst, .call ⟨.value c, args, ts⟩, ty, pos, af, g⟩ = some true) (hd : dstOk n dst = true) (hv : evK kn c = some (.yl id)) (hid : id < σ.length) (ha : args.toList.mapM (evK kn) = some xs)
    (hc : InRound P M W0 id σ xs Q) (h : ∀ σ' b, Q σ' b → KL P M W0 n ops l σ' (extK dst (.d (.lit (.bool b))) kn) T) : KL P M W0 n ops (⟨dst, .call ⟨.value c, args, ts⟩, ty, pos, af, g⟩ :: l) σ kn T :=
  fun env he => .yld (s := ⟨σ, env⟩) (guardK_X he hg) rfl (evK_evalX he hv) hid (by show InRound P M W0 id σ (args.toList.map (evalX env)) Q; rw [mapM_evK he ha]; exact hc) hd
    (fun σ' b hr => h σ' b hr _ (he.ext dst _))

theorem KC.regionL {id : Nat} {T : Exit → List VObj → Kn → Prop} (h : KL P M W0 n ops ops.toList σ kn (T .normal)) : KC P M W0 n (.region id ops false) σ kn T :=
  fun env he => .region ((h env he).mono fun _ ⟨k, h1, h2⟩ => ⟨k, h1, h2⟩)

theorem putsX_get : ∀ (ps : List Tmp) (xs : List XV) (E : List XV) (kn : Kn) (t : Nat) (x : XV), ps.Nodup → (∀ t x, look kn t = some x → t < E.length → E[t]? = some x) → t < E.length →
    look (ps.zip xs ++ kn) t = some x → (putsX E (ps.zip xs))[t]? = some x
  | [], xs, E, kn, t, x, _, hk, ht, h => by simp at h; simp [putsX]; exact hk t x h ht
  | p :: ps, [], E, kn, t, x, _, hk, ht, h => by simp at h; simp [putsX]; exact hk t x h ht
  | p :: ps, y :: xs, E, kn, t, x, hn, hk, ht, h => by
    rw [List.nodup_cons] at hn
    simp only [List.zip_cons_cons, List.cons_append, look] at h
    simp only [List.zip_cons_cons, putsX]
    by_cases e : t = p
    · subst e
      rw [if_pos rfl] at h
      cases h
      have key : ∀ (ps : List Tmp) (xs : List XV) (E : List XV), t ∉ ps → (putsX E (ps.zip xs))[t]? = E[t]? := by
        intro ps
        induction ps with
        | nil => intro xs E _; simp [putsX]
        | cons q ps ih =>
          intro xs E hq
          cases xs with
          | nil => simp [putsX]
          | cons z xs =>
            simp only [List.zip_cons_cons, putsX]
            rw [ih xs _ (fun h => hq (by simp [h])), List.getElem?_set_ne (fun e => hq (by simp [e]))]
      rw [key ps xs _ hn.1, List.getElem?_set_self ht]
    · rw [if_neg e] at h
      refine putsX_get ps xs (E.set p y) ((p, y) :: kn) t x hn.2 (fun u z hu hlt => ?_) (by simpa using ht) ?_
      · simp only [look] at hu
        rw [List.length_set] at hlt
        by_cases e2 : u = p
        · subst e2; rw [if_pos rfl] at hu; cases hu; rw [List.getElem?_set_self hlt]
        · rw [if_neg e2] at hu; rw [List.getElem?_set_ne (fun h => e2 h.symm)]; exact hk u z hu hlt
      · have : ∀ (l : Kn), look (l ++ kn) t = look (l ++ (p, y) :: kn) t := by
          intro l
          induction l with
          | nil => simp [look, e]
          | cons q l ih => obtain ⟨s, z⟩ := q; simp only [List.cons_append, look]; rw [ih]
        rw [← this]; exact h

/-- A body's walk gives what the call does among the caller's objects, known by a relation. -/
theorem inCall_K {f : FuncId} {fn : Func} {c : Code} {args : List XV} {R : List VObj → XV → Prop} (hf : P.funcs[f]? = some fn) (hb : fn.body = some c) (hn : args.length ≤ fn.ntmps)
    (h : KC P M W0 fn.ntmps c σ (enterK 0 args) (fun e σ2 kn => (e = .ret ∨ e = .normal) ∧ ∃ x, resK P fn σ2 kn = some x ∧ R σ2 x)) : InCall P M W0 f σ args R :=
  inCall_of hf hb hn ((h _ (agree_enter σ args)).mono fun _ _ ⟨_, h1, h2, x, h3, h4⟩ => ⟨h2, x, resK_X h1 h3, h4⟩)

end
end Go.Vm

end
section
/-
  VALUES WITHOUT ADDRESSES, 31: strings; loops round by round; calls that leave the caller's objects but for some, whatever they made of their own.
-/
namespace Go.Vm
open Go.RowKit

theorem DRep.mono {w : World} {F F1 : Nat → Prop} {v : Value} {x : DV} (h : DRep w F v x) (hf : ∀ b, F1 b → F b) : DRep w F1 v x := h.ext (fun _ _ _ => rfl) (fun b _ h => hf b h)

/-- What reads before and behind a call, told with the objects that were there. -/
theorem XRep.within {w w' : World} {ι ι' : List Nat} {F F' F1 : Nat → Prop} {v0 : Value} {x : XV} (h : XRep w ι F v0 x) (hpre : ∀ (id b : Nat), ι[id]? = some b → ι'[id]? = some b) (hf : ∀ b, F1 b → F' b) :
    ∀ {v : Value}, XRep w' ι' F' v x → XRep w' ι F1 v x := by
  induction h with
  | d _ => intro v k; cases k with | d k => exact .d (k.mono hf)
  | @osl b off len cap id k lo ex hb hl hlo hex hs =>
    intro v k'
    cases k' with
    | osl hb2 hl2 hlo2 hex2 hs2 =>
      have := hpre _ _ hb
      rw [hb2] at this; cases this
      exact .osl hb hl2 hlo2 hex2 hs2
  | @optr b off id hb =>
    intro v k'
    cases k' with
    | optr hb2 =>
      have := hpre _ _ hb
      rw [hb2] at this; cases this
      exact .optr hb
  | @tup vs ds hn hx ih =>
    intro v k'
    cases k' with
    | tup hn2 hx2 =>
      refine .tup hn2 fun i u x hu hxd => ?_
      have hlt : i < vs.size := by rw [hn]; exact (List.getElem?_eq_some_iff.1 hxd).1
      exact ih i vs[i] x (Array.getElem?_eq_getElem hlt) hxd (hx2 i u x hu hxd)
  | @agg vs ds hn hx ih =>
    intro v k'
    cases k' with
    | agg hn2 hx2 =>
      refine .agg hn2 fun i u x hu hxd => ?_
      have hlt : i < vs.size := by rw [hn]; exact (List.getElem?_eq_some_iff.1 hxd).1
      exact ih i vs[i] x (Array.getElem?_eq_getElem hlt) hxd (hx2 i u x hu hxd)
  | @fn f vs us ds es hn hx hm hy ih1 ih2 =>
    intro v k'
    cases k' with
    | fn hn2 hx2 hm2 hy2 =>
      refine .fn hn2 (fun i u x hu hxd => ?_) hm2 (fun i u x hu hxd => ?_)
      · have hlt : i < vs.size := by rw [hn]; exact (List.getElem?_eq_some_iff.1 hxd).1
        exact ih1 i vs[i] x (Array.getElem?_eq_getElem hlt) hxd (hx2 i u x hu hxd)
      · have hlt : i < us.size := by rw [hm]; exact (List.getElem?_eq_some_iff.1 hxd).1
        exact ih2 i us[i] x (Array.getElem?_eq_getElem hlt) hxd (hy2 i u x hu hxd)
  | ifc _ ih =>
    intro v k'
    cases k' with
    | ifc k2 => exact .ifc (ih k2)
  | @omp b id hb =>
    intro v k'
    cases k' with
    | omp hb2 =>
      have := hpre _ _ hb
      rw [hb2] at this; cases this
      exact .omp hb
  | @yl l id hb =>
    intro v k'
    cases k' with
    | yl hb2 =>
      have := hpre _ _ hb
      rw [hb2] at this; cases this
      exact .yl hb

/-- The caller's objects behind a call: as they were, or with plain cells. -/
def Same1 (σ σ1 : List VObj) : Prop := σ1.length = σ.length ∧ ∀ (id : Nat) (o : VObj), σ1[id]? = some o → σ[id]? = some o ∨ (o.mode < 2 ∧ ∀ (i : Nat) (x : XV), o.cells[i]? = some x → ∃ d, x = .d d)

theorem Same1.refl (σ : List VObj) : Same1 σ σ := ⟨rfl, fun _ _ h => .inl h⟩

theorem Same1.put {σ : List VObj} {id md : Nat} {ds : List DV} (hmd : md < 2) : Same1 σ (σ.set id ⟨ds.map .d, md⟩) := by
  refine ⟨by simp, fun j o h => ?_⟩
  rcases set_get _ _ _ _ _ h with ⟨rfl, rfl, _⟩ | ⟨_, h'⟩
  · exact .inr ⟨hmd, fun i x hx => by
      simp only [List.getElem?_map, Option.map_eq_some_iff] at hx
      obtain ⟨d, _, rfl⟩ := hx
      exact ⟨d, rfl⟩⟩
  · exact .inl h'

/-- Objects that a call made are forgotten. -/
theorem Mem.drop {M : Nat → Prop} {W0 w w' : World} {ι ι' : List Nat} {σ σ1 τ : List VObj} (hm : Mem M W0 ι σ w) (hm' : Mem M W0 ι' (σ1 ++ τ) w') (he : Ext M ι σ w ι' (σ1 ++ τ) w') (hs : Same1 σ σ1) :
    Mem M W0 ι σ1 w' ∧ Ext M ι σ w ι σ1 w' ∧ ∀ b, Forb M ι σ1 b → Forb M ι' (σ1 ++ τ) b := by
  obtain ⟨hlen, hsame⟩ := hs
  have hget : ∀ (id : Nat) (o : VObj), σ1[id]? = some o → (σ1 ++ τ)[id]? = some o := fun id o h => by
    rw [List.getElem?_append_left (List.getElem?_eq_some_iff.1 h).1]; exact h
  have hmut : ∀ b, Mut ι σ1 b → Mut ι' (σ1 ++ τ) b := by
    rintro b ⟨id, o, h1, h2, h3⟩
    exact ⟨id, o, hget id o h1, he.pre _ _ h2, h3⟩
  have hforb : ∀ b, Forb M ι σ1 b → Forb M ι' (σ1 ++ τ) b := fun b h => h.imp id (hmut b)
  refine ⟨⟨by rw [hm.len, hlen], ?_, ?_, fun id b h => hm'.fresh id b (he.pre _ _ h), ?_, hm'.below, hm'.outer⟩, ⟨fun _ _ h => h, he.heap, he.size, fun b hb h => he.mt b hb (hmut b h), he.shape, he.loops⟩, hforb⟩
  · intro id o b h1 h2 h3
    obtain ⟨cur, ty, q1, q2, q3⟩ := hm'.objs id o b (hget id o h1) (he.pre _ _ h2) h3
    refine ⟨cur, ty, q1, q2, fun i x hi => ?_⟩
    obtain ⟨v, kv, kx⟩ := q3 i x hi
    refine ⟨v, kv, ?_⟩
    rcases hsame id o h1 with h | ⟨_, h⟩
    · obtain ⟨_, _, _, _, r3⟩ := hm.objs id o b h h2 h3
      obtain ⟨v0, _, kx0⟩ := r3 i x hi
      exact kx0.within he.pre hforb kx
    · obtain ⟨d, rfl⟩ := h i x hi
      cases kx with | d kx => exact .d (kx.mono hforb)
  · intro id o b h1 h2 h3
    rcases hsame id o h1 with h | ⟨h, _⟩
    · have a := hm.spec id o b h h2 h3
      have c := hm'.spec id o b (hget id o h1) (he.pre _ _ h2) h3
      rcases c with ⟨c1, es, clock, c2, c3, c4⟩ | c | ⟨c1, r, L, ev, c2, c3, c4, c5, c6⟩
      · rcases a with ⟨_, es0, _, _, a3, a4⟩ | ⟨a, _⟩ | ⟨a, _⟩
        · refine .inl ⟨c1, es, clock, c2, c3, fun i e cc hi hc => ?_⟩
          obtain ⟨x, k1, k2⟩ := c4 i e cc hi hc
          have hlt : i < es0.size := by rw [a3]; exact (List.getElem?_eq_some_iff.1 hc).1
          obtain ⟨x0, k3, k4⟩ := a4 i es0[i] cc (Array.getElem?_eq_getElem hlt) hc
          rw [k1] at k3
          simp only [XV.ent, XV.tup.injEq, List.cons.injEq, and_true] at k3
          refine ⟨x, k1, ?_⟩
          rw [← k3.2] at k4
          exact k4.within he.pre hforb k2
        · omega
        · omega
      · exact .inr (.inl c)
      · rcases a with ⟨a, _⟩ | ⟨a, _⟩ | ⟨_, r0, L0, ev0, _, a3, _, a5, a6⟩
        · omega
        · omega
        · refine .inr (.inr ⟨c1, r, L, ev, c2, c3, c4, c5, fun i v x hv hx => ?_⟩)
          rw [c3] at a3
          have e0 : ev = ev0 := (List.cons.inj a3).2
          subst e0
          have hlt : i < r0.tmps.size := by rw [a5]; exact (List.getElem?_eq_some_iff.1 hx).1
          exact (a6 i r0.tmps[i] x (Array.getElem?_eq_getElem hlt) hx).within he.pre hforb (c6 i v x hv hx)
    · omega
  · intro i j oi oj bi bj hij h1 h2 h3 h4 h5 h6
    exact hm'.apart i j oi oj bi bj hij (hget _ _ h1) (hget _ _ h2) (he.pre _ _ h3) (he.pre _ _ h4) h5 h6

/-- A body's walk gives what the call does among the caller's objects: what it made is told in the result or forgotten. -/
theorem ownDrop_K {P : Program} {f : FuncId} {fn : Func} {c : Code} {σ σ1 : List VObj} {args : List XV} {res : DV} (k : Nat) (hf : P.funcs[f]? = some fn) (hb : fn.body = some c) (hn : args.length ≤ fn.ntmps) (hs : Same1 σ σ1)
    (h : ∀ (M : Nat → Prop) (W0 : World), KC P M W0 fn.ntmps c σ (enterK 0 args) (fun e σ2 kn => (e = .ret ∨ e = .normal) ∧ ∃ x, resK P fn σ2 kn = some x ∧ ∃ ids τ, freezeIds σ2 ids = σ1 ++ τ ∧ deepen (freezeIds σ2 ids) k x = some res)) :
    OwnCall P f σ args σ1 (.d res) := by
  intro M W0 ι w vs hm hl hx
  have hin : InCall P M W0 f σ args (fun σ2 x => ∃ ids τ, freezeIds σ2 ids = σ1 ++ τ ∧ deepen (freezeIds σ2 ids) k x = some res) :=
    inCall_of hf hb hn ((h M W0 _ (agree_enter σ args)).mono fun _ _ ⟨_, h1, h2, x, h3, h4⟩ => ⟨h2, x, resK_X h1 h3, h4⟩)
  refine (hin ι w vs hm hl hx).mono fun e w' => ?_
  rintro ⟨ι', σ2, x, v, rfl, h1, h2, h3, ids, τ, h4, h5⟩
  obtain ⟨f1, f2⟩ := freezeIds_tamed h1 ids
  have hd := deepen_sound f1 k v x res (h3.ext f2) h5
  have he := h2.trans f2
  rw [h4] at f1 he hd
  obtain ⟨g1, g2, g3⟩ := hm.drop f1 he hs
  exact ⟨ι, σ1, .d res, v, rfl, g1, g2, .d (hd.mono g3), rfl, rfl⟩

section
variable {P : Program} {M : Nat → Prop} {W0 : World} {n : Nat} {σ : List VObj} {kn : Kn} {dst : Option Tmp} {ty : TypeId} {pos : String} {af : Array Edge} {g : Option (Nat × Bool)}

/-- A loop that ends within some rounds. -/
def RK (P : Program) (M : Nat → Prop) (W0 : World) (n : Nat) (c : Code) (T : Exit → List VObj → Kn → Prop) : Nat → List VObj → Kn → Prop
  | 0, _, _ => False
  | m + 1, σ, kn => KC P M W0 n c σ kn (thenK (RK P M W0 n c T m) T)

theorem RK.succ {c : Code} {T : Exit → List VObj → Kn → Prop} {m : Nat} (h : KC P M W0 n c σ kn (thenK (RK P M W0 n c T m) T)) : RK P M W0 n c T (m + 1) σ kn := h

/-- A slice literal of deep values is a deep value: its block is new. -/
theorem K.litSl {t : TypeId} {m k : Nat} {parts : Array (Nat × Operand)} {qs : List (Nat × XV)} {cells : List XV} {lo : Nat} {d : DV} (hp : parts.toList.mapM (fun p => (evK kn p.2).map fun v => (p.1, v)) = some qs) (hq : ∀ q ∈ qs, ∃ e, q.2 = .d e)
    (hr : opBuildSlice P [] t m qs = some (.osl 0 0 m k lo true, [⟨cells, 0⟩])) (hd : deepen [⟨cells, 1⟩] 9 (.osl 0 0 m k lo true) = some d) : KEv P ⟨dst, .buildSlice t m parts, ty, pos, af, g⟩ σ kn (.d d) σ 0 := fun env he => by
  refine .hid (s := ⟨σ, env⟩) fun F ι w ev hF h => ?_
  have hex : ∀ ev : Operand → Value, execOp ev ⟨dst, .buildSlice t m parts, ty, pos, af, g⟩ = (do pure (.value (← Instr.buildSlice t m (parts.map fun (i, x) => (i, ev x))))) := fun _ => rfl
  rw [hex]
  obtain ⟨h1, h2⟩ := mapM_get hp
  have hm := Mem.start F w hF
  obtain ⟨ι', w', v, k1, k2, k3, k4⟩ := opBuildSlice_sound (P := P) hm (ps := (parts.map fun p => (p.1, ev p.2)).toList) (qs := qs) (by simpa using h1) (fun i p q hpi hqi => by
    simp only [Array.toList_map, List.getElem?_map, Option.map_eq_some_iff] at hpi
    obtain ⟨p', hp', rfl⟩ := hpi
    have h3 := h2 i p' q hp' hqi
    obtain ⟨u, hu, rfl⟩ := Option.map_eq_some_iff.1 h3
    obtain ⟨e, he'⟩ := hq _ (List.mem_of_getElem? hqi)
    simp only at he'
    subst he'
    have := h p'.2 (by
      simp only [Op.operands, List.mem_toArray, List.mem_map]
      exact ⟨p', List.mem_of_getElem? hp', rfl⟩)
    rw [evK_evalX he hu] at this
    simp only
    revert this
    generalize ev p'.2 = vv
    intro this
    cases this with
    | d hh => exact ⟨by first | rfl | trivial, .d (hh.mono (forb_nil F))⟩) hr
  obtain ⟨f1, f2⟩ := freezeAll_tamed k2
  have hfr : freezeAll [(⟨cells, 0⟩ : VObj)] = [⟨cells, 1⟩] := rfl
  have hdd := deepen_sound f1 9 v _ d (k4.ext f2) (by rw [hfr]; exact hd)
  refine ⟨v, w', ?_, k2.below, hdd.mono fun b hb => .inl hb⟩
  rw [Array.toArray_toList] at k1
  simp [k1, Result.andThen]

end
end Go.Vm

end
section
/-
  CALLS THAT MAKE A SLICE FOR THEIR CALLER: the first object is kept, the others are forgotten.
-/
namespace Go.Vm
open Go.RowKit
theorem freezeIds_nil (σ : List VObj) : freezeIds σ [] = σ := by
  unfold freezeIds
  apply List.ext_getElem?
  intro i
  rw [List.getElem?_mapIdx]
  cases σ[i]? <;> simp
section
variable {P : Program} {σ : List VObj} {kn : Kn} {dst : Option Tmp} {ty : TypeId} {pos : String} {af : Array Edge} {g : Option (Nat × Bool)}
theorem K.extractY {x : Operand} {i : Nat} {xs : List XV} {c : XV} (hx : evK kn x = some (.tup xs)) (hc : xs[i]? = some c) : KEv P ⟨dst, .extract x i, ty, pos, af, g⟩ σ kn c σ 0 := ev_op fun env he => by
  have e1 := evK_evalX he hx
  unfold evalOp
  rw [litOp_none (x := x) (by simp [Op.operands]) (by rw [e1]; rfl)]
  simp [e1, opExtract, hc]
end
end Go.Vm

end
section
/-
  Nets, without a program: the firings of a node one by one; the arcs of the graph while it grows.
-/
namespace Go.Nt

/-- The transitions that are enabled, with what they lead to. -/
def enL (nx : List Int → Nat → Option (List Int)) (m : List Int) (T : Nat) : List (Nat × List Int) := (List.range T).filterMap fun t => (nx m t).map fun m' => (t, m')
theorem enL_succ (nx : List Int → Nat → Option (List Int)) (m : List Int) (T : Nat) : enL nx m (T + 1) = enL nx m T ++ (match nx m T with | none => [] | some m' => [(T, m')]) := by
  unfold enL
  rw [List.range_succ, List.filterMap_append]
  cases h : nx m T <;> simp [h]
theorem enL_mem {nx : List Int → Nat → Option (List Int)} {m : List Int} {T : Nat} {p : Nat × List Int} : p ∈ enL nx m T ↔ p.1 < T ∧ nx m p.1 = some p.2 := by
  unfold enL
  rw [List.mem_filterMap]
  constructor
  · rintro ⟨t, ht, h⟩
    obtain ⟨m', h1, rfl⟩ := Option.map_eq_some_iff.1 h
    exact ⟨List.mem_range.1 ht, h1⟩
  · rintro ⟨h1, h2⟩
    exact ⟨p.1, List.mem_range.2 h1, by rw [h2]; rfl⟩
theorem addE_grow (fs : List Ent) (m : List Int) (t a : Nat) (w : List Nat) : ∃ l, addE fs m t a w = fs ++ l := by
  unfold addE
  split
  · exact ⟨[], by simp⟩
  · exact ⟨_, rfl⟩
theorem InvE.add {nx : List Int → Nat → Option (List Int)} {T n : Nat} {s0 : List Int} (hN : NxOk nx T n) {fs : List Ent} (h : InvE nx T n s0 fs) {a : Nat} {e : Ent} (he : fs[a]? = some e) {p : Nat × List Int} (hp : p ∈ enL nx e.1 T) (hl : fs.length ≤ 100000000) : InvE nx T n s0 (addE fs p.2 p.1 a e.2.2.2) := by
  obtain ⟨h1, h2⟩ := enL_mem.1 hp
  have := h.step hN he h1 hl
  unfold stepE at this
  rw [h2] at this
  exact this

def mrk (fs : List Ent) (i : Nat) : List Int := (marks fs).getD i []
theorem mrk_app {fs : List Ent} {i : Nat} (h : i < fs.length) (l : List Ent) : mrk (fs ++ l) i = mrk fs i := by
  unfold mrk
  rw [List.getD_eq_getElem?_getD, List.getD_eq_getElem?_getD, marks_append, List.getElem?_append_left (by rw [marks_len]; exact h)]
def pl (fs : List Ent) (p : Nat × List Int) : Nat × Nat := (p.1, place (marks fs) p.2)
/-- The arcs at every node when those of the nodes before a are found, and k at a. -/
def nextN (nx : List Int → Nat → Option (List Int)) (T : Nat) (fs : List Ent) (a k : Nat) : List (List (Nat × Nat)) :=
  (List.range fs.length).map fun i => if i < a then (enL nx (mrk fs i) T).map (pl fs) else if i = a then ((enL nx (mrk fs i) T).take k).map (pl fs) else []
/-- All arcs found so far lead to nodes. -/
structure Cl (nx : List Int → Nat → Option (List Int)) (T : Nat) (fs : List Ent) (a k : Nat) : Prop where
  b : ∀ i, i < a → i < fs.length → ∀ p ∈ enL nx (mrk fs i) T, p.2 ∈ marks fs
  c : ∀ p ∈ (enL nx (mrk fs a) T).take k, p.2 ∈ marks fs

variable {nx : List Int → Nat → Option (List Int)} {T : Nat}

theorem Cl.add {fs : List Ent} {a k : Nat} (ha : a < fs.length) (h : Cl nx T fs a k) (m : List Int) (t b : Nat) (w : List Nat) : Cl nx T (addE fs m t b w) a k := by
  have hm : ∀ x, x ∈ marks fs → x ∈ marks (addE fs m t b w) := fun x hx => by
    obtain ⟨l, e⟩ := addE_grow fs m t b w
    rw [e, marks_append]; exact List.mem_append.2 (.inl hx)
  obtain ⟨l, e⟩ := addE_grow fs m t b w
  refine ⟨fun i hia hi p hp => ?_, fun p hp => ?_⟩
  · rw [e, mrk_app (by omega)] at hp
    exact hm _ (h.b i hia (by omega) p hp)
  · rw [e, mrk_app ha] at hp
    exact hm _ (h.c p hp)
theorem Cl.succ {fs : List Ent} {a k : Nat} (h : Cl nx T fs a k) (hk : k < (enL nx (mrk fs a) T).length) (hm : ((enL nx (mrk fs a) T)[k]).2 ∈ marks fs) : Cl nx T fs a (k + 1) :=
  ⟨h.b, fun p hp => by
    rw [List.take_succ_eq_append_getElem hk, List.mem_append, List.mem_singleton] at hp
    rcases hp with hp | rfl
    · exact h.c p hp
    · exact hm⟩
theorem Cl.next {fs : List Ent} {a k : Nat} (h : Cl nx T fs a k) (hk : (enL nx (mrk fs a) T).length ≤ k) : Cl nx T fs (a + 1) 0 :=
  ⟨fun i hia hi p hp => by
    by_cases e : i < a
    · exact h.b i e hi p hp
    · obtain rfl : i = a := by omega
      exact h.c p (by rw [List.take_of_length_le hk]; exact hp), fun p hp => by simp at hp⟩
end Go.Nt

end
section
/-
  VALUES WITHOUT ADDRESSES: a loop over a function that makes objects of its own between its yields.
-/
namespace Go.Vm
open Go.RowKit

/-- AN ITERATOR that may make objects: what the caller keeps must bear that. -/
def IterG (P : Program) (f : FuncId) (first caps : List XV) (xs : List (List XV)) : Prop :=
  ∀ (M : Nat → Prop) (W0 : World) (id : Nat) (I : Nat → List VObj → Prop) (J : List VObj → Prop) (σ0 : List VObj), id < σ0.length → (∀ k σ, I k σ → id < σ.length) → (∀ k σ o, I k σ → I k (σ ++ [o])) →
    (∀ (k : Nat) (σ : List VObj) (hk : k < xs.length), I k σ → InRound P M W0 id σ xs[k] (fun σ' b => (b = true ∧ I (k + 1) σ') ∨ (b = false ∧ J σ'))) →
    I 0 σ0 → InCall P M W0 f σ0 (first ++ [.yl id] ++ caps) (fun σ' _ => I xs.length σ' ∨ J σ')

section
variable {P : Program} {M : Nat → Prop} {W0 : World} {n : Nat} {σ σ' : List VObj} {kn : Kn}

theorem KC.rangeG {g : Operand} {ps : Array Tmp} {assign body : Code} {T : Exit → List VObj → Kn → Prop} {gv : XV} {f : FuncId} {first caps : List XV} (hg : evK kn g = some gv) (hf : asFn gv = some (f, first, caps)) (hp : plainFn P f = true)
    {xs : List (List XV)} (hit : IterG P f first caps xs) (hps : ∀ x ∈ xs, x.length = ps.size) (hnd : ps.toList.Nodup) (knA : Nat → Kn) (I : Nat → List VObj → Prop) (J : List VObj → Prop)
    (hgw : ∀ k τ o, I k τ → I k (τ ++ [o]))
    (hA : ∀ (k : Nat) (hk : k < xs.length), ∀ p ∈ knA k, p.1 < n ∧ look (ps.toList.zip xs[k] ++ kn) p.1 = some p.2) (h0 : I 0 (σ ++ [dead]))
    (hb : ∀ (k : Nat) (_ : k < xs.length) (lo : VObj) (σ' : List VObj), lo.mode = 6 → σ'[σ.length]? = some lo → I k (σ'.set σ.length dead) →
      KC P M W0 n assign σ' (knA k) (fun e τ kn1 => e = .normal ∧ (∃ ns : List VObj, τ = σ' ++ ns) ∧ ∀ lo2 : VObj, lo2.mode = 6 → KC P M W0 n body (τ.set σ.length lo2) kn1 (fun e τ _ => τ[σ.length]? = some lo2 ∧
        ((e = .normal ∧ I (k + 1) (τ.set σ.length dead)) ∨ (e = .ret ∧ J (τ.set σ.length dead))))))
    (hn : ∀ τ, I xs.length τ → T .normal τ kn) (hr : ∀ τ, J τ → T .ret τ kn) : KC P M W0 n (.rangeFunc g ps assign body) σ kn T := by
  intro env he
  refine Wp.rangeFunc (s := ⟨σ, env⟩) (f := f) (first := first) (caps := caps) (by show asFn (evalX env g) = _; rw [evK_evalX he hg]; exact hf) hp fun fn => ?_
  have hlen : ((List.range n).map env).length = n := by simp
  have hgetE : ∀ t x, look kn t = some x → t < ((List.range n).map env).length → ((List.range n).map env)[t]? = some x := by
    intro t x h ht
    rw [hlen] at ht
    rw [List.getElem?_map, List.getElem?_range ht]
    simp [he t x h]
  generalize hE : (List.range n).map env = E at hlen hgetE
  have hcall := hit M W0 σ.length (fun k σ' => σ'[σ.length]? = some ⟨.lp (recL fn ps assign body) :: E, 6⟩ ∧ I k (σ'.set σ.length dead))
    (fun σ' => σ'[σ.length]? = some ⟨.lp { recL fn ps assign body with state := .done, pending := some .ret } :: E, 6⟩ ∧ J (σ'.set σ.length dead)) (σ ++ [⟨.lp (recL fn ps assign body) :: E, 6⟩]) (by simp)
    (fun k σ' h => (List.getElem?_eq_some_iff.1 h.1).1) (fun k σ' o h => by
      have hlt := (List.getElem?_eq_some_iff.1 h.1).1
      exact ⟨by rw [List.getElem?_append_left hlt]; exact h.1, by rw [List.set_append_left _ _ hlt]; exact hgw k _ o h.2⟩) ?_ ?_
  · refine hcall.mono fun σ' x h => ?_
    rcases h with ⟨h1, h2⟩ | ⟨h1, h2⟩
    · exact ⟨_, E, h1, by simp [recL], ⟨kn, he, hn _ h2⟩⟩
    · exact ⟨_, E, h1, by simp, Wp.ret ⟨kn, he, hr _ h2⟩⟩
  · intro k σ' hk ⟨h1, h2⟩
    refine inRound_of h1 rfl rfl (by rw [hps _ (List.getElem_mem hk)]; rfl) ?_
    have hag : Agree (knA k) (envF (putsX E (ps.toList.zip xs[k]))) := by
      intro t x hx
      have : ∀ (l : Kn), (∀ p ∈ l, p.1 < n ∧ look (ps.toList.zip xs[k] ++ kn) p.1 = some p.2) → look l t = some x → t < n ∧ look (ps.toList.zip xs[k] ++ kn) t = some x := by
        intro l
        induction l with
        | nil => intro _ h; simp [look] at h
        | cons p l ih =>
          intro hl hx
          obtain ⟨s, y⟩ := p
          simp only [look] at hx
          split at hx
          · rename_i e; cases hx; subst e; exact hl (t, x) (by simp)
          · exact ih (fun q hq => hl q (by simp [hq])) hx
      obtain ⟨q1, q2⟩ := this _ (hA k hk) hx
      unfold envF
      rw [putsX_get _ _ E kn t x hnd hgetE (by rw [hlen]; exact q1) q2]; rfl
    have hwa := hb k hk _ σ' rfl h1 h2 _ hag
    rw [hlen]
    refine hwa.mono fun e s1 hh => ?_
    obtain ⟨kn1, a1, rfl, ⟨ns, a2⟩, a3⟩ := hh
    refine ⟨rfl, by rw [a2, List.getElem?_append_left (List.getElem?_eq_some_iff.1 h1).1]; exact h1, ?_⟩
    have hwb := a3 ⟨.lp { recL fn ps assign body with state := .busy } :: E, 6⟩ rfl s1.env a1
    refine hwb.mono fun e s2 hh2 => ?_
    obtain ⟨kn2, _, b2, b3⟩ := hh2
    have hlt := (List.getElem?_eq_some_iff.1 b2).1
    rcases b3 with ⟨rfl, b3⟩ | ⟨rfl, b3⟩
    · exact ⟨b2, .inl ⟨rfl, by rw [List.getElem?_set_self hlt]; rfl, by rw [List.set_set]; exact b3⟩⟩
    · exact ⟨b2, .inr ⟨rfl, by rw [List.getElem?_set_self hlt], by rw [List.set_set]; exact b3⟩⟩
  · refine ⟨by rw [List.getElem?_append_right (Nat.le_refl _)]; simp, ?_⟩
    rw [List.set_append_right _ _ (Nat.le_refl _)]
    simpa using h0
end
end Go.Vm

end
section
/-
  MAPS OF THE CALL'S OWN from whole numbers to whole numbers: looked up, put, deleted, counted.
-/
namespace Go.Vm
open Go.RowKit

def mup : List (Int × Int) → Int → Int → List (Int × Int)
  | [], k, v => [(k, v)]
  | p :: m, k, v => if p.1 = k then (k, v) :: m else p :: mup m k v
/-- Each key stands once. -/
def NdI (m : List (Int × Int)) : Prop := (m.map Prod.fst).Nodup
theorem NdI.nil : NdI [] := List.nodup_nil
theorem mup_keys (k v : Int) : ∀ m : List (Int × Int), ∀ x, x ∈ (mup m k v).map Prod.fst ↔ x = k ∨ x ∈ m.map Prod.fst
  | [], x => by simp [mup]
  | p :: m, x => by
    unfold mup
    by_cases h : p.1 = k
    · rw [if_pos h]; simp [h]
    · rw [if_neg h]; simp only [List.map_cons, List.mem_cons, mup_keys k v m x]
      constructor
      · rintro (h | h | h)
        · exact .inr (.inl h)
        · exact .inl h
        · exact .inr (.inr h)
      · rintro (h | h | h)
        · exact .inr (.inl h)
        · exact .inl h
        · exact .inr (.inr h)
theorem NdI.up {k v : Int} : ∀ {m : List (Int × Int)}, NdI m → NdI (mup m k v)
  | [], _ => by simp [mup, NdI]
  | p :: m, h => by
    have h2 := List.nodup_cons.1 h
    unfold mup
    by_cases e : p.1 = k
    · rw [if_pos e]; subst e; exact h
    · rw [if_neg e]
      refine List.nodup_cons.2 ⟨fun hm => ?_, NdI.up (m := m) h2.2⟩
      rcases (mup_keys k v m p.1).1 hm with q | q
      · exact e q
      · exact h2.1 q
/-- The entries of such a map. -/
def entI (m : List (Int × Int)) : List XV := m.map fun p => XV.ent (.int .i64 p.1) (.d (DI p.2))
def RepI (es : Array MapEntry) (m : List (Int × Int)) : Prop := es.size = m.length ∧ ∀ (i : Nat) (e : MapEntry), es[i]? = some e → ∃ p, m[i]? = some p ∧ e.key = .int .i64 p.1 ∧ e.val = .int .i64 p.2
theorem RepI.key {es : Array MapEntry} {m : List (Int × Int)} (h : RepI es m) : ∀ x ∈ es.toList, MapKept.IsKey (.int .i64) x.key := fun x hx => by
  obtain ⟨i, hi⟩ := List.getElem?_of_mem hx
  obtain ⟨p, _, e, _⟩ := h.2 i x (by simpa using hi)
  rw [e]; rfl
theorem RepI.none {es : Array MapEntry} {m : List (Int × Int)} {k : Int} (h : RepI es m) (hk : ∀ x ∈ es.toList, x.key ≠ .int .i64 k) : ∀ p ∈ m, p.1 ≠ k := fun p hp hpk => by
  obtain ⟨i, hi⟩ := List.getElem?_of_mem hp
  have hlt : i < es.size := by rw [h.1]; exact (List.getElem?_eq_some_iff.1 hi).1
  obtain ⟨q, h1, h2, _⟩ := h.2 i es[i] (Array.getElem?_eq_getElem hlt)
  rw [hi] at h1; cases h1
  exact hk es[i] (by simp) (by rw [h2, hpk])
theorem RepI.spec {es : Array MapEntry} {m : List (Int × Int)} {clock b : Nat} {w : World} {ι : List Nat} {F : Nat → Prop} (h : RepI es m) (hb : w.heap[b]? = some (.map es clock)) : Spec w ι F b 3 (entI m) :=
  .inl ⟨.inl rfl, es, clock, hb, by rw [h.1]; simp [entI], fun i e c hi hc => by
    obtain ⟨p, h1, h2, h3⟩ := h.2 i e hi
    unfold entI at hc
    rw [List.getElem?_map, h1] at hc
    cases hc
    refine ⟨.d (DI p.2), by rw [h2], ?_⟩
    rw [h3]; exact .d (.lit _)⟩
theorem RepI.push {es : Array MapEntry} {m : List (Int × Int)} {k v : Int} {clock : Nat} (h : RepI es m) : RepI (es.push { key := .int .i64 k, val := .int .i64 v, born := clock }) (m ++ [(k, v)]) := by
  refine ⟨by simp [h.1], fun i e hi => ?_⟩
  rw [Array.getElem?_push] at hi
  split at hi
  · rename_i e1
    cases hi
    exact ⟨(k, v), by rw [e1, h.1]; simp, rfl, rfl⟩
  · obtain ⟨p, h1, h2⟩ := h.2 i e hi
    exact ⟨p, by rw [List.getElem?_append_left (List.getElem?_eq_some_iff.1 h1).1]; exact h1, h2⟩
theorem RepI.modify {es : Array MapEntry} {m : List (Int × Int)} {k v : Int} {j : Nat} (h : RepI es m) : RepI (es.modify j fun e => { e with key := .int .i64 k, val := .int .i64 v }) (m.set j (k, v)) := by
  refine ⟨by simp [h.1], fun i e hi => ?_⟩
  rw [Array.getElem?_modify] at hi
  have hlt : i < m.length := by
    rw [← h.1]
    have := hi
    split at this
    · obtain ⟨a, ha, _⟩ := Option.map_eq_some_iff.1 this
      exact (Array.getElem?_eq_some_iff.1 ha).1
    · exact (Array.getElem?_eq_some_iff.1 this).1
  rw [List.getElem?_set]
  by_cases e1 : j = i
  · rw [if_pos e1] at hi
    obtain ⟨a, _, rfl⟩ := Option.map_eq_some_iff.1 hi
    subst e1
    exact ⟨(k, v), by rw [if_pos rfl, if_pos hlt], rfl, rfl⟩
  · rw [if_neg e1] at hi
    rw [if_neg e1]
    exact h.2 i e hi
section
variable {P : Program} {σ : List VObj} {kn : Kn} {dst : Option Tmp} {ty : TypeId} {pos : String} {af : Array Edge} {g : Option (Nat × Bool)}
end
end Go.Vm
namespace Go.Vm
end Go.Vm

end
section
/-
  LISTS of whole numbers in an own slice: how slices.Reverse, slices.Compact and slices.Min go through them.
-/
namespace Go.Ht
open Go.Vm
/-- Cells of whole numbers. -/
def xs (l : List Int) : List XV := l.map fun z => XV.d (DI z)
/-! ### Pinches -/
/-! ### The reference -/
end Go.Ht

end
section
/-
  RULES: a literal of two structs; the first streams of a slice; utilities of two streams.
-/
namespace Go.Vm
section
variable {P : Program} {σ : List VObj} {kn : Kn} {dst : Option Tmp} {ty : TypeId} {pos : String} {af : Array Edge} {g : Option (Nat × Bool)}
end
end Go.Vm
namespace Go.Ht
open Go.Vm
end Go.Ht

end
section
/-
  Batch: shops, arcs and longest ways (pure).
-/
namespace Go.Ba
open Go.Vm Go.Ht

def c2 (o : Int × Int) : List DV := [DI o.1, DI o.2]
def tm (ops : List (Int × Int)) (i : Int) : Int := (ops.getD i.toNat (0, 0)).2
def gt (hs : List Int) (i : Int) : Int := hs.getD i.toNat 0
def rlx (ops : List (Int × Int)) (s : List Int × Bool) (a : Int × Int) : List Int × Bool :=
  if gt s.1 a.2 < gt s.1 a.1 + tm ops a.1 then (s.1.set a.2.toNat (gt s.1 a.1 + tm ops a.1), false) else s
def Times (ops : List (Int × Int)) : Prop := ∀ o ∈ ops, 1 ≤ o.2 ∧ o.2 ≤ 20
theorem fold_take {ops arcs : List (Int × Int)} {s : List Int × Bool} {i : Nat} (hi : i < arcs.length) : (arcs.take (i + 1)).foldl (rlx ops) s = rlx ops ((arcs.take i).foldl (rlx ops) s) arcs[i] := by
  rw [List.take_succ_eq_append_getElem hi, List.foldl_append]; rfl
end Go.Ba

end
section
/-
  Batch: slices of pairs: cut, and appended to where there is no room.
-/
namespace Go.Ba
open Go.Vm Go.Ht Go.RowKit

section
variable {P : Program} {n : Nat} {ops : Array Oper} {l : List Oper} {σ : List VObj} {kn : Kn} {dst : Option Tmp} {ty : TypeId} {pos : String} {af : Array Edge} {g : Option (Nat × Bool)}
  {R : List Nat → List VObj → Kn → Prop}
end
theorem one3 {a c : DV} {x : XV} (ha : SlD a) (hc : SlD c) (hx : oneX x = true) : ([.d a, x, .d c] : List XV).all oneX = true := by simp [ha.one, hc.one, hx]
end Go.Ba

end
section
/-
  Batch: families of own slices; an append in an open order; the graph of a shop (pure).
-/
namespace Go.Vm
open Go.RowKit
section
variable {P : Program} {n : Nat} {ops : Array Oper} {l : List Oper} {σ : List VObj} {kn : Kn} {dst : Option Tmp} {ty : TypeId} {pos : String} {af : Array Edge} {g : Option (Nat × Bool)}
theorem K.appE {t e : TypeId} {x y : Operand} {k : Nat} {sx : XV} {cells vs : List XV} {id : Nat}
    (hx : evK kn x = some sx) (hy : evK kn y = some (.osl id 0 1 k 1 true)) (hown : OwnK k σ sx cells) (hid : σ[id]? = some ⟨vs, 0⟩) (hvs : vs.length = k) (h1v : vs.all oneX = true) (hlen : cells.length < 1073741823)
    (ht : P.underlying t = some (.slice e)) (hs : sizeT P e = some k) (hb : bytesT P e ≤ 65536) (hz : (zeroT P e).map (·.cells.size) = some k) (hk : 0 < k) :
    ∃ σ' x', KEv P ⟨dst, .call ⟨.builtin .append, #[x, y], #[t, t]⟩, ty, pos, af, g⟩ σ kn x' σ' 2 ∧ OwnK k σ' x' (cells ++ vs) ∧ (∀ j, idX sx ≠ some j → j < σ.length → σ'[j]? = σ[j]?) ∧ ∃ j, idX x' = some j ∧ σ.length ≤ j := by
  have hsrc : srcCells σ k (.osl id 0 1 k 1 true) = some (vs, 1, 1) := by
    simp [srcCells, hid, hvs]
    rw [List.take_of_length_le (by omega)]
  cases hown with
  | nil =>
    refine ⟨σ ++ [⟨vs, 0⟩], .osl σ.length 0 1 k 1 false, ev_op fun env he => ?_, .sl (by simp) (by simp [hvs]), fun j _ hj => by rw [List.getElem?_append_left hj], _, rfl, Nat.le_refl _⟩
    have e1 := evK_evalX he hx
    have e2 := evK_evalX he hy
    unfold evalOp
    rw [litOp_none (x := y) (by simp [Op.operands, Call.operands]) (by rw [e2]; rfl)]
    simp [e1, e2, opAppend, ht, hs, hsrc, h1v, growTo, hb, hz]
  | @sl oid m cells ho hn =>
    have hm : m < 1073741823 := by
      have : m * 1 ≤ m * k := Nat.mul_le_mul_left _ hk
      omega
    refine ⟨(σ.set oid ⟨cells, 2⟩) ++ [⟨cells ++ vs, 0⟩], .osl σ.length 0 (m + 1) k (m + 1) false, ev_op fun env he => ?_,
      .sl (by rw [List.getElem?_append_right (by simp)]; simp) (by simp [hn, hvs, Nat.add_mul]), fun j hj hlt => by
        rw [List.getElem?_append_left (by simpa using hlt), List.getElem?_set]
        rw [if_neg (fun e => hj (by rw [e]; rfl))], _, rfl, Nat.le_refl _⟩
    have e1 := evK_evalX he hx
    have e2 := evK_evalX he hy
    unfold evalOp
    rw [litOp_none (x := x) (by simp [Op.operands, Call.operands]) (by rw [e1]; rfl)]
    have h3 : m + 1 ≤ 1073741824 := by omega
    have h4 : ¬ m + 1 ≤ m := by omega
    simp [e1, e2, opAppend, ht, hs, hsrc, h1v, ho, hb, hz, h3, h4, hn]
/-- append in an open order: the slice that is appended to is what no other operation reads. -/
theorem KTZ.appK {Z : Nat → Prop} {R : List Nat → List Nat → List VObj → Kn → Prop} {t e : TypeId} {x y : Operand} {k : Nat} {sx : XV} {cells vs : List XV} {id : Nat} (hg : guardK ops kn ⟨dst, .call ⟨.builtin .append, #[x, y], #[t, t]⟩, ty, pos, af, g⟩ = some true) (hd : dstOk n dst = true)
    (hZ : ∀ j, idX sx = some j → Z j)
    (hx : evK kn x = some sx) (hy : evK kn y = some (.osl id 0 1 k 1 true)) (hown : OwnK k σ sx cells) (hid : σ[id]? = some ⟨vs, 0⟩) (hvs : vs.length = k) (h1v : vs.all oneX = true) (hlen : cells.length < 1073741823)
    (ht : P.underlying t = some (.slice e)) (hs : sizeT P e = some k) (hb : bytesT P e ≤ 65536) (hz : (zeroT P e).map (·.cells.size) = some k) (hk : 0 < k)
    (h : ∀ σ' x', OwnK k σ' x' (cells ++ vs) → (∀ j, idX sx ≠ some j → j < σ.length → σ'[j]? = σ[j]?) → (∃ j, idX x' = some j ∧ σ.length ≤ j) → KTZ P n ops Z l σ' (extK dst x' kn) (fun fls gs τ k => R (2 :: fls) (2 :: gs) τ k)) :
    KTZ P n ops Z (⟨dst, .call ⟨.builtin .append, #[x, y], #[t, t]⟩, ty, pos, af, g⟩ :: l) σ kn R := by
  obtain ⟨σ', x', h1, h2, h3, h4⟩ := K.appE (P := P) (dst := dst) (ty := ty) (pos := pos) (af := af) (g := g) hx hy hown hid hvs h1v hlen ht hs hb hz hk
  refine KTZ.write hg hd (fun i ob hi ho => ?_) h1 (h σ' x' h2 h3 h4)
  have hlt : i < σ.length := (List.getElem?_eq_some_iff.1 ho).1
  exact ⟨ob, (h3 i (fun e => hi (hZ i e)) hlt).trans ho, rfl, Iff.rfl⟩
end
/-- Own slices apart from one another. -/
structure Fam (lo : Nat) (σ : List VObj) (F : List (Nat × XV × List XV)) : Prop where
  own : ∀ p ∈ F, OwnK p.1 σ p.2.1 p.2.2 ∧ (p.2.2 = [] → p.2.1 = .d Dnil) ∧ ∀ j, idX p.2.1 = some j → lo ≤ j
  apart : ∀ (i j : Nat) (hi : i < F.length) (hj : j < F.length), i ≠ j → ∀ id, idX F[i].2.1 = some id → idX F[j].2.1 ≠ some id
theorem Fam.keep {lo : Nat} {σ σ' : List VObj} {F : List (Nat × XV × List XV)} (h : Fam lo σ F) (hk : ∀ j, lo ≤ j → j < σ.length → σ'[j]? = σ[j]?) : Fam lo σ' F :=
  ⟨fun p hp => ⟨(h.own p hp).1.keep fun j hj => hk j ((h.own p hp).2.2 j hj) ((h.own p hp).1.lt hj), (h.own p hp).2⟩, h.apart⟩
theorem Fam.put {lo : Nat} {σ σ' : List VObj} {F : List (Nat × XV × List XV)} (h : Fam lo σ F) {i : Nat} (hi : i < F.length) {x' : XV} {cells' : List XV} (hk : ∀ j, idX F[i].2.1 ≠ some j → j < σ.length → σ'[j]? = σ[j]?)
    (ho : OwnK F[i].1 σ' x' cells') (hne : cells' ≠ []) (hx : ∃ j, idX x' = some j ∧ σ.length ≤ j) (hlo : lo ≤ σ.length) : Fam lo σ' (F.set i (F[i].1, x', cells')) := by
  obtain ⟨j', hj', hl'⟩ := hx
  constructor
  · intro p hp
    obtain ⟨k, hk1, rfl⟩ := List.getElem_of_mem hp
    rw [List.length_set] at hk1
    rw [List.getElem_set]
    split
    · exact ⟨ho, fun e => absurd e hne, fun j hj => by rw [hj'] at hj; cases hj; omega⟩
    · rename_i hne2
      have hp := h.own F[k] (List.getElem_mem hk1)
      exact ⟨hp.1.keep fun j hj => hk j (h.apart k i hk1 hi (fun e => hne2 e.symm) j hj) (hp.1.lt hj), hp.2⟩
  · intro a b ha hb hab id hid
    rw [List.length_set] at ha hb
    rw [List.getElem_set] at hid ⊢
    split at hid
    · rename_i e1
      simp only at hid
      rw [hj'] at hid; cases hid
      rw [if_neg (fun e2 => hab (by omega))]
      intro e3
      have := (h.own F[b] (List.getElem_mem hb)).1.lt e3
      omega
    · split
      · simp only
        rw [hj']
        intro e; cases e
        have := (h.own F[a] (List.getElem_mem ha)).1.lt hid
        omega
      · exact h.apart a b ha hb hab id hid
theorem Fam.push {lo : Nat} {σ : List VObj} {F : List (Nat × XV × List XV)} (h : Fam lo σ F) (o : VObj) : Fam lo (σ ++ [o]) F := h.keep fun _ _ hj => List.getElem?_append_left hj
end Go.Vm
namespace Go.Ba
open Go.Vm Go.Ht
end Go.Ba

end
section
/-
  Batch: what the longest ways are: the least times that keep the arcs (pure).
-/
namespace Go.Ba
open Go.Vm Go.Ht

/-- Times that keep the arcs. -/
structure Sol (os ar : List (Int × Int)) (x : Int → Int) : Prop where
  nn : ∀ i : Int, 0 ≤ i → i < os.length → 0 ≤ x i
  arc : ∀ a ∈ ar, x a.1 + tm os a.1 ≤ x a.2
theorem Sol.sub {os ar br : List (Int × Int)} {x : Int → Int} (h : Sol os ar x) (hs : ∀ a ∈ br, a ∈ ar) : Sol os br x := ⟨h.nn, fun a ha => h.arc a (hs a ha)⟩

end Go.Ba

end
section
/-
  Batch: append of a slice of pairs that is read; rows of pairs that are told as values.
-/
namespace Go.Vm
open Go.RowKit Go.Ba Go.Ht
section
variable {P : Program} {n : Nat} {ops : Array Oper} {l : List Oper} {σ : List VObj} {kn : Kn} {dst : Option Tmp} {ty : TypeId} {pos : String} {af : Array Edge} {g : Option (Nat × Bool)}
  {R : List Nat → List VObj → Kn → Prop}
end
end Go.Vm

end
section
/-
  APPENDS OF SLICES THAT ARE READ to own slices, exact or grown; a slice from somewhere on.
-/
namespace Go.Vm
open Go.RowKit Go.Ht

/-- A slice of one-cell elements, nil or not. -/
def SlC (d : DV) (cs : List DV) : Prop := (d = Dnil ∧ cs = []) ∨ ∃ cap, d = .sl cs cs.length cap
section
variable {P : Program} {n : Nat} {ops : Array Oper} {l : List Oper} {σ : List VObj} {kn : Kn} {dst : Option Tmp} {ty : TypeId} {pos : String} {af : Array Edge} {g : Option (Nat × Bool)}
  {R : List Nat → List VObj → Kn → Prop}
theorem KT.appC {t e : TypeId} {x y : Operand} {id m : Nat} {ex : Bool} {cells : List XV} {d : DV} {cs : List DV} (hg : guardK ops kn ⟨dst, .call ⟨.builtin .append, #[x, y], #[t, t]⟩, ty, pos, af, g⟩ = some true) (hd : dstOk n dst = true)
    (hx : evK kn x = some (.osl id 0 m 1 m ex)) (hy : evK kn y = some (.d d)) (hid : σ[id]? = some ⟨cells, 0⟩) (hm : cells.length = m) (hsc : SlC d cs) (h1 : (cs.map XV.d).all oneX = true) (hlen : cells.length + cs.length ≤ 1000000)
    (ht : P.underlying t = some (.slice e)) (hs : sizeT P e = some 1) (hb : bytesT P e ≤ 65536) (hz : (zeroT P e).map (·.cells.size) = some 1)
    (h : ∀ σ' id', σ'[id']? = some ⟨cells ++ cs.map .d, 0⟩ → (∀ j, j ≠ id → j < σ.length → σ'[j]? = σ[j]?) → ((id' = id ∧ σ' = σ) ∨ σ.length ≤ id') → KT P n ops l σ' (extK dst (.osl id' 0 (m + cs.length) 1 (m + cs.length) (ex && cs.isEmpty)) kn) (fun fls τ k => R (2 :: fls) τ k)) :
    KT P n ops (⟨dst, .call ⟨.builtin .append, #[x, y], #[t, t]⟩, ty, pos, af, g⟩ :: l) σ kn R := by
  subst hm
  cases cs with
  | nil =>
    have hh := h σ id (by simpa using hid) (fun _ _ _ => rfl) (.inl ⟨rfl, rfl⟩)
    refine KT.step hg hd (x := .osl id 0 cells.length 1 cells.length ex) (σ' := σ) (fl := 2) (ev_op fun env he => ?_) (by simpa using hh)
    have e1 := evK_evalX he hx
    have e2 := evK_evalX he hy
    unfold evalOp
    rw [litOp_none (x := x) (by simp [Op.operands, Call.operands]) (by rw [e1]; rfl)]
    have hsrc : srcCells σ 1 (.d d) = some ([], 0, 0) := by
      rcases hsc with ⟨rfl, _⟩ | ⟨cap, rfl⟩
      · rfl
      · simp [srcCells]
    simp [e1, e2, opAppend, ht, hs, hsrc]
  | cons c cs =>
    obtain ⟨cap, rfl⟩ : ∃ cap, d = .sl (c :: cs) (c :: cs).length cap := by
      rcases hsc with ⟨_, h⟩ | h
      · cases h
      · exact h
    have hsrc : srcCells σ 1 (.d (.sl (c :: cs) (c :: cs).length cap)) = some ((c :: cs).map .d, (c :: cs).length, 0) := by
      unfold srcCells
      simp only
      rw [if_pos (by omega), List.take_of_length_le (by omega)]
    have hq0 : ¬ (c :: cs).length = 0 := by simp
    have hq : 0 < (c :: cs).length := by simp
    have hemp : (ex && (c :: cs).isEmpty) = false := by simp
    rw [hemp] at h
    generalize hN : (c :: cs).length = q at *
    have hvl : ((c :: cs).map XV.d).length = q := by rw [List.length_map]; exact hN
    generalize (c :: cs).map XV.d = vs at *
    have h3 : cells.length + q ≤ 1073741824 := by omega
    have h4 : ¬ cells.length + q ≤ cells.length := by omega
    cases ex with
    | true =>
      refine KT.step hg hd (x := .osl σ.length 0 (cells.length + q) 1 (cells.length + q) false) (σ' := σ ++ [⟨cells ++ vs, 0⟩]) (fl := 2) (ev_op fun env he => ?_)
        (h _ _ (by simp) (fun j _ hlt => List.getElem?_append_left hlt) (.inr (Nat.le_refl _)))
      have e1 := evK_evalX he hx
      have e2 := evK_evalX he hy
      unfold evalOp
      rw [litOp_none (x := x) (by simp [Op.operands, Call.operands]) (by rw [e1]; rfl)]
      simp only [e1, e2, opAppend, ht, hs, hsrc, h1, if_true, hid]
      simp [growTo, hb, hz, hq0, h3, h4]
    | false =>
      refine KT.step hg hd (x := .osl σ.length 0 (cells.length + q) 1 (cells.length + q) false) (σ' := (σ.set id ⟨cells, 2⟩) ++ [⟨cells ++ vs, 0⟩]) (fl := 2) (ev_op fun env he => ?_)
        (h _ _ (by rw [List.getElem?_append_right (by simp)]; simp) (fun j hj hlt => by
          rw [List.getElem?_append_left (by simpa using hlt), List.getElem?_set_ne (fun e => hj e.symm)]) (.inr (Nat.le_refl _)))
      have e1 := evK_evalX he hx
      have e2 := evK_evalX he hy
      unfold evalOp
      rw [litOp_none (x := x) (by simp [Op.operands, Call.operands]) (by rw [e1]; rfl)]
      simp only [e1, e2, opAppend, ht, hs, hsrc, h1, if_true, hid]
      simp [hb, hz, hq0, h3, h4]
end
end Go.Vm

end
section
/-
  VALUES WITHOUT ADDRESSES: append of a deep value to one's own slice, in an open order. (No seat.)
-/
namespace Go.Vm
section
variable {P : Program} {n : Nat} {ops : Array Oper} {l : List Oper} {σ : List VObj} {kn : Kn} {dst : Option Tmp} {ty : TypeId} {pos : String} {af : Array Edge} {g : Option (Nat × Bool)}
theorem K.appCE {t e : TypeId} {x y : Operand} {id m : Nat} {ex : Bool} {cells : List XV} {d : DV} {cs : List DV}
    (hx : evK kn x = some (.osl id 0 m 1 m ex)) (hy : evK kn y = some (.d d)) (hid : σ[id]? = some ⟨cells, 0⟩) (hm : cells.length = m) (hsc : SlC d cs) (h1 : (cs.map XV.d).all oneX = true) (hlen : cells.length + cs.length ≤ 1000000)
    (ht : P.underlying t = some (.slice e)) (hs : sizeT P e = some 1) (hb : bytesT P e ≤ 65536) (hz : (zeroT P e).map (·.cells.size) = some 1) :
    ∃ σ' id', KEv P ⟨dst, .call ⟨.builtin .append, #[x, y], #[t, t]⟩, ty, pos, af, g⟩ σ kn (.osl id' 0 (m + cs.length) 1 (m + cs.length) (ex && cs.isEmpty)) σ' 2 ∧ σ'[id']? = some ⟨cells ++ cs.map .d, 0⟩ ∧ (∀ j, j ≠ id → j < σ.length → σ'[j]? = σ[j]?) ∧ ((id' = id ∧ σ' = σ) ∨ σ.length ≤ id') := by
  subst hm
  cases cs with
  | nil =>
    refine ⟨σ, id, ev_op fun env he => ?_, by simpa using hid, fun _ _ _ => rfl, .inl ⟨rfl, rfl⟩⟩
    have e1 := evK_evalX he hx
    have e2 := evK_evalX he hy
    unfold evalOp
    rw [litOp_none (x := x) (by simp [Op.operands, Call.operands]) (by rw [e1]; rfl)]
    have hsrc : srcCells σ 1 (.d d) = some ([], 0, 0) := by
      rcases hsc with ⟨rfl, _⟩ | ⟨cap, rfl⟩
      · rfl
      · simp [srcCells]
    simp [e1, e2, opAppend, ht, hs, hsrc]
  | cons c cs =>
    obtain ⟨cap, rfl⟩ : ∃ cap, d = .sl (c :: cs) (c :: cs).length cap := by
      rcases hsc with ⟨_, h⟩ | h
      · cases h
      · exact h
    have hsrc : srcCells σ 1 (.d (.sl (c :: cs) (c :: cs).length cap)) = some ((c :: cs).map .d, (c :: cs).length, 0) := by
      unfold srcCells
      simp only
      rw [if_pos (by omega), List.take_of_length_le (by omega)]
    have hq0 : ¬ (c :: cs).length = 0 := by simp
    have hq : 0 < (c :: cs).length := by simp
    have hemp : (ex && (c :: cs).isEmpty) = false := by simp
    rw [hemp]
    generalize hN : (c :: cs).length = q at *
    have hvl : ((c :: cs).map XV.d).length = q := by rw [List.length_map]; exact hN
    generalize (c :: cs).map XV.d = vs at *
    have h3 : cells.length + q ≤ 1073741824 := by omega
    have h4 : ¬ cells.length + q ≤ cells.length := by omega
    cases ex with
    | true =>
      refine ⟨σ ++ [⟨cells ++ vs, 0⟩], σ.length, ev_op fun env he => ?_, by simp, fun j _ hlt => List.getElem?_append_left hlt, .inr (Nat.le_refl _)⟩
      have e1 := evK_evalX he hx
      have e2 := evK_evalX he hy
      unfold evalOp
      rw [litOp_none (x := x) (by simp [Op.operands, Call.operands]) (by rw [e1]; rfl)]
      simp only [e1, e2, opAppend, ht, hs, hsrc, h1, if_true, hid]
      simp [growTo, hb, hz, hq0, h3, h4]
    | false =>
      refine ⟨(σ.set id ⟨cells, 2⟩) ++ [⟨cells ++ vs, 0⟩], σ.length, ev_op fun env he => ?_, by rw [List.getElem?_append_right (by simp)]; simp, fun j hj hlt => by
          rw [List.getElem?_append_left (by simpa using hlt), List.getElem?_set_ne (fun e => hj e.symm)], .inr (Nat.le_refl _)⟩
      have e1 := evK_evalX he hx
      have e2 := evK_evalX he hy
      unfold evalOp
      rw [litOp_none (x := x) (by simp [Op.operands, Call.operands]) (by rw [e1]; rfl)]
      simp only [e1, e2, opAppend, ht, hs, hsrc, h1, if_true, hid]
      simp [hb, hz, hq0, h3, h4]
/-- .. as an operation that writes only what no late load reads. -/
theorem KTZ.appC {Z : Nat → Prop} {R : List Nat → List Nat → List VObj → Kn → Prop} {t e : TypeId} {x y : Operand} {id m : Nat} {ex : Bool} {cells : List XV} {d : DV} {cs : List DV} (hg : guardK ops kn ⟨dst, .call ⟨.builtin .append, #[x, y], #[t, t]⟩, ty, pos, af, g⟩ = some true) (hd : dstOk n dst = true) (hZ : Z id)
    (hx : evK kn x = some (.osl id 0 m 1 m ex)) (hy : evK kn y = some (.d d)) (hid : σ[id]? = some ⟨cells, 0⟩) (hm : cells.length = m) (hsc : SlC d cs) (h1 : (cs.map XV.d).all oneX = true) (hlen : cells.length + cs.length ≤ 1000000)
    (ht : P.underlying t = some (.slice e)) (hs : sizeT P e = some 1) (hb : bytesT P e ≤ 65536) (hz : (zeroT P e).map (·.cells.size) = some 1)
    (h : ∀ σ' id', σ'[id']? = some ⟨cells ++ cs.map .d, 0⟩ → (∀ j, j ≠ id → j < σ.length → σ'[j]? = σ[j]?) → ((id' = id ∧ σ' = σ) ∨ σ.length ≤ id') → KTZ P n ops Z l σ' (extK dst (.osl id' 0 (m + cs.length) 1 (m + cs.length) (ex && cs.isEmpty)) kn) (fun fls gs τ k => R (2 :: fls) (2 :: gs) τ k)) :
    KTZ P n ops Z (⟨dst, .call ⟨.builtin .append, #[x, y], #[t, t]⟩, ty, pos, af, g⟩ :: l) σ kn R := by
  obtain ⟨σ', id', a1, a2, a3, a4⟩ := K.appCE (P := P) (dst := dst) (ty := ty) (pos := pos) (af := af) (g := g) hx hy hid hm hsc h1 hlen ht hs hb hz
  refine KTZ.write hg hd (fun i ob hi ho => ?_) a1 (h σ' id' a2 a3 a4)
  have hlt : i < σ.length := (List.getElem?_eq_some_iff.1 ho).1
  exact ⟨ob, (a3 i (fun e => hi (e ▸ hZ)) hlt).trans ho, rfl, Iff.rfl⟩
end
end Go.Vm
namespace Go.Vm
section
variable {P : Program} {n : Nat} {ops : Array Oper} {l : List Oper} {σ : List VObj} {kn : Kn} {dst : Option Tmp} {ty : TypeId} {pos : String} {af : Array Edge} {g : Option (Nat × Bool)}
end
/-- Slices apart from one another, made by append or as literals. -/
structure FamL (σ : List VObj) (F : List (Nat × XV × List XV)) : Prop where
  own : ∀ p ∈ F, OwnL p.1 σ p.2.1 p.2.2
  ap : F.Pairwise fun p q => ∀ id, idX p.2.1 = some id → idX q.2.1 ≠ some id
def OffL (F : List (Nat × XV × List XV)) (e : Nat) : Prop := ∀ p ∈ F, idX p.2.1 ≠ some e
theorem FamL.lt {σ : List VObj} {F : List (Nat × XV × List XV)} (h : FamL σ F) {p : Nat × XV × List XV} (hp : p ∈ F) {id : Nat} (hi : idX p.2.1 = some id) : id < σ.length := (h.own p hp).lt hi
theorem FamL.keep {σ σ' : List VObj} {F : List (Nat × XV × List XV)} (h : FamL σ F) (hk : ∀ p ∈ F, ∀ j, idX p.2.1 = some j → σ'[j]? = σ[j]?) : FamL σ' F :=
  ⟨fun p hp => (h.own p hp).keep fun j hj => hk p hp j hj, h.ap⟩
theorem FamL.push {σ : List VObj} {F : List (Nat × XV × List XV)} (h : FamL σ F) (τ : List VObj) : FamL (σ ++ τ) F := h.keep fun _ hp _ hj => List.getElem?_append_left (h.lt hp hj)
theorem FamL.off_new {σ : List VObj} {F : List (Nat × XV × List XV)} (h : FamL σ F) {e : Nat} (he : σ.length ≤ e) : OffL F e := fun p hp hi => by have := h.lt hp hi; omega
theorem FamL.put {σ σ' : List VObj} {F : List (Nat × XV × List XV)} (h : FamL σ F) {i : Nat} (hi : i < F.length) {x' : XV} {c' : List XV} (hk : ∀ j, idX F[i].2.1 ≠ some j → j < σ.length → σ'[j]? = σ[j]?)
    (ho : OwnL F[i].1 σ' x' c') (hx : ∀ j, idX x' = some j → σ.length ≤ j) : FamL σ' (F.set i (F[i].1, x', c')) ∧ ∀ e, e < σ.length → OffL F e → σ'[e]? = σ[e]? ∧ OffL (F.set i (F[i].1, x', c')) e := by
  have hmem : ∀ p ∈ F.set i (F[i].1, x', c'), p = (F[i].1, x', c') ∨ ∃ k, ∃ hk : k < F.length, k ≠ i ∧ p = F[k] := fun p hp => by
    obtain ⟨k, hk1, rfl⟩ := List.getElem_of_mem hp
    rw [List.length_set] at hk1
    rw [List.getElem_set]
    split
    · exact .inl rfl
    · rename_i hne; exact .inr ⟨k, hk1, fun e => hne e.symm, rfl⟩
  have hap := List.pairwise_iff_getElem.1 h.ap
  have apart : ∀ (a b : Nat) (ha : a < F.length) (hb : b < F.length), a ≠ b → ∀ id, idX F[a].2.1 = some id → idX F[b].2.1 ≠ some id := fun a b ha hb hab id hid e => by
    rcases Nat.lt_or_gt_of_ne hab with hlt | hlt
    · exact hap a b ha hb hlt id hid e
    · exact hap b a hb ha hlt id e hid
  refine ⟨⟨fun p hp => ?_, List.pairwise_iff_getElem.2 fun a b ha hb hab id hid => ?_⟩, fun e he hof => ⟨hk e (hof _ (List.getElem_mem hi)) he, fun p hp => ?_⟩⟩
  · rcases hmem p hp with rfl | ⟨k, hk1, hk2, rfl⟩
    · exact ho
    · exact (h.own _ (List.getElem_mem hk1)).keep fun j hj => hk j (fun e => apart k i hk1 hi hk2 j hj e) (h.lt (List.getElem_mem hk1) hj)
  · rw [List.length_set] at ha hb
    rw [List.getElem_set] at hid ⊢
    split at hid
    · simp only at hid
      have hj' := hx id hid
      rw [if_neg (by omega)]
      intro e3
      have := h.lt (List.getElem_mem hb) e3
      omega
    · split
      · simp only
        intro e
        have hj' := hx id e
        have := h.lt (List.getElem_mem ha) hid
        omega
      · exact apart a b ha hb (by omega) id hid
  · rcases hmem p hp with rfl | ⟨k, hk1, hk2, rfl⟩
    · simp only; intro e1; have := hx e e1; omega
    · exact hof _ (List.getElem_mem hk1)
end Go.Vm

end
section
/-
  EVERY ORDER: a call known by a relation, where the order is open. (No seat.)
-/
namespace Go.Vm
open Go.RowKit
section
variable {P : Program} {M : Nat → Prop} {W0 : World} {n : Nat} {ops : Array Oper} {T : List VObj → Kn → Prop} {fuel : Nat} {listed : Array Bool} {σ : List VObj} {kn : Kn}

/-- One of them next, whatever it is known by. -/
def KG (P : Program) (M : Nat → Prop) (W0 : World) (n : Nat) (ops : Array Oper) (T : List VObj → Kn → Prop) (fuel : Nat) (listed : Array Bool) (σ : List VObj) (kn : Kn) (i : Nat) : Prop :=
  ∀ env, Agree kn env → ∀ (C : Ctx) (ι : List Nat) (a : Act) (w : World), Fr M W0 C n ι ⟨σ, env⟩ a w → ∀ Q : Exit → Act → World → Prop,
    (∀ (ι' : List Nat) (s' : St) (kn' : Kn) (a' : Act) (w' : World), T s'.σ kn' → Agree kn' s'.env → Fr M W0 C n ι' s' a' w' → Ext M ι σ w ι' s'.σ w' → Q .normal a' w') →
    wpOpIn (FR C.ro) 0 P ops Q i (wpAnyIn (FR C.ro) 0 P .any ops Q fuel (listed.setIfInBounds i true)) a w

theorem KA.nextG {i0 : Nat} {r : List Nat} (hr : Region.ready .any ops listed = i0 :: r) (h : KAll (KG P M W0 n ops T fuel listed σ kn) (i0 :: r)) : KA P M W0 n ops T (fuel + 1) listed σ kn := by
  intro env ha C ι a w hf Q hq
  refine ⟨fun h0 => by rw [hr] at h0; simp at h0, fun i hi => ?_⟩
  rw [hr] at hi
  exact h.mem i hi env ha C ι a w hf Q hq

theorem KO.kg {i : Nat} (h : KO P M W0 n ops T fuel listed σ kn i) : KG P M W0 n ops T fuel listed σ kn i := by
  intro env ha C ι a w hf Q hq
  obtain ⟨o, x, σ', fl, ho, hg, hd, he, hk⟩ := h
  unfold wpOpIn
  rw [ho]
  simp only
  rw [if_pos (by rw [guardX_sound hf.env (guardK_X ha hg)])]
  refine (he env ha).wp hf.mem hf.env fun ι' v w' h1 h2 h3 => ?_
  exact hk (putE env o.dst x) (ha.ext o.dst x) C ι' _ w' (hf.put hd h1 h2 h3) Q fun ι'' s' kn' a' w'' k0 k1 k2 k3 => hq ι'' s' kn' a' w'' k0 k1 k2 (h2.trans k3)

theorem KG.op {i : Nat} {o : Oper} {x : XV} {σ' : List VObj} {fl : Nat} (ho : ops[i]? = some o) (hg : guardK ops kn o = some true) (hd : dstOk n o.dst = true) (he : KEv P o σ kn x σ' fl)
    (h : KA P M W0 n ops T fuel (listed.setIfInBounds i true) σ' (extK o.dst x kn)) : KG P M W0 n ops T fuel listed σ kn i := KO.kg ⟨o, x, σ', fl, ho, hg, hd, he, h⟩

/-- A call among the caller's objects, known by a relation. -/
theorem KG.call {i : Nat} {c : Operand} {v : XV} {args : Array Operand} {ts : Array TypeId} {f : FuncId} {first caps xs : List XV} {R : List VObj → XV → Prop} {dst : Option Tmp} {ty : TypeId} {pos : String} {af : Array Edge} {g : Option (Nat × Bool)}
    (ho : ops[i]? = some ⟨dst, .call ⟨.value c, args, ts⟩, ty, pos, af, g⟩) (hg : guardK ops kn ⟨dst, .call ⟨.value c, args, ts⟩, ty, pos, af, g⟩ = some true) (hd : dstOk n dst = true) (hv : evK kn c = some v) (hf : asFn v = some (f, first, caps))
    (ha : args.toList.mapM (evK kn) = some xs) (hp : plainFn P f = true) (hc : InCall P M W0 f σ (first ++ xs ++ caps) R)
    (h : ∀ σ' x, R σ' x → KA P M W0 n ops T fuel (listed.setIfInBounds i true) σ' (extK dst x kn)) : KG P M W0 n ops T fuel listed σ kn i := by
  intro env hA C ι a w hfr Q hq
  unfold wpOpIn
  rw [ho]
  simp only
  rw [if_pos (by rw [guardX_sound hfr.env (guardK_X hA hg)])]
  have hf2 : asFn (evalX env c) = some (f, first, caps) := by rw [evK_evalX hA hv]; exact hf
  obtain ⟨vs, us, e1, e2, e3, e4, e5⟩ := asFn_rep (evalX_rep hfr.env c) hf2
  obtain ⟨a1, a2⟩ := args_rep (args := args) hfr.env e2 e3 e4 e5
  refine ⟨fun _ _ => trivial, ?_⟩
  rw [semAt_of (call_run rfl e1 hp) (by simp)]
  refine ⟨fun h => Bool.noConfusion (show false = true from h), callsIn_FR ?_⟩
  rw [mapM_evK hA ha] at a1 a2
  have hcall := hc ι w (vs ++ args.map a.eval ++ us).toList hfr.mem a1 a2
  rw [Array.toArray_toList] at hcall
  refine hcall.mono fun e w' => ?_
  rintro ⟨ι', σ2, x2, v2, rfl, h1, h2, h3, hR⟩
  exact h σ2 x2 hR (putE env dst x2) (hA.ext dst x2) C ι' _ w' (hfr.put hd h1 h2 h3) Q fun ι'' s' kn' a' w'' k0 k1 k2 k3 => hq ι'' s' kn' a' w'' k0 k1 k2 (h2.trans k3)

/-- What is known may be told in another order. -/
theorem KA.weaken {kn' : Kn} (h : KA P M W0 n ops T fuel listed σ kn') (hk : ∀ p ∈ kn', look kn p.1 = some p.2) : KA P M W0 n ops T fuel listed σ kn := fun env he => h env (he.weaken hk)
end
end Go.Vm

end
section
/-
  clear of a slice of the call's own.
-/
namespace Go.Vm
open Go.RowKit
section
variable {P : Program} {σ : List VObj} {kn : Kn} {dst : Option Tmp} {ty : TypeId} {pos : String} {af : Array Edge} {g : Option (Nat × Bool)}
theorem K.clearO {x : Operand} {ts : Array TypeId} {t e : TypeId} {id off len k lo : Nat} {ex : Bool} {ob : VObj} {z : Value} (hx : evK kn x = some (.osl id off len k lo ex)) (h0 : ts[0]? = some t) (ht : P.underlying t = some (.slice e)) (hz : zeroT P e = some z) (hk : z.cells.size = k)
    (h1 : (zeroRow z (len * k)).all oneX = true) (ho : σ[id]? = some ob) (hm : ob.mode = 0) (hf : off + len * k ≤ ob.cells.length) (hl : 0 < len) :
    KEv P ⟨dst, .call ⟨.builtin .clear, #[x], ts⟩, ty, pos, af, g⟩ σ kn (.tup []) (σ.set id ⟨splice ob.cells off (zeroRow z (len * k)), 0⟩) 2 := by
  refine K.semW fun env he M W0 ι w ev hM h => ?_
  have hv := h x (by simp [Op.operands, Call.operands])
  rw [evK_evalX he hx] at hv
  obtain ⟨vx, hvx⟩ : ∃ v, ev x = v := ⟨_, rfl⟩
  rw [hvx] at hv
  cases hv with
  | @osl b _ _ cap _ _ _ _ hb hl2 hlo hex hsz =>
  obtain ⟨cur, et, q1, q2, hcs⟩ := hM.cells ho hb (by omega)
  obtain ⟨ti, hi, hzi⟩ := info_of_zero hz
  have hvr : ∀ (i : Nat) (v : Value) (x : XV), (Builtin.zeroCells z.cells len).toList[i]? = some v → (zeroRow z (len * k))[i]? = some x → XRep w ι (Forb M ι σ) v x := fun i v x a1 a2 => by
    obtain ⟨v2, b1, rfl⟩ := range_map_get _ _ _ _ a2
    subst hk
    unfold Builtin.zeroCells at a1
    rw [Array.getElem?_toList, b1] at a1
    cases a1
    exact .d (.lit _)
  have hzl : (Builtin.zeroCells z.cells len).toList.length = len * k := by simp [Builtin.zeroCells, hk]
  have hrl : (zeroRow z (len * k)).length = len * k := by simp [zeroRow]
  obtain ⟨w1, w2⟩ := hM.write ho hb hm q1 off (Builtin.zeroCells z.cells len).toList (zeroRow z (len * k)) (by omega) (by omega) hvr
  refine ⟨ι, _, .tuple #[], .inl ?_, w1, w2, .tup rfl fun i v x a => by simp at a⟩
  have h1s := ones (by omega) hvr h1
  have hst := run_storeCells_at P b off et (Builtin.zeroCells z.cells len).toList 0 cur w q1 (by simp only [Nat.add_zero]; omega) h1s
  simp only [Nat.add_zero] at hst
  have hz2 : ∀ w : World, (zeroValue e).run P w = .ok z w := fun w => by simp [zeroValue, typeInfo, hi, hzi]
  obtain ⟨m, rfl⟩ : ∃ m, len = m + 1 := ⟨len - 1, by omega⟩
  simp [execOp, resolve, invoke, builtin, hvx, Builtin.clear_, h0, run_underlying ht, hz2, hst, splice]
/-- A call that only reads own objects and gives a plain value. -/
theorem ownCall_of_deep {P : Program} {f : FuncId} {σ : List VObj} {args : List XV} {dargs : List DV} {u : Value} (ids : List Nat) (n : Nat) (hd : args.mapM (deepen (freezeIds σ ids) n) = some dargs) (hc : DeepCall P f dargs (.lit u)) : OwnCall P f σ args σ (.d (.lit u)) := by
  intro M W0 ι w vs hm hl hx
  obtain ⟨f1, f2⟩ := freezeIds_tamed hm ids
  obtain ⟨d1, d2⟩ := mapM_get hd
  have hcall := hc (Forb M ι (freezeIds σ ids)) w vs f1.forb_lt (by rw [hl, d1]) (fun i v x hv hx2 => by
    have hlt : i < args.length := by rw [d1]; exact (List.getElem?_eq_some_iff.1 hx2).1
    exact deepen_sound f1 n v _ x ((hx i v _ hv (List.getElem?_eq_getElem hlt)).ext f2) (d2 i _ x (List.getElem?_eq_getElem hlt) hx2))
  refine hcall.mono fun e w' => ?_
  rintro ⟨v, rfl, h1, h2⟩
  obtain ⟨g1, g2⟩ := hm.grown h2
  cases h1
  exact ⟨ι, σ, _, _, rfl, g1, g2, .d (.lit _), rfl, rfl⟩
end
end Go.Vm

end
section
/-
  Pure: the order of markings, rising lists, and putting one in.
-/
namespace Go.Nt
open Go

/-- The order of lists: by the first numbers that differ; a part comes before the whole. -/
def cmpL : List Int → List Int → Int
  | [], [] => 0
  | [], _ :: _ => -1
  | _ :: _, [] => 1
  | x :: xs, y :: ys => if Lib.compareInt x y = 0 then cmpL xs ys else Lib.compareInt x y

theorem cmpI_lt {x y : Int} : Lib.compareInt x y < 0 ↔ x < y := by unfold Lib.compareInt; (repeat' split) <;> omega
theorem cmpI_zero {x y : Int} : Lib.compareInt x y = 0 ↔ x = y := by unfold Lib.compareInt; (repeat' split) <;> omega
theorem cmpI_neg (x y : Int) : Lib.compareInt y x = - Lib.compareInt x y := by unfold Lib.compareInt; (repeat' split) <;> omega

theorem cmpL_self : ∀ a : List Int, cmpL a a = 0
  | [] => rfl
  | x :: a => by rw [cmpL, if_pos (cmpI_zero.2 rfl)]; exact cmpL_self a

theorem cmpL_neg : ∀ a b : List Int, cmpL b a = - cmpL a b
  | [], [] => rfl
  | [], _ :: _ => rfl
  | _ :: _, [] => rfl
  | x :: a, y :: b => by
    rw [cmpL, cmpL, cmpI_neg x y]
    by_cases h : Lib.compareInt x y = 0
    · rw [if_pos (by omega), if_pos h]; exact cmpL_neg a b
    · rw [if_neg (by omega), if_neg h]

theorem cmpL_zero : ∀ {a b : List Int}, cmpL a b = 0 → a = b
  | [], [], _ => rfl
  | [], _ :: _, h => by simp [cmpL] at h
  | _ :: _, [], h => by simp [cmpL] at h
  | x :: a, y :: b, h => by
    rw [cmpL] at h
    by_cases e : Lib.compareInt x y = 0
    · rw [if_pos e] at h; rw [cmpI_zero.1 e, cmpL_zero h]
    · rw [if_neg e] at h; exact absurd h e

theorem cmpL_trans : ∀ {a b c : List Int}, cmpL a b < 0 → cmpL b c < 0 → cmpL a c < 0
  | [], [], _, h, _ => by simp [cmpL] at h
  | [], _ :: _, [], _, h => by simp [cmpL] at h
  | [], _ :: _, _ :: _, _, _ => by simp [cmpL]
  | _ :: _, [], _, h, _ => by simp [cmpL] at h
  | _ :: _, _ :: _, [], _, h => by simp [cmpL] at h
  | x :: a, y :: b, z :: c, h1, h2 => by
    rw [cmpL] at h1 h2 ⊢
    by_cases e : Lib.compareInt x y = 0
    · obtain rfl := cmpI_zero.1 e
      rw [if_pos e] at h1
      by_cases f : Lib.compareInt x z = 0
      · rw [if_pos f] at h2 ⊢; exact cmpL_trans h1 h2
      · rw [if_neg f] at h2 ⊢; exact h2
    · rw [if_neg e] at h1
      have h3 := cmpI_lt.1 h1
      by_cases f : Lib.compareInt y z = 0
      · obtain rfl := cmpI_zero.1 f
        rw [if_neg e]; exact h1
      · rw [if_neg f] at h2
        have h4 := cmpI_lt.1 h2
        have h5 : Lib.compareInt x z < 0 := cmpI_lt.2 (by omega)
        rw [if_neg (by omega)]; exact h5

theorem cmpL_ntrans {a b c : List Int} (h1 : ¬ cmpL a b < 0) (h2 : ¬ cmpL b c < 0) : ¬ cmpL a c < 0 := by
  have e1 := cmpL_neg a b
  have e2 := cmpL_neg b c
  have e3 := cmpL_neg a c
  by_cases h3 : cmpL a b = 0
  · rw [cmpL_zero h3]; exact h2
  · by_cases h4 : cmpL b c = 0
    · rw [← cmpL_zero h4]; exact h1
    · have := cmpL_trans (a := c) (b := b) (c := a) (by omega) (by omega)
      omega

theorem cmpL_lt_of {a b : List Int} (h : ¬ cmpL a b < 0) (hn : a ≠ b) : cmpL b a < 0 := by
  have e1 := cmpL_neg a b
  have : cmpL a b ≠ 0 := fun e => hn (cmpL_zero e)
  omega

/-- Rising: each comes before all later ones. -/
def Rising (l : List (List Int)) : Prop := l.Pairwise fun a b => cmpL a b < 0

theorem rising_uniq : ∀ {l r : List (List Int)}, l.Perm r → l.Pairwise (fun a b => ¬ cmpL b a < 0) → Rising r → l = r
  | [], r, h, _, _ => by have := h.length_eq; cases r with | nil => rfl | cons => simp at this
  | x :: l, [], h, _, _ => by have := h.length_eq; simp at this
  | x :: l, y :: r, h, h1, h2 => by
    have e : x = y := by
      by_cases e : x = y
      · exact e
      exfalso
      have hx : x ∈ r := by have := h.subset (List.mem_cons_self (a := x) (l := l)); rcases List.mem_cons.1 this with rfl | h; exact absurd rfl e; exact h
      have hy : y ∈ l := by have := h.symm.subset (List.mem_cons_self (a := y) (l := r)); rcases List.mem_cons.1 this with rfl | h; exact absurd rfl e; exact h
      have a1 := (List.pairwise_cons.1 h1).1 y hy
      have a2 := (List.pairwise_cons.1 h2).1 x hx
      exact a1 a2
    subst e
    rw [rising_uniq (List.perm_cons x |>.1 h) (List.pairwise_cons.1 h1).2 (List.pairwise_cons.1 h2).2]

/-- A marking put into a rising list, if it is not there. -/
def putM : List (List Int) → List Int → List (List Int)
  | [], m => [m]
  | x :: l, m => if cmpL x m < 0 then x :: putM l m else if x = m then x :: l else m :: x :: l

theorem putM_perm : ∀ {l : List (List Int)} {m : List Int}, Rising l → m ∉ l → (putM l m).Perm (m :: l)
  | [], m, _, _ => List.Perm.refl _
  | x :: l, m, h, hn => by
    rw [putM]
    split
    · exact ((putM_perm (List.pairwise_cons.1 h).2 (fun e => hn (List.mem_cons_of_mem _ e))).cons x).trans (List.Perm.swap _ _ _)
    · split
      · rename_i e; exact absurd (e ▸ List.mem_cons_self) hn
      · exact List.Perm.refl _

theorem putM_mem : ∀ {l : List (List Int)} {m x : List Int}, x ∈ putM l m → x = m ∨ x ∈ l
  | [], m, x, h => by simp [putM] at h; exact .inl h
  | y :: l, m, x, h => by
    rw [putM] at h
    split at h
    · rcases List.mem_cons.1 h with rfl | h
      · exact .inr List.mem_cons_self
      · exact (putM_mem h).imp id (List.mem_cons_of_mem _)
    · split at h
      · exact .inr h
      · exact (List.mem_cons.1 h)

theorem putM_rising : ∀ {l : List (List Int)} {m : List Int}, Rising l → Rising (putM l m)
  | [], m, _ => by simp [putM, Rising]
  | x :: l, m, h => by
    obtain ⟨h1, h2⟩ := List.pairwise_cons.1 h
    rw [putM]
    split
    · rename_i e
      refine List.pairwise_cons.2 ⟨fun y hy => ?_, putM_rising h2⟩
      rcases putM_mem hy with rfl | hy
      · exact e
      · exact h1 y hy
    · rename_i e
      split
      · exact h
      · rename_i e2
        have h3 : cmpL m x < 0 := cmpL_lt_of e e2
        refine List.pairwise_cons.2 ⟨fun y hy => ?_, h⟩
        rcases List.mem_cons.1 hy with rfl | hy
        · exact h3
        · exact cmpL_trans h3 (h1 y hy)

/-- All of a list, rising. -/
def sortM (l : List (List Int)) : List (List Int) := l.foldl putM []

theorem sort_aux : ∀ (l acc : List (List Int)), Rising acc → (acc ++ l).Nodup → Rising (l.foldl putM acc) ∧ (l.foldl putM acc).Perm (acc ++ l)
  | [], acc, h, _ => ⟨h, by simp⟩
  | m :: l, acc, h, hn => by
    have hm : m ∉ acc := fun e => (List.nodup_append.1 hn).2.2 m e m List.mem_cons_self rfl
    have hp := putM_perm h hm
    have hp2 : (putM acc m ++ l).Perm (acc ++ m :: l) := (hp.append_right l).trans List.perm_middle.symm
    obtain ⟨a, b⟩ := sort_aux l (putM acc m) (putM_rising h) (hp2.symm.nodup hn)
    exact ⟨a, b.trans hp2⟩

theorem sortM_rising {l : List (List Int)} (h : l.Nodup) : Rising (sortM l) := (sort_aux l [] List.Pairwise.nil (by simpa using h)).1
theorem sortM_perm {l : List (List Int)} (h : l.Nodup) : (sortM l).Perm l := by simpa [sortM] using (sort_aux l [] List.Pairwise.nil (by simpa using h)).2
theorem sortM_len {l : List (List Int)} (h : l.Nodup) : (sortM l).length = l.length := (sortM_perm h).length_eq
theorem sortM_mem {l : List (List Int)} {x : List Int} (h : x ∈ sortM l) : x ∈ l := by
  have : ∀ (l acc : List (List Int)), x ∈ l.foldl putM acc → x ∈ acc ∨ x ∈ l := by
    intro l
    induction l with
    | nil => intro acc h; exact .inl h
    | cons m l ih =>
      intro acc h
      rcases ih _ h with h | h
      · rcases putM_mem h with rfl | h
        · exact .inr List.mem_cons_self
        · exact .inl h
      · exact .inr (List.mem_cons_of_mem _ h)
  rcases this l [] h with h | h
  · simp at h
  · exact h

theorem sortM_uniq {l zs : List (List Int)} (hn : l.Nodup) (hp : zs.Perm l) (hs : zs.Pairwise fun a b => ¬ cmpL b a < 0) : zs = sortM l :=
  rising_uniq (hp.trans (sortM_perm hn).symm) hs (sortM_rising hn)

end Go.Nt

end
section
/-
  VALUES WITHOUT ADDRESSES: slices.SortFunc on a slice of the call's own whose elements are deep values of one cell: the library's contract, told among objects.
-/
namespace Go.Vm
open Go.RowKit Go.Sort Go.Shelf Go.Proofs

/-- A call that only reads: its arguments are deep values, what it returns is plain; it may draw, and it turns nothing. -/
def ReadCall (P : Program) (f : FuncId) (args : List DV) (v : Value) : Prop :=
  ∀ (M : Nat → Prop) (w : World) (vs : List Value), vs.length = args.length → (∀ (i : Nat) (u : Value) (x : DV), vs[i]? = some u → args[i]? = some x → DRep w M u x) →
    Calls P f vs.toArray w fun e w' => e = .returned v ∧ ∃ q, w' = w.drewN q

section
variable {P : Program} {ρ : Ren}

/-- SORTFUNC. -/
theorem sortF_own (Ly : SlLaysF.n6 P ρ) {g : Nat} (eg : ∀ args w, (callFunc g args).run P w = .ok (.enter g args) w) {cf : DV → DV → Int} {x0 : DV} {v0 : Value} (h0 : ∀ w M, DRep w M v0 x0)
    {σ : List VObj} {id lo : Nat} {ex : Bool} {xs ys : List DV} {rest : List XV} (ho : σ[id]? = some ⟨xs.map XV.d ++ rest, 0⟩) (hn : xs.length < 4611686018427387904)
    (h1 : ∀ x, x ∈ x0 :: xs → ∀ w M v, DRep w M v x → v.oneCell' = true)
    (hc : ∀ x, x ∈ x0 :: xs → ∀ y, y ∈ x0 :: xs → ReadCall P g [x, y] (.int .i64 (cf x y)))
    (hi : ∀ x, x ∈ x0 :: xs → ¬ cf x x < 0) (ht : ∀ x, x ∈ x0 :: xs → ∀ y, y ∈ x0 :: xs → ∀ z, z ∈ x0 :: xs → cf x y < 0 → cf y z < 0 → cf x z < 0)
    (hnt : ∀ x, x ∈ x0 :: xs → ∀ y, y ∈ x0 :: xs → ∀ z, z ∈ x0 :: xs → ¬ cf x y < 0 → ¬ cf y z < 0 → ¬ cf x z < 0)
    (hu : ∀ zs : List DV, zs.Perm xs → zs.Pairwise (fun a b => ¬ cf b a < 0) → zs = ys) :
    OwnCall P (ρ.f 6) σ [.osl id 0 xs.length 1 lo ex, .d (.fn (.func g) [] [])] (σ.set id ⟨ys.map XV.d ++ rest, 0⟩) (.d (.lit (.tuple #[]))) := by
  intro M W0 ι w vs hm hl hx
  match vs, hl with
  | [u0, u1], _ =>
  have r0 := hx 0 u0 _ rfl rfl
  have r1 := hx 1 u1 _ rfl rfl
  cases r1 with | d r1 =>
  cases r1 with
  | @fn _ fv fu _ _ hn1 _ hm1 _ =>
  obtain rfl : fv = #[] := Array.eq_empty_of_size_eq_zero hn1
  obtain rfl : fu = #[] := Array.eq_empty_of_size_eq_zero hm1
  cases r0 with
  | @osl b off len cap _ _ _ _ hb hl' hlo hex hs =>
  obtain ⟨cur, ty, k1, k2, k3⟩ := hm.objs id _ b ho hb (by simp)
  simp only [List.length_append, List.length_map] at k2
  obtain ⟨n, en⟩ : ∃ n, n = xs.length := ⟨_, rfl⟩
  obtain ⟨enc, henc⟩ : ∃ enc : Nat → Value, enc = fun i => if i < n then (cur[i]?).getD v0 else v0 := ⟨_, rfl⟩
  obtain ⟨X, hX⟩ : ∃ X : Nat → DV, X = fun i => (xs[i]?).getD x0 := ⟨_, rfl⟩
  have hmem : ∀ i, X i ∈ x0 :: xs := fun i => by
    subst hX
    rcases e : xs[i]? with _ | x
    · simp [e]
    · simp only [e, Option.getD_some]; exact List.mem_cons_of_mem _ (List.mem_of_getElem? e)
  have hrep : ∀ i, DRep w (Forb M ι σ) (enc i) (X i) := fun i => by
    subst hX henc
    by_cases h : i < n
    · obtain ⟨v, e1, e2⟩ := k3 i (.d (xs[i]'(by omega))) (by rw [List.getElem?_append_left (by simp; omega)]; simp [show i < xs.length by omega])
      cases e2 with | d e2 =>
      simp only [if_pos h, e1, Option.getD_some, List.getElem?_eq_getElem (show i < xs.length by omega)]
      exact e2
    · simp only [if_neg h, List.getElem?_eq_none (show xs.length ≤ i by omega), Option.getD_none]
      exact h0 _ _
  have hcell : ∀ i, i < n → cur[i]? = some (enc i) := fun i h => by
    subst henc
    have : i < cur.size := by omega
    simp [h, this]
  have hd : (Array.range n).size = n := by simp
  have hge : ∀ i, i < n → (Array.range n)[i]! = i := fun i h => by rw [getElem!_pos _ i (by simpa using h)]; simp
  have hH : Holds enc w b 0 (Array.range n) := fun j hj => by
    rw [hd] at hj
    refine ⟨?_, by simp [World.frozen?, k1]⟩
    rw [hge j hj]
    simp [World.cell?, k1, hcell j hj]
  have hmut : Forb M ι σ b := .inr ⟨id, _, ho, hb, .inl rfl⟩
  have hW : ∀ (m : Nat) (os : Array Obj) (dk : Array Nat), ∀ c, c < w.heap.size → ¬ Forb M ι σ c → (sortWorld enc w b 0 m dk os).heap[c]? = w.heap[c]? := fun m os dk c h1 h2 => by
    have hne : b ≠ c := fun e => h2 (e ▸ hmut)
    show ((putRow enc (Sort.ahead w m) b 0 dk).heap ++ os)[c]? = _
    have hsz : (putRow enc (Sort.ahead w m) b 0 dk).heap.size = w.heap.size := by simp [putRow, mapBlock, Sort.ahead]
    rw [Array.getElem?_append_left (by rw [hsz]; exact h1)]
    show ((w.heap.modify b (onCells _)))[c]? = _
    rw [Array.getElem?_modify, if_neg hne]
  have hcmp : CmpLays1 P g #[] enc (fun i j => cf (X i) (X j)) b 0 (Array.range n).size w := fun m os dk _ i j => by
    have := hc (X i) (hmem i) (X j) (hmem j) (Forb M ι σ) (sortWorld enc w b 0 m dk os) [enc i, enc j] rfl (fun k u x hu hx => by
      match k with
      | 0 => simp only [List.getElem?_cons_zero, Option.some.injEq] at hu hx; subst hu hx; exact (hrep i).ext (hW m os dk) (fun _ _ h => h)
      | 1 => simp only [List.getElem?_cons_succ, List.getElem?_cons_zero, Option.some.injEq] at hu hx; subst hu hx; exact (hrep j).ext (hW m os dk) (fun _ _ h => h)
      | k + 2 => simp at hu)
    refine (show Calls P g (#[enc i, enc j] ++ #[]) _ _ from by simpa using this.mono fun e w' ⟨h1, q, h2⟩ => (⟨h1, q, #[], by rw [h2, grow_empty]⟩ : e = .returned (.int .i64 (cf (X i) (X j))) ∧ ∃ q os', w' = grow ((sortWorld enc w b 0 m dk os).drewN q) os'))
  have hO : SWO (ltOf fun i j => cf (X i) (X j)) := ⟨fun i => by simpa [ltOf] using hi _ (hmem i), fun i j k h1 h2 => by simp only [ltOf, decide_eq_true_eq] at *; exact ht _ (hmem i) _ (hmem j) _ (hmem k) h1 h2,
    fun i j k h1 h2 => by simp only [ltOf, decide_eq_false_iff_not] at *; exact hnt _ (hmem i) _ (hmem j) _ (hmem k) h1 h2⟩
  have hcall := Any.slices_SortFunc Ly enc (fun i => h1 _ (hmem i) _ _ _ (hrep i)) (fun i j => cf (X i) (X j)) hO g #[] b 0 cap (Array.range n) w eg hcmp hH (hm.fresh _ _ hb).2 (by simp; omega)
  rw [hd] at hcall
  rw [← en]
  refine hcall.mono fun e w' => ?_
  rintro ⟨rfl, d', m, os, hp, hs', rfl⟩
  -- what it holds
  have hs2 : d'.size = n := by rw [hp.1, hd]
  have hperm : d'.toList.Perm (List.range n) := by
    have := hp.2.2
    have e1 : d'.extract 0 n = d' := by rw [← hs2]; exact Array.extract_size
    have e2 : (Array.range n).extract 0 n = Array.range n := by have := Array.extract_size (xs := Array.range n); rwa [hd] at this
    rw [e1, e2] at this
    simpa using this
  have hys : d'.toList.map X = ys := by
    refine hu _ ?_ ?_
    · have h2 := hperm.map X
      have h3 : (List.range n).map X = xs := by
        subst hX
        refine List.ext_getElem? fun i => ?_
        by_cases h : i < n
        · rw [List.getElem?_map, List.getElem?_range h, Option.map_some, List.getElem?_eq_getElem (by omega), Option.getD_some]
        · rw [List.getElem?_eq_none (by simp; omega), List.getElem?_eq_none (by omega)]
      rwa [h3] at h2
    · rw [List.pairwise_map, List.pairwise_iff_getElem]
      intro i j h1 h2 h3
      simp only [Array.length_toList] at h1 h2
      have := hs' i j (Nat.zero_le _) h3 (by omega)
      rw [getElem!_pos d' i h1, getElem!_pos d' j h2] at this
      simpa [ltOf] using this
  have hlen : ys.length = n := by rw [← hys]; simp [hs2]
  have hb1 : Below w.heap.size w (Sort.ahead w m) := ⟨rfl, rfl, rfl, Nat.le_refl _, fun _ _ => rfl⟩
  obtain ⟨m1, x1⟩ := hm.grown hb1
  have hw := m1.write ho hb rfl (cur := cur) (ty := ty) k1 0 (d'.toList.map enc) (ys.map XV.d) (by simp [hlen, hs2]) (by simp [hlen]; omega) (fun i v x hv hx => by
    rw [← hys] at hx
    simp only [List.getElem?_map, Option.map_eq_some_iff] at hv hx
    obtain ⟨z, hz, rfl⟩ := hv
    obtain ⟨_, ⟨z', hz', rfl⟩, rfl⟩ := hx
    rw [hz] at hz'; cases hz'
    exact .d ((hrep z).ext (fun _ _ _ => rfl) (fun _ _ h => h)))
  have e1 : splice (xs.map XV.d ++ rest) 0 (ys.map XV.d) = ys.map XV.d ++ rest := by
    unfold splice
    rw [List.take_zero, List.nil_append, Nat.zero_add, List.length_map, hlen, List.drop_append_of_le_length (by simp; omega), List.drop_of_length_le (by simp; omega), List.nil_append]
  have e2 : putRow enc (Sort.ahead w m) b 0 d' = (Sort.ahead w m).setRow b (splice cur.toList 0 (d'.toList.map enc)).toArray := by
    unfold putRow
    rw [setRow_eq_mapBlock (Sort.ahead w m) b _ (show (Sort.ahead w m).heap[b]? = _ from k1)]
    congr 1
    apply Array.ext_getElem?
    intro i
    conv => rhs; rw [List.getElem?_toArray, getElem?_splice _ _ _ (by simp [hs2]; omega)]
    simp only [putCells, Array.getElem?_mapIdx, Nat.zero_add, Nat.sub_zero, Nat.zero_le, true_and, List.length_map, Array.length_toList, Array.getElem?_toList]
    by_cases h : i < n
    · have hc : i < cur.size := by omega
      rw [Array.getElem?_eq_getElem hc, Option.map_some, if_pos (by rw [hs2]; exact h), if_pos (by rw [hs2]; exact h)]
      rw [List.getElem?_map, Array.getElem?_toList, Array.getElem?_eq_getElem (by omega), Option.map_some]
      congr 2
      rw [getElem!_pos d' i (by omega)]
    · rw [if_neg (by rw [hs2]; exact h)]
      cases cur[i]? with
      | none => rfl
      | some v => rw [Option.map_some, if_neg (by rw [hs2]; exact h)]
  rw [e1, ← e2] at hw
  obtain ⟨m2, x2⟩ := hw
  have hb3 : Below (putRow enc (Sort.ahead w m) b 0 d').heap.size (putRow enc (Sort.ahead w m) b 0 d') (grow (putRow enc (Sort.ahead w m) b 0 d') os) :=
    ⟨rfl, rfl, rfl, by simp, fun k hk => by simp only [grow]; exact Array.getElem?_append_left hk⟩
  obtain ⟨m3, x3⟩ := m2.grown hb3
  exact ⟨ι, _, _, _, rfl, m3, x1.trans (x2.trans x3), .d (.lit _), rfl, rfl⟩
end
end Go.Vm

end
section
/-
  append of deep values to a deep slice without room: what is made is hidden.
-/
namespace Go.Vm
open Go.RowKit
section
variable {P : Program} {σ : List VObj} {kn : Kn} {dst : Option Tmp} {ty : TypeId} {pos : String} {af : Array Edge} {g : Option (Nat × Bool)}
/-- s[:n:n] of a slice of n cells. -/
theorem K.cut3 {x h m : Operand} {t e : TypeId} {cs : List DV} {len : Nat} {cap : Option Nat} (hx : evK kn x = some (.d (.sl cs len cap))) (hh : evK kn h = some (.d (DI len))) (hm : evK kn m = some (.d (DI len))) (hn : cs.length = len)
    (ht : P.underlying t = some (.slice e)) (hs : sizeT P e = some 1) : KEv P ⟨dst, .slice t x none (some h) (some m), ty, pos, af, g⟩ σ kn (.d (.sl cs len (some len))) σ 0 := ev_op fun env he => by
  have e1 := evK_evalX he hx
  have e2 := evK_evalX he hh
  have e3 := evK_evalX he hm
  unfold evalOp
  rw [litOp_none (x := x) (by simp [Op.operands]) (by rw [e1]; rfl)]
  subst hn
  simp [e1, e2, e3, opSlice, ht, hs, boundOf, litOf, DI]
theorem K.appHid {x y : Operand} {t e : TypeId} {cs : List DV} {dv : DV} {len : Nat} {cap : Option Nat} {z : Value} (hx : evK kn x = some (.d (.sl cs len (some len)))) (hy : evK kn y = some (.d (.sl [dv] 1 cap))) (hn : cs.length = len) (h1v : ∀ d ∈ cs ++ [dv], oneX (.d d) = true) (hlen : len < 1073741823)
    (ht : P.underlying t = some (.slice e)) (h1 : OneT P e z) : KEv P ⟨dst, .call ⟨.builtin .append, #[x, y], #[t, t]⟩, ty, pos, af, g⟩ σ kn (.d (.sl (cs ++ [dv]) (len + 1) none)) σ 0 := fun env he => by
  refine .hid (s := ⟨σ, env⟩) fun F ι w ev hF h => ?_
  have hz : (zeroT P e).map (·.cells.size) = some 1 := by rw [h1.zero]; simp [h1.cells]
  have hvx := h x (by simp [Op.operands, Call.operands])
  have hvy := h y (by simp [Op.operands, Call.operands])
  rw [evK_evalX he hx] at hvx
  rw [evK_evalX he hy] at hvy
  obtain ⟨vx, ex⟩ : ∃ v, ev x = v := ⟨_, rfl⟩
  obtain ⟨vy, ey⟩ : ∃ v, ev y = v := ⟨_, rfl⟩
  rw [ex] at hvx
  rw [ey] at hvy
  have hm := Mem.start F w hF
  subst hn
  have hx1 : XRep w [] (Forb F [] []) vx (.d (.sl cs cs.length (some cs.length))) := by
    cases hvx with
    | d hh => exact .d (hh.mono (forb_nil F))
  have hy1 : XRep w [] (Forb F [] []) vy (.d (.sl [dv] 1 cap)) := by
    cases hvy with
    | d hh => exact .d (hh.mono (forb_nil F))
  have hop : opAppend P [] #[t, t] (.d (.sl cs cs.length (some cs.length))) (.d (.sl [dv] 1 cap)) = some (.osl 0 0 (cs.length + 1) 1 (cs.length + 1) false, [⟨(cs ++ [dv]).map .d, 0⟩]) := by
    have h3 : cs.length + 1 ≤ 1073741824 := by omega
    have h4 := h1v dv (by simp)
    simp [opAppend, ht, h1.size, srcCells, growTo, h1.bytes, hz, h3, h4]
  obtain ⟨ι', w', v, k1, k2, k3, k4⟩ := opAppend_sound (P := P) (ty := ty) hm hx1 hy1 hop
  obtain ⟨f1, f2⟩ := freezeAll_tamed k2
  have hdd := deepen_sound f1 9 v _ (.sl (cs ++ [dv]) (cs.length + 1) none) (k4.ext f2) (by
    rw [deepen_osl (ob := ⟨(cs ++ [dv]).map .d, 1⟩) rfl rfl (by simp), List.drop_zero, List.take_of_length_le (by simp), mapM_deep]; rfl)
  refine ⟨v, w', ?_, k2.below, hdd.mono fun b hb => .inl hb⟩
  simp [execOp, resolve, invoke, builtin, ex, ey, k1]
end
end Go.Vm

end
