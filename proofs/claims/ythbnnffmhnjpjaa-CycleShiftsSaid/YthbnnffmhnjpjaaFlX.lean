import Derived.Test.YthbnnffmhnjpjaaFlW
import Derived.Scope
/-
  Scopes with a label that nothing jumps to.
-/
namespace Go.Vm
open Go.Fl
section
variable {P : Program} {M : Nat → Prop} {W0 : World} {n : Nat} {σ : List VObj} {kn : Kn}
def noGotoK (T : Exit → List VObj → Kn → Prop) : Exit → List VObj → Kn → Prop
  | .goto _, _, _ => False
  | e, σ, k => T e σ k
theorem Wp.scope {c : Code} {s : St} {T : Exit → St → Prop} (h : Wp P M W0 n c s (fun e s => match e with | .goto _ => False | e => T e s)) : Wp P M W0 n (.scope c) s T :=
  fun ι a w hf Q hq => wp_scope_straight (h ι a w hf (Exit.noGoto Q) fun e ι' s' a' w' h1 h2 h3 => by
    cases e with
    | goto l => exact h1.elim
    | normal => exact hq _ ι' s' a' w' h1 h2 h3
    | exit id => exact hq _ ι' s' a' w' h1 h2 h3
    | ret => exact hq _ ι' s' a' w' h1 h2 h3
    | panic ch => exact hq _ ι' s' a' w' h1 h2 h3
    | outgrown => exact hq _ ι' s' a' w' h1 h2 h3)
theorem KC.scope {c : Code} {T : Exit → List VObj → Kn → Prop} (h : KC P M W0 n c σ kn (noGotoK T)) : KC P M W0 n (.scope c) σ kn T := fun env he =>
  Wp.scope ((h env he).mono fun e s ⟨kn', h1, h2⟩ => by
    cases e with
    | goto l => exact h2.elim
    | normal => exact ⟨kn', h1, h2⟩
    | exit id => exact ⟨kn', h1, h2⟩
    | ret => exact ⟨kn', h1, h2⟩
    | panic ch => exact ⟨kn', h1, h2⟩
    | outgrown => exact ⟨kn', h1, h2⟩)
theorem KC.label {l : Nat} {T : Exit → List VObj → Kn → Prop} (h : T .normal σ kn) : KC P M W0 n (.label l) σ kn T := fun _ he => Wp.label ⟨kn, he, h⟩
variable {T : Exit → List VObj → Kn → Prop} {id : Nat}
theorem noGotoK_n (h : T .normal σ kn) : noGotoK T .normal σ kn := h
theorem noGotoK_r (h : T .ret σ kn) : noGotoK T .ret σ kn := h
theorem noGotoK_x (h : T (.exit id) σ kn) : noGotoK T (.exit id) σ kn := h
end
section
variable {P : Program} {σ : List VObj} {kn : Kn} {dst : Option Tmp} {ty : TypeId} {pos : String} {af : Array Edge} {g : Option (Nat × Bool)}
/-- An element of an array that is read as a value. -/
theorem K.indexA {t e : TypeId} {x i : Operand} {ds : List DV} {m len k : Nat} {d : DV} (hx : evK kn x = some (.d (.agg ds))) (hi : evK kn i = some (.d (DI (m : Int)))) (hm : m < len) (ht : P.underlying t = some (.array len e)) (hs : sizeT P e = some k) (ha : isAggT P e = some false) (hd : ds[m * k]? = some d) :
    KEv P ⟨dst, .index t x i, ty, pos, af, g⟩ σ kn (.d d) σ 0 := ev_op fun env he => by
  have e1 := evK_evalX he hx
  have e2 := evK_evalX he hi
  unfold evalOp
  rw [litOp_none (x := x) (by simp [Op.operands]) (by rw [e1]; rfl)]
  have h1 : (m : Int) < (len : Int) := by omega
  have e3 : ((ds.map XV.d).drop (m * k)).head? = some (.d d) := by rw [List.head?_drop, List.getElem?_map, hd]; rfl
  simp [e1, e2, opIndex, litOf, ht, aggCells, hs, h1, takeVar, ha]
  simpa using e3
/-- A struct or an array in a variable of one's own. -/
theorem K.loadOA {x : Operand} {t : TypeId} {id m md : Nat} (ds : List DV) (hx : evK kn x = some (.optr id 0)) (ho : σ[id]? = some ⟨ds.map .d, md⟩) (h2 : md ≠ 2) (ha : isAggT P t = some true) (hs : sizeT P t = some m) (hm : ds.length = m) :
    KEv P ⟨dst, .load t x, ty, pos, af, g⟩ σ kn (.d (.agg ds)) σ 1 := by
  have h := K.loadOAgg (dst := dst) (ty := ty) (pos := pos) (af := af) (g := g) hx ho h2 ha hs (by simp; omega)
  rwa [List.drop_zero, List.take_of_length_le (by simp; omega), aggX_d] at h
/-- A link of a slice of links of a valid graph. -/
theorem K.idxN {x i : Operand} {t e : TypeId} {d : DV} {L : List LN} {m : Nat} (hx : evK kn x = some (.d d)) (hL : Lks d (L.map LN.z)) (hi : evK kn i = some (.d (DI (m : Int)))) (hm : m < L.length) (ht : P.underlying t = some (.slice e)) (hs : sizeT P e = some 5) :
    KEv P ⟨dst, .indexAddr t x i, ty, pos, af, g⟩ σ kn (.d (.ptr ((flatK (L.map LN.z)).drop (m * 5)))) σ 0 := K.idxL hx hL hi (by simpa using hm) ht hs
theorem K.loadN {x : Operand} {t : TypeId} {L : List LN} {m : Nat} (hm : m < L.length) (hx : evK kn x = some (.d (.ptr ((flatK (L.map LN.z)).drop (m * 5))))) (ht : isAggT P t = some true) (hs : sizeT P t = some 5) :
    KEv P ⟨dst, .load t x, ty, pos, af, g⟩ σ kn (.d (.agg (lk5 L[m].z))) σ 0 := by
  have h := K.loadL (σ := σ) (dst := dst) (ty := ty) (pos := pos) (af := af) (g := g) (L := L.map LN.z) (m := m) (by simpa using hm) hx ht hs
  rwa [List.getElem_map] at h
theorem K.lenN {x : Operand} {t e : TypeId} {d : DV} {L : List LN} (hx : evK kn x = some (.d d)) (hL : Lks d (L.map LN.z)) (ht : P.underlying t = some (.slice e)) : KEv P ⟨dst, .call ⟨.builtin .len, #[x], #[t]⟩, ty, pos, af, g⟩ σ kn (.d (DI (L.length : Nat))) σ 0 := by
  have h := K.lenL (σ := σ) (dst := dst) (ty := ty) (pos := pos) (af := af) (g := g) hx hL ht
  rwa [List.length_map] at h
/-- A fraction of a slice of fractions that is read. -/
theorem K.loadF {x : Operand} {t : TypeId} {N m : Nat} {R : Rat6} (hm : m < N) (hx : evK kn x = some (.d (.ptr ((frN N R).drop (m * 2))))) (ht : isAggT P t = some true) (hs : sizeT P t = some 2) :
    KEv P ⟨dst, .load t x, ty, pos, af, g⟩ σ kn (.d (.agg [DI ((R m).1 : Nat), DI ((R m).2 : Nat)])) σ 0 := by
  rw [← frN_take N R hm]
  exact K.loadAgg (m := 2) hx ht hs (by rw [List.length_drop, frN_len]; omega)
/-- .. of one's own. -/
theorem K.loadOF {x : Operand} {t : TypeId} {N m id md : Nat} {R : Rat6} (hm : m < N) (hx : evK kn x = some (.optr id (0 + m * 2))) (ho : σ[id]? = some ⟨frX N R, md⟩) (h2 : md ≠ 2) (ht : isAggT P t = some true) (hs : sizeT P t = some 2) :
    KEv P ⟨dst, .load t x, ty, pos, af, g⟩ σ kn (.d (.agg [DI ((R m).1 : Nat), DI ((R m).2 : Nat)])) σ 1 := by
  rw [← frX_take N R hm]
  exact K.loadOAgg (m := 2) hx ho h2 ht hs (by simp [frN_len]; omega)
theorem tmodN (a b : Nat) : Int.tmod (a : Int) (b : Int) = ((a % b : Nat) : Int) := by rw [Int.tmod_eq_emod_of_nonneg (by omega)]; rfl
theorem tdivN (a b : Nat) : Int.tdiv (a : Int) (b : Int) = ((a / b : Nat) : Int) := by rw [Int.tdiv_eq_ediv_of_nonneg (by omega)]; rfl
theorem wrapN {a : Nat} (h : a ≤ 9223372036854775807) : IntKind.i64.wrap (a : Int) = (a : Int) := wrap_id (by omega)
theorem mulN {a b : Nat} (h : a * b ≤ 9223372036854775807) : IntKind.i64.wrap ((a : Int) * (b : Int)) = ((a * b : Nat) : Int) := by rw [← Int.natCast_mul]; exact wrapN h
theorem addN {a b : Nat} (h : a + b ≤ 9223372036854775807) : IntKind.i64.wrap ((a : Int) + (b : Int)) = ((a + b : Nat) : Int) := by rw [← Int.natCast_add]; exact wrapN h
theorem divN {a b : Nat} (h : a ≤ 9223372036854775807) : IntKind.i64.wrap (Int.tdiv (a : Int) (b : Int)) = ((a / b : Nat) : Int) := by rw [tdivN]; exact wrapN (Nat.le_trans (Nat.div_le_self _ _) h)
theorem oneN {a : Nat} (h : a < 9223372036854775807) : IntKind.i64.wrap ((a : Int) + 1) = ((a + 1 : Nat) : Int) := by rw [wrap_id (by omega)]; omega
theorem splice_all {α : Type} {cells cs : List α} (h : cells.length = cs.length) : splice cells 0 cs = cs := by
  simp [splice, List.drop_eq_nil_of_le (show cells.length ≤ cs.length by omega)]
end
section
variable {P : Program} {σ : List VObj} {kn : Kn}
/-- Two results, the first of which lies in a variable. -/
theorem resK_ct {fn : Func} {a t b id m md : Nat} (ds : List DV) {y : XV} (hr : fn.results = #[.cell a t, .tmp b]) (hl : look kn a = some (.optr id 0)) (ho : σ[id]? = some ⟨ds.map .d, md⟩) (h2 : md ≠ 2) (ha : isAggT P t = some true) (hs : sizeT P t = some m) (hm : ds.length = m) (hy : look kn b = some y) :
    resK P fn σ kn = some (.tup [.d (.agg ds), y]) := by
  unfold resK
  rw [hr]
  have e : resVarK P σ kn (.cell a t) = some (.d (.agg ds)) := by
    simp only [resVarK, hl, Option.bind_some, opLoad, ho]
    rw [if_neg h2]
    simp only [takeVar, ha, hs, List.drop_zero]
    rw [if_pos (by simp; omega), List.take_of_length_le (by simp; omega), aggX_d]; rfl
  have e2 : resVarK P σ kn (.tmp b) = some y := hy
  simp only [List.mapM_cons, List.mapM_nil, e, e2]
  rfl
/-- Three results, the first of which lies in a variable. -/
theorem resK_ctt {fn : Func} {a t b c id m md : Nat} (ds : List DV) {y z : XV} (hr : fn.results = #[.cell a t, .tmp b, .tmp c]) (hl : look kn a = some (.optr id 0)) (ho : σ[id]? = some ⟨ds.map .d, md⟩) (h2 : md ≠ 2) (ha : isAggT P t = some true) (hs : sizeT P t = some m) (hm : ds.length = m) (hy : look kn b = some y) (hz : look kn c = some z) :
    resK P fn σ kn = some (.tup [.d (.agg ds), y, z]) := by
  unfold resK
  rw [hr]
  have e : resVarK P σ kn (.cell a t) = some (.d (.agg ds)) := by
    simp only [resVarK, hl, Option.bind_some, opLoad, ho]
    rw [if_neg h2]
    simp only [takeVar, ha, hs, List.drop_zero]
    rw [if_pos (by simp; omega), List.take_of_length_le (by simp; omega), aggX_d]; rfl
  have e2 : resVarK P σ kn (.tmp b) = some y := hy
  have e3 : resVarK P σ kn (.tmp c) = some z := hz
  simp only [List.mapM_cons, List.mapM_nil, e, e2, e3]
  rfl
end
section
variable {P : Program} {σ : List VObj} {kn : Kn} {dst : Option Tmp} {ty : TypeId} {pos : String} {af : Array Edge} {g : Option (Nat × Bool)}
/-- append(nil, s...), s a slice of the call's own, not empty. -/
theorem K.appNil {t e : TypeId} {x y : Operand} {id off m lo : Nat} {ex : Bool} {ob : VObj} {z : Value} (hx : evK kn x = some (.d Dnil)) (hy : evK kn y = some (.osl id off m 1 lo ex)) (ho : σ[id]? = some ob) (h2 : ob.mode ≠ 2)
    (hf : off + m ≤ ob.cells.length) (h1v : ((ob.cells.drop off).take m).all oneX = true) (h0 : m ≠ 0) (hlen : m ≤ 1073741824) (ht : P.underlying t = some (.slice e)) (h1 : OneT P e z) :
    KEv P ⟨dst, .call ⟨.builtin .append, #[x, y], #[t, t]⟩, ty, pos, af, g⟩ σ kn (.osl σ.length 0 m 1 m false) (σ ++ [⟨(ob.cells.drop off).take m, 0⟩]) 2 := ev_op fun env he => by
  have e1 := evK_evalX he hx
  have e2 := evK_evalX he hy
  have hz : (zeroT P e).map (·.cells.size) = some 1 := by rw [h1.zero]; simp [h1.cells]
  unfold evalOp
  rw [litOp_none (x := y) (by simp [Op.operands, Call.operands]) (by rw [e2]; rfl)]
  have e3 : srcCells σ 1 (.osl id off m 1 lo ex) = some ((ob.cells.drop off).take m, m, 1) := by
    simp only [srcCells, ho]
    rw [if_pos ⟨h2, trivial, by omega⟩, Nat.mul_one]
  simp [e1, e2, opAppend, ht, h1.size, e3, h0, growTo, hlen, h1.bytes, hz]
  rw [if_pos (by simpa using h1v)]
end
/-- The first numbers as a slice. -/
def seqD (q : Nat → Nat) (N : Nat) : DV := .sl ((List.range N).map fun i => DI (q i : Nat)) N none
theorem seqD_ints (q : Nat → Nat) (N : Nat) : Ints (seqD q N) ((List.range N).map fun i => (q i : Int)) := by
  have : Ints (.sl ((List.range N).map fun i => DI (q i : Nat)) ((List.range N).map fun i => (q i : Int)).length none) ((List.range N).map fun i => (q i : Int)) := .sl (by simp) fun i c x hc hx => by
    by_cases hi : i < N
    · simp [hi] at hc hx; subst hc hx; rfl
    · simp [hi] at hc
  rw [List.length_map, List.length_range] at this
  exact this
theorem wX_take (q : Nat → Nat) {N : Nat} (hN : N ≤ 6) : ((wX q).drop 0).take N = ((List.range N).map fun i => DI (q i : Nat)).map .d := by
  refine List.ext_getElem? fun k => ?_
  rw [List.drop_zero, List.getElem?_take]
  by_cases hk : k < N
  · rw [if_pos hk]; simp [wN, hk, show k < 6 by omega]
  · rw [if_neg hk, List.getElem?_eq_none (by simp; omega)]
/-- A list of numbers as a slice. -/
def lsD (s : List Int) : DV := slOf (s.map DI)
theorem lsD_ints (m : List Int) : Ints (lsD m) m := by
  cases m with
  | nil => exact .nil
  | cons a l =>
    have : Ints (.sl ((a :: l).map DI) (a :: l).length none) (a :: l) := .sl (by simp) fun i c x hc hx => by
      rw [List.getElem?_map, hx] at hc
      simp at hc; exact hc.symm
    have e : (a :: l).length = ((a :: l).map DI).length := by simp
    rw [e] at this
    exact this
theorem deepen_tup2 {σ : List VObj} {k : Nat} {x : XV} {dx y : DV} (h : deepen σ (k + 1) x = some dx) : deepen σ (k + 2) (.tup [x, .d y]) = some (.tup [dx, y]) := by
  show (([x, .d y] : List XV).mapM (deepen σ (k + 1))).map DV.tup = _
  rw [List.mapM_cons, h]; rfl
theorem deepen_tup3 {σ : List VObj} {k : Nat} {x : XV} {dx a y : DV} (h : deepen σ (k + 1) x = some dx) : deepen σ (k + 2) (.tup [.d a, x, .d y]) = some (.tup [a, dx, y]) := by
  show (([.d a, x, .d y] : List XV).mapM (deepen σ (k + 1))).map DV.tup = _
  rw [List.mapM_cons, List.mapM_cons, h]; rfl
theorem ownK_own {σ : List VObj} {x : XV} {cells : List XV} (h : OwnK 1 σ x cells) : Own σ x cells := by
  cases h with
  | nil => exact .nil
  | @sl id n cells h hn =>
    have : n = cells.length := by omega
    subst this
    exact .sl h
theorem freezeIds_not {σ : List VObj} {ids : List Nat} {j : Nat} (h : j ∉ ids) : (freezeIds σ ids)[j]? = σ[j]? := by
  unfold freezeIds
  rw [List.getElem?_mapIdx]
  cases hs : σ[j]? with
  | none => rfl
  | some o => simp [h]
theorem freezeIds_in {σ : List VObj} {ids : List Nat} {j : Nat} {cs : List XV} (h : j ∈ ids) (hs : σ[j]? = some ⟨cs, 0⟩) : (freezeIds σ ids)[j]? = some ⟨cs, 1⟩ := by
  unfold freezeIds
  rw [List.getElem?_mapIdx, hs]
  simp [h]
section
variable {P : Program} {σ : List VObj} {kn : Kn} {dst : Option Tmp} {ty : TypeId} {pos : String} {af : Array Edge} {g : Option (Nat × Bool)}
theorem K.buildC {t e : TypeId} {x : Operand} {k : Nat} {v : XV} {cs : List XV} {z : Value} (hx : evK kn x = some v) (hc : cellsX v = cs) (hk : cs.length = k) (ht : P.underlying t = some (.slice e)) (hs : sizeT P e = some k) (hz : zeroT P e = some z) (hk2 : k ≤ 16777216) :
    KEv P ⟨dst, .buildSlice t 1 #[(0, x)], ty, pos, af, g⟩ σ kn (.osl σ.length 0 1 k 1 true) (σ ++ [⟨cs, 0⟩]) 3 := ev_op fun env he => by
  have e1 := evK_evalX he hx
  unfold evalOp
  rw [litOp_buildSlice]
  have h3 : splice (zeroRow z k) 0 cs = cs := by
    simp [splice, zeroRow, hk]
  simp [e1, opBuildSlice, ht, hs, hz, fillX, hc, zeroRow_len, hk, h3, hk2]
end
section
variable {P : Program} {n : Nat} {ops : Array Oper} {l : List Oper} {σ : List VObj} {kn : Kn} {dst : Option Tmp} {ty : TypeId} {pos : String} {af : Array Edge} {g : Option (Nat × Bool)} {R : List Nat → List VObj → Kn → Prop}
/-- A store into the newest object. -/
theorem KT.storeL {x y : Operand} {t : TypeId} {A : List VObj} {z cs : List XV} {v : XV} (hg : guardK ops kn ⟨dst, .store t x y, ty, pos, af, g⟩ = some true) (hd : dstOk n dst = true) (hx : evK kn x = some (.optr A.length 0)) (hy : evK kn y = some v)
    (hc : cellsX v = cs) (hz : z.length = cs.length) (h1 : cs.all oneX = true) (hs : sizeT P t = some cs.length) (h : KT P n ops l (A ++ [⟨cs, 0⟩]) (extK dst undefX kn) (fun fls τ k => R (2 :: fls) τ k)) :
    KT P n ops (⟨dst, .store t x y, ty, pos, af, g⟩ :: l) (A ++ [⟨z, 0⟩]) kn R := by
  subst hc
  refine KT.step hg hd (K.storeN hx hy (List.getElem?_concat_length ..) (by omega) h1 hs) ?_
  rw [splice_all hz]
  have e : (A ++ [(⟨z, 0⟩ : VObj)]).set A.length ⟨cellsX v, 0⟩ = A ++ [⟨cellsX v, 0⟩] := by
    rw [List.set_append_right _ _ (Nat.le_refl _), Nat.sub_self]; rfl
  rw [e]
  exact h
theorem get_left {A B : List VObj} {id : Nat} {o : VObj} (h : A[id]? = some o) : (A ++ B)[id]? = some o := by
  rw [List.getElem?_append_left (List.getElem?_eq_some_iff.1 h).1]; exact h
end
end Go.Vm

