import Derived.Test.YthbnnffmhnjpjaaVmP
/-
  VALUES WITHOUT ADDRESSES, 17: rules for what a call makes of its own: slices made, written, read, appended to; and the values that come of parts.
-/
namespace Go.Vm
open Go.RowKit

/-- The element m of a slice. -/
def getV (d : DV) (m : Nat) : DV :=
  match d with
  | .sl cs _ _ => cs.getD m Dnil
  | _ => Dnil

def restV (d : DV) (m : Nat) : List DV :=
  match d with
  | .sl cs _ _ => cs.drop (m + 1)
  | _ => []

/-- The first m elements. -/
def takeV (m : Nat) (d : DV) : DV :=
  match d with
  | .sl cs _ cap => .sl (cs.take m) m (cap.map (· - 0))
  | x => x

theorem getV_vec {α : Type} {R : DV → α → Prop} {d : DV} {l : List α} (h : Vec R d l) {m : Nat} (hm : m < l.length) : R (getV d m) l[m] := by
  cases h with
  | nil => simp at hm
  | sl hn h =>
    have hlt : m < _ := hn ▸ hm
    simp only [getV, List.getD_eq_getElem?_getD, List.getElem?_eq_getElem hlt, Option.getD_some]
    exact h m _ _ (List.getElem?_eq_getElem hlt) (List.getElem?_eq_getElem hm)

theorem takeV_vec {α : Type} {R : DV → α → Prop} {d : DV} {l : List α} (h : Vec R d l) {m : Nat} (hm : m ≤ l.length) : Vec R (takeV m d) (l.take m) := by
  cases h with
  | nil => simp; exact .nil
  | sl hn h =>
    rename_i cs cap
    have hlen : (l.take m).length = m := by simp; omega
    have : Vec R (.sl (cs.take m) (l.take m).length (cap.map (· - 0))) (l.take m) := .sl (by simp; omega) (fun i c y hc hy => by
      rw [List.getElem?_take] at hc hy
      split at hc
      · rename_i hlt
        rw [if_pos hlt] at hy
        exact h i c y hc hy
      · cases hc)
    rwa [hlen] at this

section
variable {P : Program} {n : Nat} {ops : Array Oper} {l : List Oper} {σ : List VObj} {kn : Kn} {dst : Option Tmp} {ty : TypeId} {pos : String} {af : Array Edge} {g : Option (Nat × Bool)}
  {R : List Nat → List VObj → Kn → Prop}

theorem K.idxV {α : Type} {Q : DV → α → Prop} {x i : Operand} {t e : TypeId} {d : DV} {xs : List α} {m : Nat} (hx : evK kn x = some (.d d)) (hv : Vec Q d xs) (hi : evK kn i = some (.d (DI m))) (hm : m < xs.length)
    (ht : P.underlying t = some (.slice e)) (hs : sizeT P e = some 1) : KEv P ⟨dst, .indexAddr t x i, ty, pos, af, g⟩ σ kn (.d (.ptr (getV d m :: restV d m))) σ 0 := ev_op fun env he => by
  rcases litOf_vec hv with ⟨rfl, rfl⟩ | ⟨cs, cap, rfl, hn, hr⟩
  · simp at hm
  · have hlt : m < cs.length := by omega
    have e1 := evK_evalX he hx
    have e2 := evK_evalX he hi
    unfold evalOp
    rw [litOp_none (x := x) (by simp [Op.operands]) (by rw [e1]; rfl)]
    have h1 : (m : Int) < (xs.length : Int) := by omega
    have e3 : cs.drop m = getV (.sl cs xs.length cap) m :: restV (.sl cs xs.length cap) m := by
      simp [getV, restV, hlt]
    simp [e1, e2, opIndexAddr, litOf, ht, hs, h1, e3]

theorem K.takeV {α : Type} {Q : DV → α → Prop} {x h : Operand} {t e : TypeId} {d : DV} {xs : List α} {m : Nat} (hx : evK kn x = some (.d d)) (hv : Vec Q d xs) (hh : evK kn h = some (.d (DI m))) (hm : m ≤ xs.length)
    (ht : P.underlying t = some (.slice e)) (hs : sizeT P e = some 1) : KEv P ⟨dst, .slice t x none (some h) none, ty, pos, af, g⟩ σ kn (.d (takeV m d)) σ 0 := by
  rcases litOf_vec hv with ⟨rfl, rfl⟩ | ⟨cs, cap, rfl, hn, hr⟩
  · obtain ⟨r, hr, hev⟩ := K.sliceTo (P := P) (σ := σ) (dst := dst) (ty := ty) (pos := pos) (af := af) (g := g) hx (Q := Q) (xs := []) .nil hh hm ht hs
    have hm0 : m = 0 := by simpa using hm
    subst hm0
    intro env he
    have h0 := hev env he
    -- the value is nil
    refine .op ?_
    have e1 := evK_evalX he hx
    have e2 := evK_evalX he hh
    have hlit : ∃ v, litOp P env ⟨dst, .slice t x none (some h) none, ty, pos, af, g⟩ = some v ∧ v = .slice none 0 0 := by
      unfold litOp
      rw [if_pos (by simp [Op.operands, isSelect, e1, e2, litOf])]
      refine ⟨.slice none 0 0, ?_, rfl⟩
      have e3 : pureRun P (execOp (fun x => (litOf (evalX env x)).getD undef) ⟨dst, .slice t x none (some h) none, ty, pos, af, g⟩) = some (.value (.slice none 0 0)) := by
        simp only [execOp, e1, e2, litOf, Option.getD_some, Option.map_some, Option.map_none]
        refine pureRun_v (v := .slice none 0 0) ?_
        unfold Instr.sliceAt
        rw [pureRun_bind, pureRun_underlying ht]
        simp only [Option.bind_some]
        unfold Instr.slice
        rw [pureRun_bind, pureRun_underlying ht]
        simp only [Option.bind_some]
        have hsz : pureRun P (sizeOf e) = some 1 := by
          unfold sizeOf typeInfo
          unfold sizeT at hs
          cases hi : P.info? e with
          | none => rw [hi] at hs; simp at hs
          | some i =>
            rw [hi] at hs
            simp at hs
            rw [pureRun_bind, pureRun_bind]
            show ((some P).bind _).bind _ = _
            simp only [Option.bind_some, hi]
            show some i.size = _
            rw [hs]
        show pureRun P (do let size ← sizeOf e; pure (Value.slice (if 0 = 0 then (none : Option Addr) else Option.map (fun (a : Addr) => a.add (0 * size)) none) (0 - 0) (0 - 0)) : Sem Value) = _
        rw [pureRun_bind, hsz]; rfl
      rw [e3]
    obtain ⟨v, hv1, hv2⟩ := hlit
    unfold evalOp
    rw [hv1, hv2]; rfl
  · refine ev_op fun env he => ?_
    have e1 := evK_evalX he hx
    have e2 := evK_evalX he hh
    unfold evalOp
    rw [litOp_none (x := x) (by simp [Op.operands]) (by rw [e1]; rfl)]
    simp [e1, e2, opSlice, litOf, ht, hs, boundOf, hn, hm, Go.Vm.takeV]

/-- What a type is good for in a slice of one's own: its variable is one cell, with this zero value, and it is not wide. -/
structure OneT (P : Program) (e : TypeId) (z : Value) : Prop where
  size : sizeT P e = some 1
  zero : zeroT P e = some z
  cells : z.cells = #[z]
  bytes : bytesT P e ≤ 65536

theorem zeroRow_one {z : Value} (h : z.cells = #[z]) (k : Nat) : zeroRow z k = List.replicate k (.d (.lit z)) := by
  unfold zeroRow
  refine List.ext_getElem? fun i => ?_
  by_cases hi : i < k
  · simp [hi, h, Nat.mod_one]
  · rw [List.getElem?_eq_none (by simp; omega), List.getElem?_eq_none (by simp; omega)]

theorem K.make {t e : TypeId} {x y : Operand} {m c : Nat} {z : Value} (hx : evK kn x = some (.d (DI m))) (hy : evK kn y = some (.d (DI c))) (hmc : m ≤ c) (hm : c ≤ 1073741824) (ht : P.underlying t = some (.slice e)) (h1 : OneT P e z) :
    KEv P ⟨dst, .makeSlice t x y, ty, pos, af, g⟩ σ kn (.osl σ.length 0 m 1 c true) (σ ++ [⟨List.replicate c (.d (.lit z)), 0⟩]) 3 := ev_op fun env he => by
  have e1 := evK_evalX he hx
  have e2 := evK_evalX he hy
  have hl : litOp P env ⟨dst, .makeSlice t x y, ty, pos, af, g⟩ = none := by
    unfold litOp
    rw [if_pos (by simp [Op.operands, isSelect, e1, e2, litOf])]
    have e3 : pureRun P (execOp (fun x => (litOf (evalX env x)).getD undef) ⟨dst, .makeSlice t x y, ty, pos, af, g⟩) = none := by
      obtain ⟨i, hi, hi1⟩ : ∃ i, P.info? e = some i ∧ i.size = 1 := by
        have := h1.size
        unfold sizeT at this
        cases hi : P.info? e with
        | none => rw [hi] at this; simp at this
        | some i => rw [hi] at this; simp at this; exact ⟨i, rfl, this⟩
      have hb : i.bytes ≤ 65536 := by have := h1.bytes; simpa [bytesT, hi] using this
      simp only [execOp, e1, e2, litOf, Option.getD_some]
      rw [pureRun_bind]
      have : pureRun P (Instr.makeSlice t (.int .i64 m) (.int .i64 c)) = none := by
        unfold Instr.makeSlice
        rw [pureRun_bind, pureRun_underlying ht]
        simp only [Option.bind_some]
        have w1 : IntKind.i64.wrap (m : Int) = m := wrap_id (by omega)
        have w2 : IntKind.i64.wrap (c : Int) = c := wrap_id (by omega)
        rw [pureRun_bind]
        show (some (m : Int)).bind _ = _
        simp only [Option.bind_some]
        rw [pureRun_bind]
        show (some (c : Int)).bind _ = _
        simp only [Option.bind_some]
        rw [pureRun_bind]
        have hti : pureRun P (typeInfo e) = some i := by
          unfold typeInfo
          rw [pureRun_bind]
          show (some P).bind _ = _
          simp only [Option.bind_some, hi]; rfl
        rw [hti]
        simp only [Option.bind_some, w1, w2]
        have hbb : (i.bytes : Int) * c ≤ 2 ^ 48 := by
          have : i.bytes * c ≤ 65536 * 1073741824 := Nat.mul_le_mul hb hm
          have h3 : ((i.bytes * c : Nat) : Int) = (i.bytes : Int) * c := by rw [Int.natCast_mul]
          omega
        have hno : ¬ ((decide ((c : Int) < 0) || decide ((i.bytes : Int) * c > 2 ^ 48) || decide ((m : Int) < 0) || decide ((m : Int) > c)) = true) := by simp; omega
        rw [if_neg hno]
        rw [pureRun_bind]
        have hask : ∀ k : Nat, pureRun P (askRoom k) = some () ∨ pureRun P (askRoom k) = none := by
          intro k; unfold askRoom; split
          · left; rfl
          · left; rfl
        rcases hask ((c : Int).toNat * i.bytes) with h | h
        · rw [h]
          simp only [Option.bind_some]
          rw [pureRun_bind]
          have hsz : pureRun P (sizeOf e) = some 1 := by
            unfold sizeOf
            rw [pureRun_bind, hti]
            show some i.size = _
            rw [hi1]
          rw [hsz]
          simp only [Option.bind_some]
          split
          · rfl
          · rw [pureRun_bind]
            cases hz : pureRun P (zeroValue e) with
            | none => rfl
            | some z => rfl
        · rw [h]; rfl
      rw [this]; rfl
    rw [e3]
  unfold evalOp
  rw [hl]
  have c1 : (m : Int) ≤ (c : Int) := by omega
  have c2 : (c : Int) ≤ 1073741824 := by omega
  simp [e1, e2, opMakeSlice, litOf, ht, h1.size, h1.zero, h1.bytes, c1, c2, zeroRow_one h1.cells]

/-- A variable of a slice of one's own. -/
theorem K.idxO {x i : Operand} {t e : TypeId} {id off len lo m : Nat} {ex : Bool} (hx : evK kn x = some (.osl id off len 1 lo ex)) (hi : evK kn i = some (.d (DI m))) (hm : m < len) (ht : P.underlying t = some (.slice e)) (hs : sizeT P e = some 1) :
    KEv P ⟨dst, .indexAddr t x i, ty, pos, af, g⟩ σ kn (.optr id (off + m)) σ 0 := ev_op fun env he => by
  have e1 := evK_evalX he hx
  have e2 := evK_evalX he hi
  unfold evalOp
  rw [litOp_none (x := x) (by simp [Op.operands]) (by rw [e1]; rfl)]
  have h1 : (m : Int) < (len : Int) := by omega
  simp [e1, e2, opIndexAddr, litOf, ht, hs, h1]

theorem K.loadO {x : Operand} {t : TypeId} {id off : Nat} {ob : VObj} {y : XV} (hx : evK kn x = some (.optr id off)) (ho : σ[id]? = some ob) (h2 : ob.mode ≠ 2) (hy : ob.cells[off]? = some y) (ht : isAggT P t = some false) :
    KEv P ⟨dst, .load t x, ty, pos, af, g⟩ σ kn y σ 1 := ev_op fun env he => by
  have e1 := evK_evalX he hx
  unfold evalOp
  rw [litOp_none (x := x) (by simp [Op.operands]) (by rw [e1]; rfl)]
  have : (ob.cells.drop off).head? = some y := by rw [List.head?_drop]; exact hy
  simp [e1, opLoad, takeVar, ht, ho, h2, this]

theorem splice_one {α : Type} (cs : List α) (o : Nat) (x : α) (h : o < cs.length) : splice cs o [x] = cs.set o x := by
  rw [← splice_cons cs o x [] (by simp; omega), splice_nil]

theorem K.storeO {x y : Operand} {t : TypeId} {id off : Nat} {cells : List XV} {v : XV} (hx : evK kn x = some (.optr id off)) (hy : evK kn y = some v) (ho : σ[id]? = some ⟨cells, 0⟩) (hof : off < cells.length) (hc : cellsX v = [v]) (h1 : oneX v = true)
    (hs : sizeT P t = some 1) : KEv P ⟨dst, .store t x y, ty, pos, af, g⟩ σ kn undefX (σ.set id ⟨cells.set off v, 0⟩) 2 := ev_op fun env he => by
  have e1 := evK_evalX he hx
  have e2 := evK_evalX he hy
  unfold evalOp
  rw [litOp_none (x := x) (by simp [Op.operands]) (by rw [e1]; rfl)]
  have h3 : off + 1 ≤ cells.length := by omega
  simp [e1, e2, opStore, ho, hc, hs, h1, h3, splice_one _ _ _ hof, undefX]

/-- A literal of one element: []T{v}. -/
theorem K.build1 {t e : TypeId} {x : Operand} {v : XV} {z : Value} (hx : evK kn x = some v) (hc : cellsX v = [v]) (hl : litOf v = none) (ht : P.underlying t = some (.slice e)) (h1 : OneT P e z) :
    KEv P ⟨dst, .buildSlice t 1 #[(0, x)], ty, pos, af, g⟩ σ kn (.osl σ.length 0 1 1 1 true) (σ ++ [⟨[v], 0⟩]) 3 := ev_op fun env he => by
  have e1 := evK_evalX he hx
  unfold evalOp
  rw [litOp_none (x := x) (by simp [Op.operands]) (by rw [e1]; exact hl)]
  simp [e1, opBuildSlice, ht, h1.size, h1.zero, fillX, hc, zeroRow_one h1.cells, splice]

/-- A slice that is appended to: nil, or one's own up to its end. -/
inductive Own (σ : List VObj) : XV → List XV → Prop
  | nil : Own σ (.d Dnil) []
  | sl {id : Nat} {cells : List XV} (h : σ[id]? = some ⟨cells, 0⟩) : Own σ (.osl id 0 cells.length 1 cells.length false) cells

theorem Own.pushed {x : XV} {cells : List XV} (h : Own σ x cells) (o : VObj) : Own (σ ++ [o]) x cells := by
  cases h with
  | nil => exact .nil
  | sl h => exact .sl (getElem?_pre _ _ _ _ h)

/-- append(s, v). -/
theorem K.app {t e : TypeId} {x y : Operand} {sx : XV} {cells : List XV} {id : Nat} {v : XV} {z : Value} (hx : evK kn x = some sx) (hy : evK kn y = some (.osl id 0 1 1 1 true)) (hown : Own σ sx cells) (hid : σ[id]? = some ⟨[v], 0⟩)
    (h1v : oneX v = true) (hlen : cells.length < 1073741823) (ht : P.underlying t = some (.slice e)) (h1 : OneT P e z) :
    ∃ σ' x', Own σ' x' (cells ++ [v]) ∧ KEv P ⟨dst, .call ⟨.builtin .append, #[x, y], #[t, t]⟩, ty, pos, af, g⟩ σ kn x' σ' 2 := by
  have hz : (zeroT P e).map (·.cells.size) = some 1 := by rw [h1.zero]; simp [h1.cells]
  cases hown with
  | nil =>
    refine ⟨σ ++ [⟨[v], 0⟩], .osl σ.length 0 1 1 1 false, Own.sl (cells := [v]) (by simp), ev_op fun env he => ?_⟩
    have e1 := evK_evalX he hx
    have e2 := evK_evalX he hy
    unfold evalOp
    rw [litOp_none (x := y) (by simp [Op.operands, Call.operands]) (by rw [e2]; rfl)]
    simp [e1, e2, opAppend, ht, h1.size, srcCells, hid, h1v, growTo, h1.bytes, hz]
  | @sl oid cells ho =>
    refine ⟨(σ.set oid ⟨cells, 2⟩) ++ [⟨cells ++ [v], 0⟩], .osl σ.length 0 (cells.length + 1) 1 (cells.length + 1) false, ?_, ev_op fun env he => ?_⟩
    · have : (cells ++ [v]).length = cells.length + 1 := by simp
      rw [← this]
      exact .sl (by rw [List.getElem?_append_right (by simp)]; simp)
    · have e1 := evK_evalX he hx
      have e2 := evK_evalX he hy
      unfold evalOp
      rw [litOp_none (x := x) (by simp [Op.operands, Call.operands]) (by rw [e1]; rfl)]
      have h3 : cells.length + 1 ≤ 1073741824 := by omega
      have h4 : ¬ cells.length + 1 ≤ cells.length := by omega
      simp [e1, e2, opAppend, ht, h1.size, srcCells, hid, h1v, ho, h1.bytes, hz, h3, h4]

theorem fin_d {k : Nat} {d res : DV} (h : res = d) : deepen σ (k + 1) (.d d) = some res := by subst h; rfl

theorem fin_b {k : Nat} {b c : Bool} (h : b = c) : deepen σ (k + 1) (.d (DB c)) = some (DB b) := by subst h; rfl

theorem mapM_deep {k : Nat} (ds : List DV) : (ds.map XV.d).mapM (deepen σ (k + 1)) = some ds := by
  induction ds with
  | nil => rfl
  | cons d ds ih => rw [List.map_cons, List.mapM_cons, ih]; rfl

theorem deepen_osl {k id off len w lo : Nat} {ex : Bool} {ob : VObj} (h1 : σ[id]? = some ob) (hm : ob.mode = 1) (hl : off + len * w ≤ ob.cells.length) :
    deepen σ (k + 1) (.osl id off len w lo ex) = (((ob.cells.drop off).take (len * w)).mapM (deepen σ k)).map fun cs => .sl cs len (if ex then some lo else none) := by
  conv => lhs; unfold deepen
  simp only [h1]
  rw [if_pos ⟨hm, hl⟩]

/-- What an appended slice is in the end. -/
def slOf (ds : List DV) : DV := match ds with | [] => Dnil | _ => .sl ds ds.length none

theorem fin_own {k : Nat} {x : XV} {ds : List DV} (h : Own σ x (ds.map .d)) (hne : ds = [] → x = .d Dnil) : deepen (freezeAll σ) (k + 2) x = some (slOf ds) := by
  generalize hc : ds.map XV.d = cells at h
  cases h with
  | nil =>
    have : ds = [] := by simpa using hc
    subst this; rfl
  | @sl id cells ho =>
    have hd : ds ≠ [] := fun e => by have := hne e; cases this
    subst hc
    have h1 : (freezeAll σ)[id]? = some ⟨ds.map .d, 1⟩ := by simp [freezeAll, ho]
    have e : slOf ds = .sl ds ds.length none := by cases ds with | nil => exact absurd rfl hd | cons _ _ => rfl
    have h2 : ((ds.map XV.d).drop 0).take ((ds.map XV.d).length * 1) = ds.map XV.d := by
      rw [List.drop_zero, Nat.mul_one, List.take_length]
    have h3 : 0 + (ds.map XV.d).length * 1 ≤ (ds.map XV.d).length := by omega
    rw [deepen_osl h1 rfl h3, h2, mapM_deep, e]
    simp

end
end Go.Vm

