import Derived.Test.YthbnnffmhnjpjaaVmR
/-
  VALUES WITHOUT ADDRESSES, 21: more rules: structs, variables of one's own, bits, conversions, calls that write the caller's objects.
-/
namespace Go.Vm
open Go.RowKit

section
variable {P : Program} {n : Nat} {ops : Array Oper} {l : List Oper} {σ : List VObj} {kn : Kn} {dst : Option Tmp} {ty : TypeId} {pos : String} {af : Array Edge} {g : Option (Nat × Bool)}
  {R : List Nat → List VObj → Kn → Prop}

/-- Any operation on plain values. -/
theorem K.lit {o : Oper} {ρ : Operand → Value} {v : Value} (hall : ∀ x ∈ o.op.operands, evK kn x = some (.d (.lit (ρ x)))) (hs : isSelect o.op = false) (hr : pureRun P (execOp ρ o) = some (.value v)) : KEv P o σ kn (.d (.lit v)) σ 0 := ev_lit fun env he => by
  have e1 : ∀ x ∈ o.op.operands, evalX env x = .d (.lit (ρ x)) := fun x hx => evK_evalX he (hall x hx)
  unfold litOp
  rw [if_pos (by
    rw [hs]
    simp only [Bool.not_false, Bool.and_true, Array.all_eq_true_iff_forall_mem]
    intro x hx
    rw [e1 x hx]; rfl)]
  have e2 : execOp (fun x => (litOf (evalX env x)).getD undef) o = execOp ρ o := execOp_congr o (fun cs b h => by rw [h] at hs; cases hs) (fun x hx => by rw [e1 x hx]; rfl)
  rw [e2, hr]

/-- A conversion among integers. -/
theorem K.conv {s d : TypeId} {x : Operand} {k k' : IntKind} {a c : Int} {sd : TypeDesc} (hx : evK kn x = some (.d (.lit (.int k a)))) (hs : P.underlying s = some sd) (hd : P.underlying d = some (.int k')) (hc : k'.wrap a = c) :
    KEv P ⟨dst, .convert s d x, ty, pos, af, g⟩ σ kn (.d (.lit (.int k' c))) σ 0 :=
  K.lit (ρ := fun _ => .int k a) (fun y hy => by simp [Op.operands] at hy; subst hy; exact hx) rfl (by
    subst hc
    simp only [execOp]
    refine pureRun_v ?_
    unfold convert
    rw [pureRun_bind, pureRun_underlying hs]
    simp only [Option.bind_some]
    rw [pureRun_bind, pureRun_underlying hd]
    simp only [Option.bind_some]
    rfl)

section ints
variable {t u : TypeId} {x y : Operand} {k k' : IntKind} {a b : Int} (hx : evK kn x = some (.d (.lit (.int k a))))
include hx
theorem K.band (hy : evK kn y = some (.d (.lit (.int k b)))) {c : Int} (hc : k.wrap (BitVec.ofInt k.bits a &&& BitVec.ofInt k.bits b).toNat = c) : KEv P ⟨dst, .binOp .and t x y u, ty, pos, af, g⟩ σ kn (.d (.lit (.int k c))) σ 0 :=
  K.bin hx hy (bin_int (by subst hc; cases k <;> rfl))
theorem K.bor (hy : evK kn y = some (.d (.lit (.int k b)))) {c : Int} (hc : k.wrap (BitVec.ofInt k.bits a ||| BitVec.ofInt k.bits b).toNat = c) : KEv P ⟨dst, .binOp .or t x y u, ty, pos, af, g⟩ σ kn (.d (.lit (.int k c))) σ 0 :=
  K.bin hx hy (bin_int (by subst hc; cases k <;> rfl))
theorem K.bxor (hy : evK kn y = some (.d (.lit (.int k b)))) {c : Int} (hc : k.wrap (BitVec.ofInt k.bits a ^^^ BitVec.ofInt k.bits b).toNat = c) : KEv P ⟨dst, .binOp .xor t x y u, ty, pos, af, g⟩ σ kn (.d (.lit (.int k c))) σ 0 :=
  K.bin hx hy (bin_int (by subst hc; cases k <;> rfl))
theorem K.bandNot (hy : evK kn y = some (.d (.lit (.int k b)))) {c : Int} (hc : k.wrap (BitVec.ofInt k.bits a &&& ~~~ BitVec.ofInt k.bits b).toNat = c) : KEv P ⟨dst, .binOp .andNot t x y u, ty, pos, af, g⟩ σ kn (.d (.lit (.int k c))) σ 0 :=
  K.bin hx hy (bin_int (by subst hc; cases k <;> rfl))
theorem K.shl (hy : evK kn y = some (.d (.lit (.int k' b)))) (hb : 0 ≤ b) {c : Int} (hc : k.wrap (a * 2 ^ min b.toNat k.bits) = c) : KEv P ⟨dst, .binOp .shl t x y u, ty, pos, af, g⟩ σ kn (.d (.lit (.int k c))) σ 0 :=
  K.bin hx hy (bin_int (by
    subst hc
    have : binOp .shl t (.int k a) (.int k' b) = Op.shift .shl k a k' b := rfl
    rw [this]; unfold Op.shift; rw [if_neg (by omega)]; rfl))
theorem K.shr (hy : evK kn y = some (.d (.lit (.int k' b)))) (hb : 0 ≤ b) {c : Int} (hc : a.fdiv (2 ^ min b.toNat k.bits) = c) : KEv P ⟨dst, .binOp .shr t x y u, ty, pos, af, g⟩ σ kn (.d (.lit (.int k c))) σ 0 :=
  K.bin hx hy (bin_int (by
    subst hc
    have : binOp .shr t (.int k a) (.int k' b) = Op.shift .shr k a k' b := rfl
    rw [this]; unfold Op.shift; rw [if_neg (by omega)]; rfl))
end ints

/-- A field of a struct that is read as a value. -/
theorem K.field {t : TypeId} {x : Operand} {f : Nat} {fd : Field} {ds : List DV} {d : DV} (hx : evK kn x = some (.d (.agg ds))) (hf : fieldT P t f = some fd) (ha : isAggT P fd.type = some false) (hd : ds[fd.offset]? = some d) :
    KEv P ⟨dst, .field t x f, ty, pos, af, g⟩ σ kn (.d d) σ 0 := ev_op fun env he => by
  have e1 := evK_evalX he hx
  unfold evalOp
  rw [litOp_none (x := x) (by simp [Op.operands]) (by rw [e1]; rfl)]
  simp [e1, opField, hf, aggCells, takeVar, ha, List.head?_drop, hd]

theorem allD_map (ds : List DV) : allD (ds.map .d) = some ds := by
  induction ds with
  | nil => rfl
  | cons d ds ih => simp [allD, ih]

theorem aggX_d (ds : List DV) : aggX (ds.map .d) = .d (.agg ds) := by simp [aggX, allD_map]

/-- A field that is itself a struct or an array. -/
theorem K.fieldAgg {t : TypeId} {x : Operand} {f m : Nat} {fd : Field} {ds : List DV} (hx : evK kn x = some (.d (.agg ds))) (hf : fieldT P t f = some fd) (ha : isAggT P fd.type = some true) (hs : sizeT P fd.type = some m) (hm : fd.offset + m ≤ ds.length) :
    KEv P ⟨dst, .field t x f, ty, pos, af, g⟩ σ kn (.d (.agg ((ds.drop fd.offset).take m))) σ 0 := ev_op fun env he => by
  have e1 := evK_evalX he hx
  unfold evalOp
  rw [litOp_none (x := x) (by simp [Op.operands]) (by rw [e1]; rfl)]
  have h1 : m ≤ ds.length - fd.offset := by omega
  have h2 : aggX (((ds.map XV.d).drop fd.offset).take m) = .d (.agg ((ds.drop fd.offset).take m)) := by rw [← List.map_drop, ← List.map_take, aggX_d]
  simp only [e1, opField, hf, aggCells, takeVar, ha, hs]
  rw [if_pos (by simp; omega), h2]; rfl

theorem K.fieldAddrD {t : TypeId} {x : Operand} {f m : Nat} {fd : Field} {cs : List DV} (hx : evK kn x = some (.d (.ptr cs))) (hf : fieldT P t f = some fd) (hs : sizeT P fd.type = some (m + 1)) :
    KEv P ⟨dst, .fieldAddr t x f, ty, pos, af, g⟩ σ kn (.d (.ptr (cs.drop fd.offset))) σ 0 := ev_op fun env he => by
  have e1 := evK_evalX he hx
  unfold evalOp
  rw [litOp_none (x := x) (by simp [Op.operands]) (by rw [e1]; rfl)]
  simp [e1, opFieldAddr, hf, hs]

theorem K.fieldAddrO {t : TypeId} {x : Operand} {f m id off : Nat} {fd : Field} (hx : evK kn x = some (.optr id off)) (hf : fieldT P t f = some fd) (hs : sizeT P fd.type = some (m + 1)) :
    KEv P ⟨dst, .fieldAddr t x f, ty, pos, af, g⟩ σ kn (.optr id (off + fd.offset)) σ 0 := ev_op fun env he => by
  have e1 := evK_evalX he hx
  unfold evalOp
  rw [litOp_none (x := x) (by simp [Op.operands]) (by rw [e1]; rfl)]
  simp [e1, opFieldAddr, hf, hs]

/-- A variable of an array of one's own. -/
theorem K.idxA {x i : Operand} {t e : TypeId} {id off m len k : Nat} (hx : evK kn x = some (.optr id off)) (hi : evK kn i = some (.d (DI m))) (hm : m < len) (ht : P.underlying t = some (.array len e)) (hs : sizeT P e = some k) :
    KEv P ⟨dst, .indexAddr t x i, ty, pos, af, g⟩ σ kn (.optr id (off + m * k)) σ 0 := ev_op fun env he => by
  have e1 := evK_evalX he hx
  have e2 := evK_evalX he hi
  unfold evalOp
  rw [litOp_none (x := x) (by simp [Op.operands]) (by rw [e1]; rfl)]
  have h1 : (m : Int) < (len : Int) := by omega
  simp [e1, e2, opIndexAddr, litOf, ht, hs, h1]

/-- .. of one that is read. -/
theorem K.idxAD {x i : Operand} {t e : TypeId} {cs : List DV} {m len k : Nat} (hx : evK kn x = some (.d (.ptr cs))) (hi : evK kn i = some (.d (DI m))) (hm : m < len) (ht : P.underlying t = some (.array len e)) (hs : sizeT P e = some k) :
    KEv P ⟨dst, .indexAddr t x i, ty, pos, af, g⟩ σ kn (.d (.ptr (cs.drop (m * k)))) σ 0 := ev_op fun env he => by
  have e1 := evK_evalX he hx
  have e2 := evK_evalX he hi
  unfold evalOp
  rw [litOp_none (x := x) (by simp [Op.operands]) (by rw [e1]; rfl)]
  have h1 : (m : Int) < (len : Int) := by omega
  simp [e1, e2, opIndexAddr, litOf, ht, hs, h1]

/-- An operation on structs (arrays) of plain values: x == y. -/
theorem K.bin2 {op : BinOp} {t u : TypeId} {x y : Operand} {xv yv : XV} {a b v : Value} (hx : evK kn x = some xv) (hy : evK kn y = some yv) (hl : litOf xv = none) (hn : opEqNil P op t xv yv = none) (ha : litOf2 xv = some a) (hb : litOf2 yv = some b)
    (hr : pureRun P (do eqGuard op t x y a b; binOp op t a b : Sem Value) = some v) : KEv P ⟨dst, .binOp op t x y u, ty, pos, af, g⟩ σ kn (.d (.lit v)) σ 0 := ev_op fun env he => by
  have e1 := evK_evalX he hx
  have e2 := evK_evalX he hy
  unfold evalOp
  rw [litOp_none (x := x) (by simp [Op.operands]) (by rw [e1]; exact hl)]
  have h3 : opBin2 P op t x y xv yv = some v := by unfold opBin2; rw [ha, hb]; exact hr
  simp [e1, e2, hn, h3]

/-- A struct that is read at an address. -/
theorem K.loadAgg {x : Operand} {t : TypeId} {cs : List DV} {m : Nat} (hx : evK kn x = some (.d (.ptr cs))) (ha : isAggT P t = some true) (hs : sizeT P t = some m) (hm : m ≤ cs.length) :
    KEv P ⟨dst, .load t x, ty, pos, af, g⟩ σ kn (.d (.agg (cs.take m))) σ 0 := ev_op fun env he => by
  have e1 := evK_evalX he hx
  unfold evalOp
  rw [litOp_none (x := x) (by simp [Op.operands]) (by rw [e1]; rfl)]
  have h2 : aggX ((cs.map XV.d).take m) = .d (.agg (cs.take m)) := by rw [← List.map_take, aggX_d]
  simp only [e1, opLoad, takeVar, ha, hs]
  rw [if_pos (by simpa using hm), h2]; rfl

theorem K.loadOAgg {x : Operand} {t : TypeId} {id off m : Nat} {ob : VObj} (hx : evK kn x = some (.optr id off)) (ho : σ[id]? = some ob) (h2 : ob.mode ≠ 2) (ha : isAggT P t = some true) (hs : sizeT P t = some m) (hm : m ≤ (ob.cells.drop off).length) :
    KEv P ⟨dst, .load t x, ty, pos, af, g⟩ σ kn (aggX ((ob.cells.drop off).take m)) σ 1 := ev_op fun env he => by
  have e1 := evK_evalX he hx
  unfold evalOp
  rw [litOp_none (x := x) (by simp [Op.operands]) (by rw [e1]; rfl)]
  simp only [e1, opLoad, takeVar, ha, hs, ho]
  rw [if_neg h2, if_pos hm]; rfl

/-- A variable of one's own. -/
theorem K.alloc {t : TypeId} {z : Value} (hz : zeroT P t = some z) : KEv P ⟨dst, .alloc t, ty, pos, af, g⟩ σ kn (.optr σ.length 0) (σ ++ [⟨z.cells.toList.map fun v => .d (.lit v), 0⟩]) 3 := ev_op fun env he => by
  unfold evalOp
  have : litOp P env ⟨dst, .alloc t, ty, pos, af, g⟩ = none := by
    unfold litOp
    rw [if_pos (by simp [Op.operands, isSelect])]
    have : pureRun P (execOp (fun x => (litOf (evalX env x)).getD undef) ⟨dst, .alloc t, ty, pos, af, g⟩) = none := by
      simp only [execOp]
      rw [pureRun_bind]
      have : pureRun P (Instr.alloc t true (.tuple #[])) = none := by
        unfold Instr.alloc
        refine pureRun_none _ _ fun a => ?_
        rfl
      rw [this]; rfl
    rw [this]
  rw [this]
  simp [opAlloc, hz]

theorem litOp_box {env : Nat → XV} {t : TypeId} {x : Operand} : litOp P env ⟨dst, .box t x, ty, pos, af, g⟩ = none := by
  unfold litOp
  split
  · have : pureRun P (execOp (fun x => (litOf (evalX env x)).getD undef) ⟨dst, .box t x, ty, pos, af, g⟩) = none := by
      simp only [execOp]
      rw [pureRun_bind]
      have : ∀ v, pureRun P (Instr.box t v) = none := fun v => by
        unfold Instr.box
        rw [pureRun_bind]
        rfl
      rw [this]; rfl
    rw [this]
  · rfl

theorem K.box {t : TypeId} {x : Operand} {v : XV} (hx : evK kn x = some v) : KEv P ⟨dst, .box t x, ty, pos, af, g⟩ σ kn (.optr σ.length 0) (σ ++ [⟨cellsX v, 0⟩]) 3 := ev_op fun env he => by
  have e1 := evK_evalX he hx
  unfold evalOp
  rw [litOp_box]
  simp [e1, opBox]

/-- A store of so many cells. -/
theorem K.storeN {x y : Operand} {t : TypeId} {id off : Nat} {cells : List XV} {v : XV} (hx : evK kn x = some (.optr id off)) (hy : evK kn y = some v) (ho : σ[id]? = some ⟨cells, 0⟩) (hof : off + (cellsX v).length ≤ cells.length) (h1 : (cellsX v).all oneX = true)
    (hs : sizeT P t = some (cellsX v).length) : KEv P ⟨dst, .store t x y, ty, pos, af, g⟩ σ kn undefX (σ.set id ⟨splice cells off (cellsX v), 0⟩) 2 := ev_op fun env he => by
  have e1 := evK_evalX he hx
  have e2 := evK_evalX he hy
  unfold evalOp
  rw [litOp_none (x := x) (by simp [Op.operands]) (by rw [e1]; rfl)]
  have h4 : ∀ x ∈ cellsX v, oneX x = true := by simpa using h1
  simp only [e1, e2, opStore, ho, hs]
  rw [if_pos ⟨trivial, trivial, hof, h1⟩]
  rfl

/-- A struct or array that is built; not of plain values alone. -/
theorem K.build {t : TypeId} {parts : Array (Nat × Operand)} {qs : List (Nat × XV)} {x : Operand} {v r : XV} (hp : parts.toList.mapM (fun p => (evK kn p.2).map fun v => (p.1, v)) = some qs) (hx : x ∈ (parts.map (·.2))) (hv : evK kn x = some v) (hl : litOf v = none)
    (hr : opBuild P t qs = some r) : KEv P ⟨dst, .build t parts, ty, pos, af, g⟩ σ kn r σ 0 := ev_op fun env he => by
  have e1 := evK_evalX he hv
  unfold evalOp
  rw [litOp_none (x := x) (by simpa [Op.operands] using hx) (by rw [e1]; exact hl)]
  have e2 : (parts.toList.map fun p => (p.1, evalX env p.2)) = qs := by
    obtain ⟨h1, h2⟩ := mapM_get hp
    refine List.ext_getElem? fun i => ?_
    by_cases hi : i < parts.toList.length
    · have hi' : i < qs.length := by omega
      have h3 := h2 i _ _ (List.getElem?_eq_getElem hi) (List.getElem?_eq_getElem hi')
      rw [List.getElem?_map, List.getElem?_eq_getElem hi, List.getElem?_eq_getElem hi']
      obtain ⟨u, hu, h4⟩ := Option.map_eq_some_iff.1 h3
      simp only [Option.map_some]
      rw [evK_evalX he hu, h4]
    · rw [List.getElem?_eq_none (by simp at hi ⊢; omega), List.getElem?_eq_none (by rw [← h1]; omega)]
  simp only [e2, hr]; rfl

/-- max of two ints. -/
theorem K.max2 {x y : Operand} {ts : Array TypeId} {a b : Int} (hx : evK kn x = some (.d (DI a))) (hy : evK kn y = some (.d (DI b))) :
    KEv P ⟨dst, .call ⟨.builtin .max, #[x, y], ts⟩, ty, pos, af, g⟩ σ kn (.d (DI (max a b))) σ 0 := ev_lit fun env he => by
  have e1 := evK_evalX he hx
  have e2 := evK_evalX he hy
  unfold litOp
  rw [if_pos (by simp [Op.operands, Call.operands, isSelect, e1, e2, litOf])]
  have e3 : pureRun P (execOp (fun x => (litOf (evalX env x)).getD undef) ⟨dst, .call ⟨.builtin .max, #[x, y], ts⟩, ty, pos, af, g⟩) = some (.value (.int .i64 (max a b))) := by
    simp only [execOp, resolve, List.map_toArray, List.map_cons, List.map_nil, e1, e2, litOf, Option.getD_some]
    rw [pureRun_bind]
    show (some _).bind _ = _
    simp only [Option.bind_some, invoke, builtin]
    rw [pureRun_v (v := .int .i64 (max a b))]
    show pureRun P (Builtin.max_ ts ty #[.int .i64 a, .int .i64 b]) = _
    show some (Value.int .i64 (if a < b then b else a)) = _
    congr 2
    split <;> omega
  rw [e3]

theorem mapM_evK {env : Nat → XV} (he : Agree kn env) {args : List Operand} {xs : List XV} (ha : args.mapM (evK kn) = some xs) : args.map (evalX env) = xs := by
  obtain ⟨h1, h2⟩ := mapM_get ha
  refine List.ext_getElem? fun i => ?_
  by_cases hi : i < args.length
  · have hi' : i < xs.length := by omega
    have := h2 i _ _ (List.getElem?_eq_getElem hi) (List.getElem?_eq_getElem hi')
    rw [List.getElem?_map, List.getElem?_eq_getElem hi, List.getElem?_eq_getElem hi']
    simp only [Option.map_some]
    rw [evK_evalX he this]
  · rw [List.getElem?_eq_none (by simp at hi ⊢; omega), List.getElem?_eq_none (by rw [← h1]; omega)]

/-- What a call among the caller's own objects does: it leaves these objects and gives this value. -/
def OwnCall (P : Program) (f : FuncId) (σ : List VObj) (args : List XV) (σ' : List VObj) (x : XV) : Prop :=
  ∀ (M : Nat → Prop) (W0 : World), InCall P M W0 f σ args (fun σ2 x2 => σ2 = σ' ∧ x2 = x)

/-- A call that may write the caller's objects. -/
theorem K.callO {f : FuncId} {args : Array Operand} {ts : Array TypeId} {xs : List XV} {σ' : List VObj} {x : XV} (ha : args.toList.mapM (evK kn) = some xs) (hp : plainFn P f = true) (hc : OwnCall P f σ xs σ' x) :
    KEv P ⟨dst, .call ⟨.value (.func f), args, ts⟩, ty, pos, af, g⟩ σ kn x σ' 2 := fun env he =>
  .inl (first := []) (caps := []) rfl (by simp [evalX, asFn]) hp (by
    simp only [List.nil_append, List.append_nil]
    rw [mapM_evK he ha]; exact hc)

/-- A call that makes objects and writes none. -/
theorem K.callG {f : FuncId} {args : Array Operand} {ts : Array TypeId} {xs : List XV} {τ : List VObj} {x : XV} (ha : args.toList.mapM (evK kn) = some xs) (hp : plainFn P f = true) (hc : OwnCall P f σ xs (σ ++ τ) x) :
    KEv P ⟨dst, .call ⟨.value (.func f), args, ts⟩, ty, pos, af, g⟩ σ kn x (σ ++ τ) 3 := fun env he =>
  .inlG (first := []) (caps := []) rfl (by simp [evalX, asFn]) hp (by
    simp only [List.nil_append, List.append_nil]
    rw [mapM_evK he ha]; exact hc)

/-- .. of a function value. -/
theorem K.callV {c : Operand} {v : XV} {f : FuncId} {first caps : List XV} {args : Array Operand} {ts : Array TypeId} {xs : List XV} {σ' : List VObj} {x : XV} (hv : evK kn c = some v) (hf : asFn v = some (f, first, caps)) (ha : args.toList.mapM (evK kn) = some xs)
    (hp : plainFn P f = true) (hc : OwnCall P f σ (first ++ xs ++ caps) σ' x) : KEv P ⟨dst, .call ⟨.value c, args, ts⟩, ty, pos, af, g⟩ σ kn x σ' 2 := fun env he =>
  .inl (first := first) (caps := caps) rfl (by rw [evK_evalX he hv]; exact hf) hp (by rw [mapM_evK he ha]; exact hc)

/-- A part of a plain tuple. -/
theorem K.extractL {x : Operand} {i : Nat} {vs : Array Value} {v : Value} (hx : evK kn x = some (.d (.lit (.tuple vs)))) (hv : vs[i]? = some v) : KEv P ⟨dst, .extract x i, ty, pos, af, g⟩ σ kn (.d (.lit v)) σ 0 :=
  K.lit (ρ := fun _ => .tuple vs) (fun y hy => by simp [Op.operands] at hy; subst hy; exact hx) rfl (by
    simp only [execOp]
    refine pureRun_v ?_
    simp only [Instr.extract, hv]
    rfl)

/-- A result that lies in a variable: a struct or an array. -/
theorem resK_agg {fn : Func} {a t : Nat} {id off m : Nat} {ob : VObj} (hr : fn.results = #[.cell a t]) (hl : look kn a = some (.optr id off)) (ho : σ[id]? = some ob) (h2 : ob.mode ≠ 2) (ha : isAggT P t = some true) (hs : sizeT P t = some m)
    (hm : m ≤ (ob.cells.drop off).length) : resK P fn σ kn = some (aggX ((ob.cells.drop off).take m)) := by
  have h3 : opLoad P σ t (.optr id off) = some (aggX ((ob.cells.drop off).take m), 1) := by
    simp only [opLoad, takeVar, ha, hs, ho]
    rw [if_neg h2, if_pos hm]; rfl
  simp [resK, hr, resVarK, hl, h3]

/-- .. or one cell. -/
theorem resK_one {fn : Func} {a t : Nat} {id off : Nat} {ob : VObj} {y : XV} (hr : fn.results = #[.cell a t]) (hl : look kn a = some (.optr id off)) (ho : σ[id]? = some ob) (h2 : ob.mode ≠ 2) (ha : isAggT P t = some false) (hy : ob.cells[off]? = some y) :
    resK P fn σ kn = some y := by
  have h3 : opLoad P σ t (.optr id off) = some (y, 1) := by
    have : (ob.cells.drop off).head? = some y := by rw [List.head?_drop]; exact hy
    simp [opLoad, takeVar, ha, ho, h2, this]
  simp [resK, hr, resVarK, hl, h3]

/-- A call of a function without a body. -/
theorem K.ext {f : FuncId} {args : Array Operand} {ts : Array TypeId} {us : List Value} {v : Value} (ha : args.toList.mapM (evK kn) = some (us.map fun u => .d (.lit u))) (hr : pureRun P (callFunc f us.toArray) = some (.value v)) :
    KEv P ⟨dst, .call ⟨.value (.func f), args, ts⟩, ty, pos, af, g⟩ σ kn (.d (.lit v)) σ 0 := ev_op fun env he => by
  have e1 := mapM_evK he ha
  unfold evalOp
  rw [litOp_none (x := .func f) (by simp [Op.operands, Call.operands]) rfl]
  have e2 : args.map (fun x => (fnLit env x).getD undef) = us.toArray ∧ ∀ x ∈ args, (fnLit env x).isSome = true := by
    have key : ∀ (i : Nat) (x : Operand), args[i]? = some x → ∃ u, us[i]? = some u ∧ fnLit env x = some u := by
      intro i x hx
      have h1 : (args.toList.map (evalX env))[i]? = some (evalX env x) := by simp [hx]
      rw [e1, List.getElem?_map, Option.map_eq_some_iff] at h1
      obtain ⟨u, hu, h2⟩ := h1
      refine ⟨u, hu, ?_⟩
      cases x with
      | func g => simp [evalX] at h2
      | tmp t => simp only [fnLit, ← h2]; rfl
      | const c => simp only [fnLit, ← h2]; rfl
      | global c => simp only [fnLit, ← h2]; rfl
    refine ⟨?_, fun x hx => ?_⟩
    · have hlen : args.size = us.length := by
        have := congrArg List.length e1
        simpa using this
      apply Array.ext
      · simp [hlen]
      · intro i h1 h2
        have hi : i < args.size := by simpa using h1
        obtain ⟨u, hu, h3⟩ := key i args[i] (Array.getElem?_eq_getElem hi)
        have hiu : i < us.length := by simpa using h2
        rw [List.getElem?_eq_getElem hiu] at hu
        simp only [Option.some.injEq] at hu
        simp [h3, hu]
    · obtain ⟨i, hi, rfl⟩ := Array.getElem_of_mem hx
      obtain ⟨u, _, h3⟩ := key i args[i] (Array.getElem?_eq_getElem hi)
      rw [h3]; rfl
  have e3 : opExt P env ⟨dst, .call ⟨.value (.func f), args, ts⟩, ty, pos, af, g⟩ = some v := by
    unfold opExt
    rw [if_pos (by
      simp only [isSelect, Bool.not_false, Bool.and_true, Array.all_eq_true_iff_forall_mem]
      intro x hx
      simp only [Op.operands, Call.operands, Array.mem_append] at hx
      rcases hx with hx | hx
      · simp at hx; subst hx; rfl
      · exact e2.2 x hx)]
    have e4 : pureRun P (execOp (fun x => (fnLit env x).getD undef) ⟨dst, .call ⟨.value (.func f), args, ts⟩, ty, pos, af, g⟩) = some (.value v) := by
      simp only [execOp, resolve, e2.1]
      rw [pureRun_bind]
      show (some _).bind _ = _
      simp only [Option.bind_some, invoke]
      have : (#[] ++ us.toArray ++ #[] : Array Value) = us.toArray := by simp
      first | exact hr | (rw [this]; exact hr) | simpa using hr
    rw [e4]
  simp [e3]

/-- A call of a function value, on deep values. -/
theorem K.callW {c : Operand} {v : XV} {f : FuncId} {args : Array Operand} {ts : Array TypeId} {ds : List DV} {res : DV} (hv : evK kn c = some v) (hf : asFn v = some (f, [], [])) (ha : args.toList.mapM (evK kn) = some (ds.map .d))
    (hp : plainFn P f = true) (hc : DeepCall P f ds res) : KEv P ⟨dst, .call ⟨.value c, args, ts⟩, ty, pos, af, g⟩ σ kn (.d res) σ 0 := fun env he =>
  .call (first := []) (caps := []) rfl (by rw [evK_evalX he hv]; exact hf) hp (by rw [mapM_evK he ha]; simp) hc

/-- A call that gets some of the caller's objects, which are not written from here on. -/
theorem K.callZ {f : FuncId} {args : Array Operand} {ts : Array TypeId} {xs : List XV} {ds : List DV} {res : DV} (ids : List Nat) (m : Nat) (ha : args.toList.mapM (evK kn) = some xs) (hp : plainFn P f = true) (hd : xs.mapM (deepen (freezeIds σ ids) m) = some ds)
    (hc : DeepCall P f ds res) : KEv P ⟨dst, .call ⟨.value (.func f), args, ts⟩, ty, pos, af, g⟩ σ kn (.d res) (freezeIds σ ids) 3 := fun env he =>
  .callF (first := []) (caps := []) ids m rfl (by simp [evalX, asFn]) hp (by
    simp only [List.map_nil, List.nil_append, List.append_nil]
    rw [mapM_evK he ha]; exact hd) hc

/-- THE CONTRACT OF A FUNCTION among its caller's objects, by a walk over its body. -/
theorem ownCall_K {f : FuncId} {fn : Func} {c : Code} {args : List XV} {σ' : List VObj} {x : XV} (hf : P.funcs[f]? = some fn) (hb : fn.body = some c) (hn : args.length ≤ fn.ntmps)
    (h : ∀ (M : Nat → Prop) (W0 : World), KC P M W0 fn.ntmps c σ (enterK 0 args) (fun e σ2 kn => (e = .ret ∨ e = .normal) ∧ resK P fn σ2 kn = some x ∧ σ2 = σ')) : OwnCall P f σ args σ' x := fun M W0 =>
  inCall_of hf hb hn ((h M W0 _ (agree_enter σ args)).mono fun e s ⟨kn, h1, h2, h3, h4⟩ => ⟨h2, x, resK_X h1 h3, h4, rfl⟩)

/-- A contract on deep values, from one among objects. -/
theorem OwnCall.deep {f : FuncId} {args : List DV} {σ' : List VObj} {x : XV} {res : DV} (k : Nat) (h : OwnCall P f [] (args.map .d) σ' x) (hd : deepen (freezeAll σ') k x = some res) : DeepCall P f args res :=
  deepCall_of_inCall k fun M W0 ι w vs hm hl hx => (h M W0 ι w vs hm hl hx).mono fun e w' => by
    rintro ⟨ι', σ2, x2, v, h1, h2, h3, h4, rfl, rfl⟩
    exact ⟨ι', _, _, v, h1, h2, h3, h4, hd⟩

end
end Go.Vm

