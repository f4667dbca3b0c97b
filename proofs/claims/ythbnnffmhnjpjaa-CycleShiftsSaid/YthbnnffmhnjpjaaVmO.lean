import Derived.Test.YthbnnffmhnjpjaaVmN
/-
  VALUES WITHOUT ADDRESSES, 15: the rules, operation by operation.
-/
namespace Go.Vm
open Go.RowKit

theorem pureRun_bind {α β : Type} {P : Program} (s : Sem α) (f : α → Sem β) : pureRun P (s >>= f) = (pureRun P s).bind fun a => pureRun P (f a) := by
  show pureRun P (Sem.bind s f) = _
  induction s with
  | pure a => rfl
  | program k ih => exact ih P
  | mark m k ih => exact ih
  | _ => rfl

theorem pureRun_pure {α : Type} {P : Program} (a : α) : pureRun P (pure a : Sem α) = some a := rfl

abbrev DI (n : Int) : DV := .lit (.int .i64 n)
abbrev DB (b : Bool) : DV := .lit (.bool b)
abbrev Dnil : DV := .lit (.slice none 0 0)

/-- A slice, nil or not, that reads as a list. -/
inductive Vec {α : Type} (R : DV → α → Prop) : DV → List α → Prop
  | nil : Vec R Dnil []
  | sl {cs : List DV} {l : List α} {cap : Option Nat} (hn : cs.length = l.length) (h : ∀ (i : Nat) (c : DV) (x : α), cs[i]? = some c → l[i]? = some x → R c x) : Vec R (.sl cs l.length cap) l

abbrev IsI (c : DV) (n : Int) : Prop := c = DI n
abbrev Ints : DV → List Int → Prop := Vec IsI
abbrev Mat : DV → List (List Int) → Prop := Vec Ints

section
variable {P : Program} {σ : List VObj} {kn : Kn} {dst : Option Tmp} {ty : TypeId} {pos : String} {af : Array Edge} {g : Option (Nat × Bool)}

theorem ev_lit {o : Oper} {kn : Kn} {v : Value} (h : ∀ env, Agree kn env → litOp P env o = some v) : KEv P o σ kn (.d (.lit v)) σ 0 := fun env he =>
  .op (by unfold evalOp; simp only [h env he])

theorem ev_op {o : Oper} {kn : Kn} {x : XV} {σ' : List VObj} {fl : Nat} (h : ∀ env, Agree kn env → evalOp P o ⟨σ, env⟩ = some (x, σ', fl)) : KEv P o σ kn x σ' fl := fun env he => .op (h env he)

theorem litOp_none {o : Oper} {env : Nat → XV} {x : Operand} (hx : x ∈ o.op.operands) (h : litOf (evalX env x) = none) : litOp P env o = none := by
  unfold litOp
  rw [if_neg]
  simp only [Bool.and_eq_true, not_and]
  intro hall
  have := Array.all_eq_true_iff_forall_mem.1 hall x hx
  rw [h] at this; cases this

theorem K.move {x : Operand} {v : XV} (h : evK kn x = some v) : KEv P ⟨dst, .move x, ty, pos, af, g⟩ σ kn v σ 0 := ev_op fun env he => by
  have e := evK_evalX he h
  unfold evalOp
  cases hl : litOp P env ⟨dst, .move x, ty, pos, af, g⟩ with
  | none => simp [e]
  | some u =>
    unfold litOp at hl
    split at hl
    · rename_i hc
      simp [Op.operands, isSelect, e] at hc
      obtain ⟨w, hw⟩ := Option.isSome_iff_exists.1 hc
      simp [execOp, e, hw] at hl
      have e2 : pureRun P (pure (Next.value w) : Sem Next) = some (.value w) := rfl
      rw [e2] at hl
      simp at hl; subst hl
      unfold litOf at hw
      split at hw
      · cases hw; rfl
      · cases hw
    · cases hl

theorem K.assign {x : Operand} {v : XV} (h : evK kn x = some v) : KEv P ⟨dst, .assign x, ty, pos, af, g⟩ σ kn v σ 0 := ev_op fun env he => by
  have e := evK_evalX he h
  unfold evalOp
  cases hl : litOp P env ⟨dst, .assign x, ty, pos, af, g⟩ with
  | none => simp [e]
  | some u =>
    unfold litOp at hl
    split at hl
    · rename_i hc
      simp [Op.operands, isSelect, e] at hc
      obtain ⟨w, hw⟩ := Option.isSome_iff_exists.1 hc
      simp [execOp, e, hw] at hl
      have e2 : pureRun P (pure (Next.value w) : Sem Next) = some (.value w) := rfl
      rw [e2] at hl
      simp at hl; subst hl
      unfold litOf at hw
      split at hw
      · cases hw; rfl
      · cases hw
    · cases hl

theorem pureRun_v {s : Sem Value} {v : Value} (h : pureRun P s = some v) : pureRun P (do pure (Next.value (← s)) : Sem Next) = some (.value v) := by
  rw [pureRun_bind, h]; rfl

/-- A binary operation on plain values. -/
theorem K.bin {op : BinOp} {t u : TypeId} {x y : Operand} {a b v : Value} (hx : evK kn x = some (.d (.lit a))) (hy : evK kn y = some (.d (.lit b)))
    (hr : pureRun P (do eqGuard op t x y a b; binOp op t a b : Sem Value) = some v) : KEv P ⟨dst, .binOp op t x y u, ty, pos, af, g⟩ σ kn (.d (.lit v)) σ 0 := ev_lit fun env he => by
  have e1 := evK_evalX he hx
  have e2 := evK_evalX he hy
  unfold litOp
  rw [if_pos (by simp [Op.operands, isSelect, e1, e2, litOf])]
  have e3 : execOp (fun x => (litOf (evalX env x)).getD undef) ⟨dst, .binOp op t x y u, ty, pos, af, g⟩ = (do pure (Next.value (← (do eqGuard op t x y a b; binOp op t a b : Sem Value))) : Sem Next) := by
    simp [execOp, e1, e2, litOf]
  rw [e3, pureRun_v hr]

theorem eqGuard_int (op : BinOp) (t : TypeId) (x y : Operand) (k k' : IntKind) (a b : Int) : pureRun P (eqGuard op t x y (.int k a) (.int k' b)) = some () := by
  unfold eqGuard; cases op <;> rfl

theorem bin_int {op : BinOp} {t : TypeId} {x y : Operand} {k k' : IntKind} {a b : Int} {v : Value} (h : pureRun P (binOp op t (.int k a) (.int k' b)) = some v) :
    pureRun P (do eqGuard op t x y (.int k a) (.int k' b); binOp op t (.int k a) (.int k' b) : Sem Value) = some v := by
  rw [pureRun_bind, eqGuard_int]; exact h

section ints
variable {t u : TypeId} {x y : Operand} {k : IntKind} {a b : Int} (hx : evK kn x = some (.d (.lit (.int k a)))) (hy : evK kn y = some (.d (.lit (.int k b))))
include hx hy

theorem K.add {c : Int} (hc : k.wrap (a + b) = c) : KEv P ⟨dst, .binOp .add t x y u, ty, pos, af, g⟩ σ kn (.d (.lit (.int k c))) σ 0 :=
  K.bin hx hy (bin_int (by subst hc; cases k <;> rfl))
theorem K.sub {c : Int} (hc : k.wrap (a - b) = c) : KEv P ⟨dst, .binOp .sub t x y u, ty, pos, af, g⟩ σ kn (.d (.lit (.int k c))) σ 0 :=
  K.bin hx hy (bin_int (by subst hc; cases k <;> rfl))
theorem K.mul {c : Int} (hc : k.wrap (a * b) = c) : KEv P ⟨dst, .binOp .mul t x y u, ty, pos, af, g⟩ σ kn (.d (.lit (.int k c))) σ 0 :=
  K.bin hx hy (bin_int (by subst hc; cases k <;> rfl))
theorem K.quo {c : Int} (h0 : b ≠ 0) (hc : k.wrap (a.tdiv b) = c) : KEv P ⟨dst, .binOp .quo t x y u, ty, pos, af, g⟩ σ kn (.d (.lit (.int k c))) σ 0 :=
  K.bin hx hy (bin_int (by
    subst hc
    have : binOp .quo t (.int k a) (.int k b) = Op.intDiv .quo k a b := by cases k <;> rfl
    rw [this]; unfold Op.intDiv; rw [if_neg h0]; rfl))
theorem K.rem {c : Int} (h0 : b ≠ 0) (hc : a.tmod b = c) : KEv P ⟨dst, .binOp .rem t x y u, ty, pos, af, g⟩ σ kn (.d (.lit (.int k c))) σ 0 :=
  K.bin hx hy (bin_int (by
    subst hc
    have : binOp .rem t (.int k a) (.int k b) = Op.intDiv .rem k a b := by cases k <;> rfl
    rw [this]; unfold Op.intDiv; rw [if_neg h0]; rfl))
theorem K.lss : KEv P ⟨dst, .binOp .lss t x y u, ty, pos, af, g⟩ σ kn (.d (DB (decide (a < b)))) σ 0 := K.bin hx hy (bin_int (by cases k <;> rfl))
theorem K.leq : KEv P ⟨dst, .binOp .leq t x y u, ty, pos, af, g⟩ σ kn (.d (DB (decide (a ≤ b)))) σ 0 := K.bin hx hy (bin_int (by cases k <;> rfl))
theorem K.gtr : KEv P ⟨dst, .binOp .gtr t x y u, ty, pos, af, g⟩ σ kn (.d (DB (decide (b < a)))) σ 0 := K.bin hx hy (bin_int (by cases k <;> rfl))
theorem K.geq : KEv P ⟨dst, .binOp .geq t x y u, ty, pos, af, g⟩ σ kn (.d (DB (decide (b ≤ a)))) σ 0 := K.bin hx hy (bin_int (by cases k <;> rfl))
theorem K.eql : KEv P ⟨dst, .binOp .eql t x y u, ty, pos, af, g⟩ σ kn (.d (DB (decide (a = b)))) σ 0 := K.bin hx hy (bin_int (by
  have : (a == b) = decide (a = b) := by by_cases h : a = b <;> simp [h]
  rw [← this]; cases k <;> rfl))
theorem K.neq : KEv P ⟨dst, .binOp .neq t x y u, ty, pos, af, g⟩ σ kn (.d (DB (decide (a ≠ b)))) σ 0 := K.bin hx hy (bin_int (by
  have : (a != b) = decide (a ≠ b) := by by_cases h : a = b <;> simp [h]
  rw [← this]; cases k <;> rfl))
end ints

theorem equal_bool {t : TypeId} (ht : P.underlying t = some .bool) (a b : Bool) : pureRun P (Op.equal t (.bool a) (.bool b)) = some (a == b) := by
  show pureRun P (Op.equalIn (9999 + 1) t (.bool a) (.bool b)) = _
  unfold Op.equalIn
  rw [pureRun_bind]
  have : pureRun P (underlying t) = some .bool := by
    unfold underlying
    rw [pureRun_bind]
    show (some P).bind _ = _
    simp only [Option.bind_some, ht]; rfl
  rw [this]; rfl

theorem K.eqB {t u : TypeId} {x y : Operand} {a b : Bool} (ht : P.underlying t = some .bool) (hx : evK kn x = some (.d (DB a))) (hy : evK kn y = some (.d (DB b))) :
    KEv P ⟨dst, .binOp .eql t x y u, ty, pos, af, g⟩ σ kn (.d (DB (a == b))) σ 0 :=
  K.bin hx hy (by
    rw [pureRun_bind]
    show (some ()).bind _ = _
    simp only [Option.bind_some]
    show pureRun P (do pure (Value.bool (← Op.equal t (.bool a) (.bool b))) : Sem Value) = _
    rw [pureRun_bind, equal_bool ht]; rfl)

theorem K.unI {t : TypeId} {x : Operand} {k : IntKind} {a c : Int} (hx : evK kn x = some (.d (.lit (.int k a)))) (hc : k.wrap (0 - a) = c) : KEv P ⟨dst, .unOp .neg t x, ty, pos, af, g⟩ σ kn (.d (.lit (.int k c))) σ 0 := ev_lit fun env he => by
  have e1 := evK_evalX he hx
  subst hc
  unfold litOp
  rw [if_pos (by simp [Op.operands, isSelect, e1, litOf])]
  have e3 : execOp (fun x => (litOf (evalX env x)).getD undef) ⟨dst, .unOp .neg t x, ty, pos, af, g⟩ = (do pure (Next.value (← Op.unary .neg (.int k a))) : Sem Next) := by
    simp [execOp, e1, litOf]
  rw [e3, pureRun_v (v := .int k (k.wrap (0 - a))) rfl]

theorem K.not {t : TypeId} {x : Operand} {a : Bool} (hx : evK kn x = some (.d (DB a))) : KEv P ⟨dst, .unOp .not t x, ty, pos, af, g⟩ σ kn (.d (DB (!a))) σ 0 := ev_lit fun env he => by
  have e1 := evK_evalX he hx
  unfold litOp
  rw [if_pos (by simp [Op.operands, isSelect, e1, litOf])]
  have e3 : execOp (fun x => (litOf (evalX env x)).getD undef) ⟨dst, .unOp .not t x, ty, pos, af, g⟩ = (do pure (Next.value (← Op.unary .not (.bool a))) : Sem Next) := by
    simp [execOp, e1, litOf]
  rw [e3, pureRun_v (v := .bool (!a)) rfl]

/-- The answer of '&&', '||'. -/
theorem K.pick {c a b : Operand} {t : Bool} {v : XV} (hc : evK kn c = some (.d (DB t))) (ha : t = true → evK kn a = some v) (hb : t = false → evK kn b = some v) : KEv P ⟨dst, .pick c a b, ty, pos, af, g⟩ σ kn v σ 0 := ev_op fun env he => by
  have e1 := evK_evalX he hc
  have hv : (if t then evalX env a else evalX env b) = v := by
    cases t with
    | true => exact evK_evalX he (ha rfl)
    | false => exact evK_evalX he (hb rfl)
  unfold evalOp
  cases hl : litOp P env ⟨dst, .pick c a b, ty, pos, af, g⟩ with
  | none => simp [e1, litOf]; simpa using hv
  | some u =>
    unfold litOp at hl
    split at hl
    · rename_i hcc
      have h3 : (litOf (evalX env a)).isSome = true ∧ (litOf (evalX env b)).isSome = true := by simpa [Op.operands, isSelect, e1, litOf] using hcc
      obtain ⟨wa, hwa⟩ := Option.isSome_iff_exists.1 h3.1
      obtain ⟨wb, hwb⟩ := Option.isSome_iff_exists.1 h3.2
      have la : ∀ z w, litOf z = some w → z = .d (.lit w) := fun z w hz => by
        unfold litOf at hz
        split at hz
        · cases hz; rfl
        · cases hz
      have e3 : pureRun P (execOp (fun x => (litOf (evalX env x)).getD undef) ⟨dst, .pick c a b, ty, pos, af, g⟩) = some (.value (if t then wa else wb)) := by
        have e0 : (litOf (evalX env c)).getD undef = .bool t := by rw [e1]; rfl
        simp only [execOp, e0, Option.getD_some, hwa, hwb]
        rw [pureRun_bind]
        cases t <;> rfl
      rw [e3] at hl
      simp at hl; subst hl
      rw [la _ _ hwa, la _ _ hwb] at hv
      simp only
      cases t <;> simp at hv ⊢ <;> exact hv
    · cases hl

theorem litOf_vec {α : Type} {R : DV → α → Prop} {d : DV} {l : List α} (h : Vec R d l) : (d = Dnil ∧ l = []) ∨ ∃ cs cap, d = .sl cs l.length cap ∧ cs.length = l.length ∧ ∀ (i : Nat) (c : DV) (x : α), cs[i]? = some c → l[i]? = some x → R c x := by
  cases h with
  | nil => exact .inl ⟨rfl, rfl⟩
  | sl hn h => exact .inr ⟨_, _, rfl, hn, h⟩

theorem pureRun_underlying {t : TypeId} {d : TypeDesc} (h : P.underlying t = some d) : pureRun P (underlying t) = some d := by
  unfold underlying
  rw [pureRun_bind]
  show (some P).bind _ = _
  simp only [Option.bind_some, h]; rfl

theorem K.len {α : Type} {R : DV → α → Prop} {x : Operand} {t e : TypeId} {d : DV} {l : List α} (hx : evK kn x = some (.d d)) (hv : Vec R d l) (ht : P.underlying t = some (.slice e)) :
    KEv P ⟨dst, .call ⟨.builtin .len, #[x], #[t]⟩, ty, pos, af, g⟩ σ kn (.d (DI l.length)) σ 0 := by
  rcases litOf_vec hv with ⟨rfl, rfl⟩ | ⟨cs, cap, rfl, _, _⟩
  · refine ev_lit fun env he => ?_
    have e1 := evK_evalX he hx
    unfold litOp
    rw [if_pos (by simp [Op.operands, Call.operands, isSelect, e1, litOf])]
    have e3 : pureRun P (execOp (fun x => (litOf (evalX env x)).getD undef) ⟨dst, .call ⟨.builtin .len, #[x], #[t]⟩, ty, pos, af, g⟩) = some (.value (.int .i64 0)) := by
      simp only [execOp, resolve, List.map_toArray, List.map_cons, List.map_nil, e1, litOf, Option.getD_some]
      rw [pureRun_bind]
      show (some _).bind _ = _
      simp only [Option.bind_some, invoke, builtin]
      rw [pureRun_v (v := .int .i64 0)]
      show pureRun P (Builtin.len_ #[t] ty #[.slice none 0 0]) = _
      unfold Builtin.len_
      simp only [List.getElem?_toArray, List.getElem?_cons_zero]
      rw [pureRun_bind, pureRun_underlying ht]; rfl
    rw [e3]; rfl
  · refine ev_op fun env he => ?_
    have e1 := evK_evalX he hx
    unfold evalOp
    rw [litOp_none (x := x) (by simp [Op.operands, Call.operands]) (by rw [e1]; rfl)]
    simp [e1, opLen, isSliceT, ht]

/-- A variable of a slice that is read. -/
theorem K.idx {α : Type} {R : DV → α → Prop} {x i : Operand} {t e : TypeId} {d : DV} {l : List α} {m : Nat} (hx : evK kn x = some (.d d)) (hv : Vec R d l) (hi : evK kn i = some (.d (DI m))) (hm : m < l.length)
    (ht : P.underlying t = some (.slice e)) (hs : sizeT P e = some 1) : ∃ c cs, R c l[m] ∧ KEv P ⟨dst, .indexAddr t x i, ty, pos, af, g⟩ σ kn (.d (.ptr (c :: cs))) σ 0 := by
  rcases litOf_vec hv with ⟨rfl, rfl⟩ | ⟨cs, cap, rfl, hn, hr⟩
  · simp at hm
  · have hlt : m < cs.length := by omega
    refine ⟨cs[m], cs.drop (m + 1), hr m _ _ (List.getElem?_eq_getElem hlt) (List.getElem?_eq_getElem hm), ev_op fun env he => ?_⟩
    have e1 := evK_evalX he hx
    have e2 := evK_evalX he hi
    unfold evalOp
    rw [litOp_none (x := x) (by simp [Op.operands]) (by rw [e1]; rfl)]
    have h1 : (m : Int) < (l.length : Int) := by omega
    simp [e1, e2, opIndexAddr, litOf, ht, hs, h1]

theorem K.load {x : Operand} {t : TypeId} {c : DV} {cs : List DV} (hx : evK kn x = some (.d (.ptr (c :: cs)))) (ht : isAggT P t = some false) : KEv P ⟨dst, .load t x, ty, pos, af, g⟩ σ kn (.d c) σ 0 := ev_op fun env he => by
  have e1 := evK_evalX he hx
  unfold evalOp
  rw [litOp_none (x := x) (by simp [Op.operands]) (by rw [e1]; rfl)]
  simp [e1, opLoad, takeVar, ht]

theorem K.extract {x : Operand} {i : Nat} {ds : List DV} {c : DV} (hx : evK kn x = some (.d (.tup ds))) (hc : ds[i]? = some c) : KEv P ⟨dst, .extract x i, ty, pos, af, g⟩ σ kn (.d c) σ 0 := ev_op fun env he => by
  have e1 := evK_evalX he hx
  unfold evalOp
  rw [litOp_none (x := x) (by simp [Op.operands]) (by rw [e1]; rfl)]
  simp [e1, opExtract, hc]

/-- A call whose arguments are deep. -/
theorem K.call {f : FuncId} {args : Array Operand} {ts : Array TypeId} {ds : List DV} {res : DV} (ha : args.toList.mapM (evK kn) = some (ds.map .d)) (hp : plainFn P f = true) (hc : DeepCall P f ds res) :
    KEv P ⟨dst, .call ⟨.value (.func f), args, ts⟩, ty, pos, af, g⟩ σ kn (.d res) σ 0 := fun env he => by
  have e : args.toList.map (evalX env) = ds.map .d := by
    obtain ⟨h1, h2⟩ := mapM_get ha
    refine List.ext_getElem? fun i => ?_
    by_cases hi : i < args.toList.length
    · have hi' : i < (ds.map XV.d).length := by omega
      have := h2 i _ _ (List.getElem?_eq_getElem hi) (List.getElem?_eq_getElem hi')
      rw [List.getElem?_map, List.getElem?_eq_getElem hi, List.getElem?_eq_getElem hi']
      simp only [Option.map_some]
      rw [evK_evalX he this]
    · rw [List.getElem?_eq_none (by simp at hi ⊢; omega), List.getElem?_eq_none (by rw [← h1]; omega)]
  exact .call (first := []) (caps := []) rfl (by simp [evalX, asFn]) hp (by simpa using e) hc

end
end Go.Vm

