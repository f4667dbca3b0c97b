import Derived.Test.YthbnnffmhnjpjaaVmO
/-
  VALUES WITHOUT ADDRESSES, 16: more rules: what a walk over a body needs besides.
-/
namespace Go.Vm
open Go.RowKit

theorem wrap_id {n : Int} (h : -9223372036854775808 ≤ n ∧ n ≤ 9223372036854775807) : IntKind.i64.wrap n = n := by
  simp [IntKind.wrap, IntKind.bits, IntKind.signed]; omega

section
variable {A : List VObj → Kn → Prop} {T : Exit → List VObj → Kn → Prop} {σ : List VObj} {k : Kn} {id id' : Nat}
theorem thenK_n (h : A σ k) : thenK A T .normal σ k := h
theorem thenK_r (h : T .ret σ k) : thenK A T .ret σ k := h
theorem thenK_x (h : T (.exit id) σ k) : thenK A T (.exit id) σ k := h
theorem blockK_n (h : T .normal σ k) : blockK id T .normal σ k := h
theorem blockK_r (h : T .ret σ k) : blockK id T .ret σ k := h
theorem blockK_e (h : T .normal σ k) : blockK id T (.exit id) σ k := by simp [blockK, h]
theorem blockK_x (hne : ¬ id' = id) (h : T (.exit id') σ k) : blockK id T (.exit id') σ k := by simp [blockK, hne, h]
end

section
variable {P : Program} {n : Nat} {ops : Array Oper} {l : List Oper} {σ : List VObj} {kn : Kn} {dst : Option Tmp} {ty : TypeId} {pos : String} {af : Array Edge} {g : Option (Nat × Bool)}
  {R : List Nat → List VObj → Kn → Prop}

/-- A variable of a slice that is read, and the way on. -/
theorem KT.idx {α : Type} {Q : DV → α → Prop} {x i : Operand} {t e : TypeId} {d : DV} {xs : List α} {m : Nat} (hg : guardK ops kn ⟨dst, .indexAddr t x i, ty, pos, af, g⟩ = some true) (hd : dstOk n dst = true)
    (hx : evK kn x = some (.d d)) (hv : Vec Q d xs) (hi : evK kn i = some (.d (DI m))) (hm : m < xs.length) (ht : P.underlying t = some (.slice e)) (hs : sizeT P e = some 1)
    (h : ∀ c cs, Q c xs[m] → KT P n ops l σ (extK dst (.d (.ptr (c :: cs))) kn) (fun fls τ k => R (0 :: fls) τ k)) : KT P n ops (⟨dst, .indexAddr t x i, ty, pos, af, g⟩ :: l) σ kn R := by
  obtain ⟨c, cs, hc, hev⟩ := K.idx (P := P) (σ := σ) (dst := dst) (ty := ty) (pos := pos) (af := af) (g := g) hx hv hi hm ht hs
  exact KT.step hg hd hev (h c cs hc)

theorem KT.idxI {x i : Operand} {t e : TypeId} {d : DV} {xs : List Int} {m : Nat} (hg : guardK ops kn ⟨dst, .indexAddr t x i, ty, pos, af, g⟩ = some true) (hd : dstOk n dst = true)
    (hx : evK kn x = some (.d d)) (hv : Ints d xs) (hi : evK kn i = some (.d (DI m))) (hm : m < xs.length) (ht : P.underlying t = some (.slice e)) (hs : sizeT P e = some 1)
    (h : ∀ cs, KT P n ops l σ (extK dst (.d (.ptr (DI xs[m] :: cs))) kn) (fun fls τ k => R (0 :: fls) τ k)) : KT P n ops (⟨dst, .indexAddr t x i, ty, pos, af, g⟩ :: l) σ kn R :=
  KT.idx hg hd hx hv hi hm ht hs fun c cs hc => by cases hc; exact h cs

/-- Both ways of a test. -/
theorem KT.bcase {b : Bool} (h1 : b = true → KT P n ops l σ (extK dst (.d (DB true)) kn) R) (h2 : b = false → KT P n ops l σ (extK dst (.d (DB false)) kn) R) : KT P n ops l σ (extK dst (.d (DB b)) kn) R := by
  cases b with
  | true => exact h1 rfl
  | false => exact h2 rfl

theorem K.call0 {f : FuncId} {ts : Array TypeId} {res : DV} (hp : plainFn P f = true) (hc : DeepCall P f [] res) : KEv P ⟨dst, .call ⟨.value (.func f), #[], ts⟩, ty, pos, af, g⟩ σ kn (.d res) σ 0 :=
  K.call (ds := []) rfl hp hc

theorem K.call1 {f : FuncId} {a : Operand} {ts : Array TypeId} {d res : DV} (ha : evK kn a = some (.d d)) (hp : plainFn P f = true) (hc : DeepCall P f [d] res) : KEv P ⟨dst, .call ⟨.value (.func f), #[a], ts⟩, ty, pos, af, g⟩ σ kn (.d res) σ 0 :=
  K.call (ds := [d]) (by simp [ha]) hp hc

theorem K.call2 {f : FuncId} {a b : Operand} {ts : Array TypeId} {d e res : DV} (ha : evK kn a = some (.d d)) (hb : evK kn b = some (.d e)) (hp : plainFn P f = true) (hc : DeepCall P f [d, e] res) :
    KEv P ⟨dst, .call ⟨.value (.func f), #[a, b], ts⟩, ty, pos, af, g⟩ σ kn (.d res) σ 0 :=
  K.call (ds := [d, e]) (by simp [ha, hb]) hp hc

theorem K.call3 {f : FuncId} {a b c : Operand} {ts : Array TypeId} {d e x res : DV} (ha : evK kn a = some (.d d)) (hb : evK kn b = some (.d e)) (hc' : evK kn c = some (.d x)) (hp : plainFn P f = true) (hc : DeepCall P f [d, e, x] res) :
    KEv P ⟨dst, .call ⟨.value (.func f), #[a, b, c], ts⟩, ty, pos, af, g⟩ σ kn (.d res) σ 0 :=
  K.call (ds := [d, e, x]) (by simp [ha, hb, hc']) hp hc

theorem K.call4 {f : FuncId} {a b c u : Operand} {ts : Array TypeId} {d e x y res : DV} (ha : evK kn a = some (.d d)) (hb : evK kn b = some (.d e)) (hc' : evK kn c = some (.d x)) (hu : evK kn u = some (.d y)) (hp : plainFn P f = true)
    (hc : DeepCall P f [d, e, x, y] res) : KEv P ⟨dst, .call ⟨.value (.func f), #[a, b, c, u], ts⟩, ty, pos, af, g⟩ σ kn (.d res) σ 0 :=
  K.call (ds := [d, e, x, y]) (by simp [ha, hb, hc', hu]) hp hc

theorem K.call5 {f : FuncId} {a b c u v : Operand} {ts : Array TypeId} {d e x y z res : DV} (ha : evK kn a = some (.d d)) (hb : evK kn b = some (.d e)) (hc' : evK kn c = some (.d x)) (hu : evK kn u = some (.d y)) (hv : evK kn v = some (.d z))
    (hp : plainFn P f = true) (hc : DeepCall P f [d, e, x, y, z] res) : KEv P ⟨dst, .call ⟨.value (.func f), #[a, b, c, u, v], ts⟩, ty, pos, af, g⟩ σ kn (.d res) σ 0 :=
  K.call (ds := [d, e, x, y, z]) (by simp [ha, hb, hc', hu, hv]) hp hc

/-- min of two ints. -/
theorem K.min2 {x y : Operand} {ts : Array TypeId} {a b : Int} (hx : evK kn x = some (.d (DI a))) (hy : evK kn y = some (.d (DI b))) :
    KEv P ⟨dst, .call ⟨.builtin .min, #[x, y], ts⟩, ty, pos, af, g⟩ σ kn (.d (DI (min a b))) σ 0 := ev_lit fun env he => by
  have e1 := evK_evalX he hx
  have e2 := evK_evalX he hy
  unfold litOp
  rw [if_pos (by simp [Op.operands, Call.operands, isSelect, e1, e2, litOf])]
  have e3 : pureRun P (execOp (fun x => (litOf (evalX env x)).getD undef) ⟨dst, .call ⟨.builtin .min, #[x, y], ts⟩, ty, pos, af, g⟩) = some (.value (.int .i64 (min a b))) := by
    simp only [execOp, resolve, List.map_toArray, List.map_cons, List.map_nil, e1, e2, litOf, Option.getD_some]
    rw [pureRun_bind]
    show (some _).bind _ = _
    simp only [Option.bind_some, invoke, builtin]
    rw [pureRun_v (v := .int .i64 (min a b))]
    show pureRun P (Builtin.min_ ts ty #[.int .i64 a, .int .i64 b]) = _
    show some (Value.int .i64 (if b < a then b else a)) = _
    congr 2
    split <;> omega
  rw [e3]

/-- The beginning of a slice: s[:h]. -/
theorem K.sliceTo {α : Type} {Q : DV → α → Prop} {x h : Operand} {t e : TypeId} {d : DV} {xs : List α} {m : Nat} (hx : evK kn x = some (.d d)) (hv : Vec Q d xs) (hh : evK kn h = some (.d (DI m))) (hm : m ≤ xs.length)
    (ht : P.underlying t = some (.slice e)) (hs : sizeT P e = some 1) : ∃ r, Vec Q r (xs.take m) ∧ KEv P ⟨dst, .slice t x none (some h) none, ty, pos, af, g⟩ σ kn (.d r) σ 0 := by
  rcases litOf_vec hv with ⟨rfl, rfl⟩ | ⟨cs, cap, rfl, hn, hr⟩
  · have hm0 : m = 0 := by simpa using hm
    subst hm0
    refine ⟨Dnil, .nil, ev_lit fun env he => ?_⟩
    have e1 := evK_evalX he hx
    have e2 := evK_evalX he hh
    unfold litOp
    rw [if_pos (by simp [Op.operands, isSelect, e1, e2, litOf])]
    have e3 : pureRun P (execOp (fun x => (litOf (evalX env x)).getD undef) ⟨dst, .slice t x none (some h) none, ty, pos, af, g⟩) = some (.value (.slice none 0 0)) := by
      simp only [execOp, e1, e2, litOf, Option.getD_some, Option.map_some, Option.map_none]
      refine pureRun_v (v := .slice none 0 0) ?_
      unfold Instr.sliceAt
      rw [pureRun_bind, pureRun_underlying ht]
      simp only [Option.bind_some]
      unfold Instr.slice
      rw [pureRun_bind, pureRun_underlying ht]
      simp only [Option.bind_some]
      have hsz : pureRun P (sizeOf e) = some 1 := by
        unfold sizeOf typeInfo
        unfold sizeT at hs
        cases hi : P.info? e with
        | none => rw [hi] at hs; simp at hs
        | some i =>
          rw [hi] at hs
          simp at hs
          rw [pureRun_bind, pureRun_bind]
          show ((some P).bind _).bind _ = _
          simp only [Option.bind_some, hi]
          show some i.size = _
          rw [hs]
      show pureRun P (do let size ← sizeOf e; pure (Value.slice (if 0 = 0 then (none : Option Addr) else Option.map (fun (a : Addr) => a.add (0 * size)) none) (0 - 0) (0 - 0)) : Sem Value) = _
      rw [pureRun_bind, hsz]; rfl
    rw [e3]
  · refine ⟨.sl (cs.take m) m (cap.map (· - 0)), ?_, ev_op fun env he => ?_⟩
    · have hlen : (xs.take m).length = m := by simp; omega
      have : Vec Q (.sl (cs.take m) (xs.take m).length (cap.map (· - 0))) (xs.take m) := .sl (by simp; omega) (fun i c y hc hy => by
        rw [List.getElem?_take] at hc hy
        split at hc
        · rename_i hlt
          rw [if_pos hlt] at hy
          exact hr i c y hc hy
        · cases hc)
      rwa [hlen] at this
    · have e1 := evK_evalX he hx
      have e2 := evK_evalX he hh
      unfold evalOp
      rw [litOp_none (x := x) (by simp [Op.operands]) (by rw [e1]; rfl)]
      have h1 : (m : Int).toNat = m := rfl
      simp [e1, e2, opSlice, litOf, ht, hs, boundOf, hn, hm]

theorem KT.sliceTo {α : Type} {Q : DV → α → Prop} {x h : Operand} {t e : TypeId} {d : DV} {xs : List α} {m : Nat} (hg : guardK ops kn ⟨dst, .slice t x none (some h) none, ty, pos, af, g⟩ = some true) (hd : dstOk n dst = true)
    (hx : evK kn x = some (.d d)) (hv : Vec Q d xs) (hh : evK kn h = some (.d (DI m))) (hm : m ≤ xs.length) (ht : P.underlying t = some (.slice e)) (hs : sizeT P e = some 1)
    (hk : ∀ r, Vec Q r (xs.take m) → KT P n ops l σ (extK dst (.d r) kn) (fun fls τ k => R (0 :: fls) τ k)) : KT P n ops (⟨dst, .slice t x none (some h) none, ty, pos, af, g⟩ :: l) σ kn R := by
  obtain ⟨r, hr, hev⟩ := K.sliceTo (P := P) (σ := σ) (dst := dst) (ty := ty) (pos := pos) (af := af) (g := g) hx hv hh hm ht hs
  exact KT.step hg hd hev (hk r hr)

/-- s == nil. -/
theorem K.eqNil {x : Operand} {t u e : TypeId} {cs : List DV} {len : Nat} {cap : Option Nat} (hx : evK kn x = some (.d (.sl cs len cap))) (ht : P.underlying t = some (.slice e)) :
    KEv P ⟨dst, .binOp .eql t x (.const (.slice none 0 0)) u, ty, pos, af, g⟩ σ kn (.d (DB false)) σ 0 := ev_op fun env he => by
  have e1 := evK_evalX he hx
  have e2 : evalX env (.const (.slice none 0 0)) = .d (.lit (.slice none 0 0)) := rfl
  unfold evalOp
  rw [litOp_none (x := x) (by simp [Op.operands]) (by rw [e1]; rfl)]
  simp [e1, e2, opEqNil, isSliceT, ht, isSl, isNilSl]

end
end Go.Vm

