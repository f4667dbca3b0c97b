import Derived.Test.YthbnnffmhnjpjaaVmV
/-
  VALUES WITHOUT ADDRESSES, 23: room for appends: slices.Grow and appends into it.
-/
namespace Go.Vm
open Go.RowKit
section
variable {P : Program} {n : Nat} {ops : Array Oper} {l : List Oper} {σ : List VObj} {kn : Kn} {dst : Option Tmp} {ty : TypeId} {pos : String} {af : Array Edge} {g : Option (Nat × Bool)}

theorem K.gtr' {t u : TypeId} {x y : Operand} {k : IntKind} {a b : Int} {c : Bool} (hx : evK kn x = some (.d (.lit (.int k a)))) (hy : evK kn y = some (.d (.lit (.int k b)))) (h : decide (b < a) = c) :
    KEv P ⟨dst, .binOp .gtr t x y u, ty, pos, af, g⟩ σ kn (.d (DB c)) σ 0 := by subst h; exact K.gtr hx hy

theorem K.capNil {x : Operand} {t e : TypeId} (hx : evK kn x = some (.d Dnil)) (ht : P.underlying t = some (.slice e)) : KEv P ⟨dst, .call ⟨.builtin .cap, #[x], #[t]⟩, ty, pos, af, g⟩ σ kn (.d (DI (0 : Nat))) σ 0 := ev_lit fun env he => by
  have e1 := evK_evalX he hx
  unfold litOp
  rw [if_pos (by simp [Op.operands, Call.operands, isSelect, e1, litOf])]
  have e3 : pureRun P (execOp (fun x => (litOf (evalX env x)).getD undef) ⟨dst, .call ⟨.builtin .cap, #[x], #[t]⟩, ty, pos, af, g⟩) = some (.value (.int .i64 0)) := by
    simp only [execOp, resolve, List.map_toArray, List.map_cons, List.map_nil, e1, litOf, Option.getD_some]
    rw [pureRun_bind]
    show (some _).bind _ = _
    simp only [Option.bind_some, invoke, builtin]
    rw [pureRun_v (v := .int .i64 0)]
    show pureRun P (Builtin.cap_ #[t] ty #[.slice none 0 0]) = _
    unfold Builtin.cap_
    simp only [List.getElem?_toArray, List.getElem?_cons_zero]
    rw [pureRun_bind, pureRun_underlying ht]; rfl
  rw [e3]; rfl

theorem litOp_appZ [Inhabited World] {t u e : TypeId} {x y : Operand} {m : Nat} {z : Value} {ik : IntKind} {env : Nat → XV} (e1 : evalX env x = .d Dnil) (e2 : evalX env y = .d (DI m)) (hm : 0 < m) (hm2 : m ≤ 1073741824) (ht : P.underlying t = some (.slice e)) (hu : P.underlying u = some (.int ik)) (h1 : OneT P e z) :
    litOp P env ⟨dst, .call ⟨.builtin .append, #[x, y], #[t, u]⟩, ty, pos, af, g⟩ = none := by
  unfold litOp
  split
  · split
    · rename_i v hv
      exfalso
      obtain ⟨i, hi, hi1⟩ := info_of_size h1.size
      have hz : i.zero = some z := by have := h1.zero; simpa [zeroT, hi] using this
      have hb : i.bytes ≤ 65536 := by have := h1.bytes; simpa [bytesT, hi] using this
      have k1 := run_append_zeros (P := P) (w := default) (ty := ty) (vk := .i64) ht hu hi hz hi1 (by omega) (m : Int) (by omega) (by omega) hb
      have k2 := pureRun_ok hv (default : World)
      simp [execOp, resolve, invoke, builtin, e1, e2, litOf, k1] at k2
      have k3 := congrArg (fun w : World => w.heap.size) k2.2
      simp at k3
    · rfl
  · rfl

/-- append(nil, make([]T, n)...), n above 0. -/
theorem K.appZ {t u e : TypeId} {x y : Operand} {m : Nat} {z : Value} {ik : IntKind} (hx : evK kn x = some (.d Dnil)) (hy : evK kn y = some (.d (DI m))) (hm : 0 < m) (hm2 : m ≤ 1073741824) (ht : P.underlying t = some (.slice e)) (hu : P.underlying u = some (.int ik)) (htu : ¬ t = u) (h1 : OneT P e z) :
    KEv P ⟨dst, .call ⟨.builtin .append, #[x, y], #[t, u]⟩, ty, pos, af, g⟩ σ kn (.osl σ.length 0 m 1 m false) (σ ++ [⟨List.replicate m (.d (.lit z)), 0⟩]) 2 := ev_op fun env he => by
  have e1 := evK_evalX he hx
  have e2 := evK_evalX he hy
  have hz : (zeroT P e).map (·.cells.size) = some 1 := by rw [h1.zero]; simp [h1.cells]
  unfold evalOp
  rw [litOp_appZ e1 e2 hm hm2 ht hu h1]
  simp [e1, e2, opAppend, opAppendZ, htu, litOf, ht, hu, h1.size, h1.zero, hm, growTo, hm2, h1.bytes, h1.cells, zeroRow_one h1.cells]

/-- s[:0] of one's own slice. -/
theorem K.cut0 {x h : Operand} {t e : TypeId} {id off len lo : Nat} {ex : Bool} (hx : evK kn x = some (.osl id off len 1 lo ex)) (hh : evK kn h = some (.d (DI (0 : Nat)))) (ht : P.underlying t = some (.slice e)) (hs : sizeT P e = some 1) :
    KEv P ⟨dst, .slice t x none (some h) none, ty, pos, af, g⟩ σ kn (.osl id off 0 1 lo ex) σ 0 := ev_op fun env he => by
  have e1 := evK_evalX he hx
  have e2 := evK_evalX he hh
  unfold evalOp
  rw [litOp_none (x := x) (by simp [Op.operands]) (by rw [e1]; rfl)]
  simp [e1, e2, opSlice, litOf, ht, hs, boundOf]

theorem set_same {σ : List VObj} {id : Nat} {o : VObj} (h : σ[id]? = some o) : σ.set id o = σ := by
  refine List.ext_getElem? fun i => ?_
  rw [List.getElem?_set]
  split
  · rename_i e
    subst e
    rw [h, if_pos (List.getElem?_eq_some_iff.1 h).1]
  · rfl

/-- append(s, row...) where there is room. -/
theorem K.appIn {α : Type} {Q : DV → α → Prop} {t e : TypeId} {x y : Operand} {id off len lo : Nat} {ex : Bool} {d : DV} {xs : List α} {row : List DV} {cells : List XV} (hx : evK kn x = some (.osl id off len 1 lo ex)) (hy : evK kn y = some (.d d)) (hv : Vec Q d xs)
    (hrow : ∀ cs cap, d = .sl cs xs.length cap → cs = row) (hnil : d = Dnil → row = []) (h1 : (row.map XV.d).all oneX = true) (hid : σ[id]? = some ⟨cells, 0⟩) (hroom : len + xs.length ≤ lo) (hfit : off + (len + xs.length) ≤ cells.length)
    (ht : P.underlying t = some (.slice e)) (hs : sizeT P e = some 1) :
    KEv P ⟨dst, .call ⟨.builtin .append, #[x, y], #[t, t]⟩, ty, pos, af, g⟩ σ kn (.osl id off (len + xs.length) 1 lo ex) (σ.set id ⟨splice cells (off + len) (row.map .d), 0⟩) 2 := ev_op fun env he => by
  have e1 := evK_evalX he hx
  have e2 := evK_evalX he hy
  unfold evalOp
  rw [litOp_none (x := x) (by simp [Op.operands, Call.operands]) (by rw [e1]; rfl)]
  rcases litOf_vec hv with ⟨rfl, rfl⟩ | ⟨cs, cap, rfl, hn, hr⟩
  · have hr0 : row = [] := hnil rfl
    subst hr0
    simp [e1, e2, opAppend, ht, hs, srcCells, splice_nil, set_same hid]
  · have hr0 := hrow cs cap rfl
    subst hr0
    have h2 : ∀ x ∈ cs, oneX (.d x) = true := by
      intro x hx
      have := List.all_eq_true.1 h1 (.d x) (by simp; exact hx)
      exact this
    have h3 : cs.take xs.length = cs := List.take_of_length_le (by omega)
    by_cases h0 : xs.length = 0
    · have h4 : cs = [] := List.length_eq_zero_iff.1 (by omega)
      subst h4
      simp [e1, e2, opAppend, ht, hs, srcCells, h0, splice_nil, set_same hid]
    · simp [e1, e2, opAppend, ht, hs, srcCells, h0, hn, h3, hid, hroom, hfit]
      rw [if_pos h2]

end
end Go.Vm

