import Derived.Test.YthbnnffmhnjpjaaVmQ
/-
  VALUES WITHOUT ADDRESSES, 18: rules for slices.Clone, for literals of slices, for appends in a loop.
-/
namespace Go.Vm
open Go.RowKit

/-- slices.Clone. -/
def cloneD (d : DV) : DV :=
  match d with
  | .sl cs len _ => if len = 0 then .sl [] 0 (some 0) else .sl (cs.take len) len none
  | x => x

theorem cloneD_vec {α : Type} {R : DV → α → Prop} {d : DV} {l : List α} (h : Vec R d l) : Vec R (cloneD d) l := by
  cases h with
  | nil => exact .nil
  | sl hn h =>
    rename_i cs cap
    simp only [cloneD]
    split
    · rename_i h0
      have : l = [] := List.length_eq_zero_iff.1 h0
      subst this
      exact Vec.sl (cs := []) (l := []) rfl (fun i c x hc _ => by simp at hc)
    · exact .sl (by simp [hn]) (fun i c x hc hx => by
        rw [List.getElem?_take] at hc
        split at hc
        · exact h i c x hc hx
        · cases hc)

theorem cellsX_clone {α : Type} {R : DV → α → Prop} {d : DV} {l : List α} (h : Vec R d l) : cellsX (.d (cloneD d)) = [.d (cloneD d)] ∧ oneX (.d (cloneD d)) = true := by
  cases h with
  | nil => exact ⟨rfl, rfl⟩
  | sl hn h => simp only [cloneD]; split <;> exact ⟨rfl, rfl⟩

theorem pureRun_none {α β : Type} {P : Program} (s : Sem α) (f : α → Sem β) (h : ∀ a, pureRun P (f a) = none) : pureRun P (s >>= f) = none := by
  rw [pureRun_bind]; cases pureRun P s with
  | none => rfl
  | some a => exact h a

theorem pureRun_newRow {P : Program} (e : TypeId) (c : Array Value) : pureRun P (newRow e c) = none := rfl

theorem pureRun_buildSlice {P : Program} (t : TypeId) (n : Nat) (ps : Array (Nat × Value)) : pureRun P (Instr.buildSlice t n ps) = none := by
  unfold Instr.buildSlice
  refine pureRun_none _ _ fun d => ?_
  split
  · refine pureRun_none _ _ fun size => ?_
    dsimp only
    split
    · refine pureRun_none _ _ fun r => ?_
      split
      · refine pureRun_none _ _ fun z => ?_
        split
        · rw [pureRun_bind, pureRun_newRow]; rfl
        · rfl
      · refine pureRun_none _ _ fun z => ?_
        refine pureRun_none _ _ fun z => ?_
        split
        · rw [pureRun_bind, pureRun_newRow]; rfl
        · rfl
    · split
      · refine pureRun_none _ _ fun z => ?_
        split
        · rw [pureRun_bind, pureRun_newRow]; rfl
        · rfl
      · refine pureRun_none _ _ fun z => ?_
        refine pureRun_none _ _ fun z => ?_
        split
        · rw [pureRun_bind, pureRun_newRow]; rfl
        · rfl
  · rfl

section
variable {P : Program} {n : Nat} {ops : Array Oper} {l : List Oper} {σ : List VObj} {kn : Kn} {dst : Option Tmp} {ty : TypeId} {pos : String} {af : Array Edge} {g : Option (Nat × Bool)}
  {R : List Nat → List VObj → Kn → Prop}

theorem litOp_buildSlice {env : Nat → XV} {t : TypeId} {k : Nat} {ps : Array (Nat × Operand)} : litOp P env ⟨dst, .buildSlice t k ps, ty, pos, af, g⟩ = none := by
  unfold litOp
  split
  · have : pureRun P (execOp (fun x => (litOf (evalX env x)).getD undef) ⟨dst, .buildSlice t k ps, ty, pos, af, g⟩) = none := by
      simp only [execOp]
      rw [pureRun_bind, pureRun_buildSlice]; rfl
    rw [this]
  · rfl

theorem K.build0 {t e : TypeId} {z : Value} (ht : P.underlying t = some (.slice e)) (h1 : OneT P e z) :
    KEv P ⟨dst, .buildSlice t 0 #[], ty, pos, af, g⟩ σ kn (.osl σ.length 0 0 1 0 true) (σ ++ [⟨[], 0⟩]) 3 := ev_op fun env he => by
  unfold evalOp
  rw [litOp_buildSlice]
  simp [opBuildSlice, ht, h1.size, h1.zero, fillX, zeroRow]

theorem K.build1' {t e : TypeId} {x : Operand} {v : XV} {z : Value} (hx : evK kn x = some v) (hc : cellsX v = [v]) (ht : P.underlying t = some (.slice e)) (h1 : OneT P e z) :
    KEv P ⟨dst, .buildSlice t 1 #[(0, x)], ty, pos, af, g⟩ σ kn (.osl σ.length 0 1 1 1 true) (σ ++ [⟨[v], 0⟩]) 3 := ev_op fun env he => by
  have e1 := evK_evalX he hx
  unfold evalOp
  rw [litOp_buildSlice]
  simp [e1, opBuildSlice, ht, h1.size, h1.zero, fillX, hc, zeroRow_one h1.cells, splice]

theorem KT.app {t e : TypeId} {x y : Operand} {sx : XV} {cells : List XV} {id : Nat} {v : XV} {z : Value} (hg : guardK ops kn ⟨dst, .call ⟨.builtin .append, #[x, y], #[t, t]⟩, ty, pos, af, g⟩ = some true) (hd : dstOk n dst = true)
    (hx : evK kn x = some sx) (hy : evK kn y = some (.osl id 0 1 1 1 true)) (hown : Own σ sx cells) (hid : σ[id]? = some ⟨[v], 0⟩)
    (h1v : oneX v = true) (hlen : cells.length < 1073741823) (ht : P.underlying t = some (.slice e)) (h1 : OneT P e z)
    (h : ∀ σ' x', Own σ' x' (cells ++ [v]) → KT P n ops l σ' (extK dst x' kn) (fun fls τ k => R (2 :: fls) τ k)) : KT P n ops (⟨dst, .call ⟨.builtin .append, #[x, y], #[t, t]⟩, ty, pos, af, g⟩ :: l) σ kn R := by
  obtain ⟨σ', x', ho, hev⟩ := K.app (P := P) (dst := dst) (ty := ty) (pos := pos) (af := af) (g := g) hx hy hown hid h1v hlen ht h1
  exact KT.step hg hd hev (h σ' x' ho)

/-- append([]T{}, s...), s not nil. -/
theorem K.appAll {t e : TypeId} {x y : Operand} {cs : List DV} {len id : Nat} {cap : Option Nat} {z : Value} (hx : evK kn x = some (.osl id 0 0 1 0 true)) (hy : evK kn y = some (.d (.sl cs len cap))) (hid : σ[id]? = some ⟨[], 0⟩)
    (hn : cs.length = len) (h1v : ((cs.take len).map XV.d).all oneX = true) (h0 : len ≠ 0) (hlen : len ≤ 1073741824) (ht : P.underlying t = some (.slice e)) (h1 : OneT P e z) :
    KEv P ⟨dst, .call ⟨.builtin .append, #[x, y], #[t, t]⟩, ty, pos, af, g⟩ σ kn (.osl σ.length 0 len 1 len false) (σ ++ [⟨(cs.take len).map .d, 0⟩]) 2 := ev_op fun env he => by
  have e1 := evK_evalX he hx
  have e2 := evK_evalX he hy
  have hz : (zeroT P e).map (·.cells.size) = some 1 := by rw [h1.zero]; simp [h1.cells]
  unfold evalOp
  rw [litOp_none (x := x) (by simp [Op.operands, Call.operands]) (by rw [e1]; rfl)]
  have h3 : len ≤ cs.length := by omega
  have h4 : (cs.take len).all (oneX ∘ XV.d) = true := by rw [List.all_map] at h1v; exact h1v
  simp [e1, e2, opAppend, ht, h1.size, srcCells, h3, h0, hid, growTo, hlen, h1.bytes, hz]
  rw [if_pos (by simpa using h1v)]

theorem K.appNone {t e : TypeId} {x y : Operand} {cs : List DV} {id : Nat} {cap : Option Nat} {z : Value} (hx : evK kn x = some (.osl id 0 0 1 0 true)) (hy : evK kn y = some (.d (.sl cs 0 cap)))
    (ht : P.underlying t = some (.slice e)) (h1 : OneT P e z) : KEv P ⟨dst, .call ⟨.builtin .append, #[x, y], #[t, t]⟩, ty, pos, af, g⟩ σ kn (.osl id 0 0 1 0 true) σ 2 := ev_op fun env he => by
  have e1 := evK_evalX he hx
  have e2 := evK_evalX he hy
  unfold evalOp
  rw [litOp_none (x := x) (by simp [Op.operands, Call.operands]) (by rw [e1]; rfl)]
  simp [e1, e2, opAppend, ht, h1.size, srcCells]

/-- nil == nil. -/
theorem K.eqNilNil {x : Operand} {t u e : TypeId} (hx : evK kn x = some (.d Dnil)) (ht : P.underlying t = some (.slice e)) :
    KEv P ⟨dst, .binOp .eql t x (.const (.slice none 0 0)) u, ty, pos, af, g⟩ σ kn (.d (DB true)) σ 0 :=
  K.bin hx rfl (by
    rw [pureRun_bind]
    show (some ()).bind _ = _
    simp only [Option.bind_some]
    show pureRun P (do pure (Value.bool (← Op.equal t (.slice none 0 0) (.slice none 0 0))) : Sem Value) = _
    rw [pureRun_bind]
    have : pureRun P (Op.equal t (.slice none 0 0) (.slice none 0 0)) = some true := by
      show pureRun P (Op.equalIn (9999 + 1) t (.slice none 0 0) (.slice none 0 0)) = _
      unfold Op.equalIn
      rw [pureRun_bind, pureRun_underlying ht]; rfl
    rw [this]; rfl)

theorem K.minN {x y : Operand} {ts : Array TypeId} {a b : Nat} (hx : evK kn x = some (.d (DI a))) (hy : evK kn y = some (.d (DI b))) :
    KEv P ⟨dst, .call ⟨.builtin .min, #[x, y], ts⟩, ty, pos, af, g⟩ σ kn (.d (DI ((min a b : Nat) : Int))) σ 0 := by
  have h := K.min2 (P := P) (σ := σ) (dst := dst) (ty := ty) (pos := pos) (af := af) (g := g) (ts := ts) hx hy
  have e : ((min a b : Nat) : Int) = min (a : Int) (b : Int) := by omega
  rw [e]; exact h

end
end Go.Vm

