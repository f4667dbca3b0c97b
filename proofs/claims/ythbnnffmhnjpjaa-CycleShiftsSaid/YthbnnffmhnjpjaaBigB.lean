import Derived.Test.YthbnnffmhnjpjaaBigA
/-
  Big numbers as deep values; rules for words of 32 bits, for parts of slices and for appends of slices.
-/
namespace Go.Vm
open Go.RowKit Go.Big

abbrev U32 (n : Nat) : DV := .lit (.int .u32 n)
abbrev IsU (c : DV) (n : Nat) : Prop := c = U32 n
abbrev Mag : DV → List Nat → Prop := Vec IsU

theorem wrapU32 (n : Nat) : IntKind.u32.wrap (n : Int) = ((n % B : Nat) : Int) := by
  simp [IntKind.wrap, IntKind.bits, IntKind.signed, B]
theorem wide32 {n : Nat} (h : n < B) : IntKind.u64.wrap (n : Int) = (n : Int) := by
  rw [wrapU, Nat.mod_eq_of_lt (Nat.lt_trans h (by decide))]
theorem wide64 {n : Nat} (h : n < 2 ^ 64) : IntKind.u64.wrap (n : Int) = (n : Int) := by
  rw [wrapU, Nat.mod_eq_of_lt h]

theorem takeV_all {α : Type} {R : DV → α → Prop} {d : DV} {l : List α} (h : Vec R d l) : takeV l.length d = d := by
  cases h with
  | nil => rfl
  | @sl cs _ cap hn h =>
    have e : cs.take l.length = cs := List.take_of_length_le (by omega)
    cases cap <;> simp [takeV, e]
theorem takeV_takeV {m n : Nat} (h : m ≤ n) (d : DV) : takeV m (takeV n d) = takeV m d := by
  cases d with
  | sl cs len cap => cases cap <;> simp [takeV, List.take_take, Nat.min_eq_left h]
  | _ => rfl

/-- d stands for a big number of this sign and these digits. -/
inductive BigV : DV → Bool → List Nat → Prop
  | mk {m : DV} {neg : Bool} {l : List Nat} (hm : Mag m l) (hd : Dig l) (hc : Big.Can l) : BigV (.agg [DB neg, m]) neg l
def sgnV (neg : Bool) (l : List Nat) : Int := if neg then -(val l : Int) else (val l : Int)
/-- d stands for this whole number. -/
def BigZ (d : DV) (z : Int) : Prop := ∃ neg l, BigV d neg l ∧ sgnV neg l = z
theorem BigV.len {d : DV} {neg : Bool} {l : List Nat} (h : BigV d neg l) {k : Nat} (hk : (sgnV neg l).natAbs < B ^ k) : l.length ≤ k := by
  cases h with
  | mk hm hd hc =>
    refine len_le hc ?_
    unfold sgnV at hk
    split at hk <;> omega
theorem can_trim {l : List Nat} {k : Nat} (hk : k ≤ l.length) (h : 0 < k → ∀ h2 : k - 1 < l.length, l[k - 1] ≠ 0) : Big.Can (l.take k) := fun h0 => by
  have e : (l.take k).length = k := by simp; omega
  rw [e] at h0
  have : (l.take k)[(l.take k).length - 1]'(by omega) = l[k - 1]'(by omega) := by
    rw [List.getElem_take]; congr 1; omega
  rw [this]
  exact h h0 (by omega)

/-- One's own slice up to its end; ex: its capacity is known. -/
inductive OwnE (σ : List VObj) : Bool → XV → List XV → Prop
  | sl {id n : Nat} {cells : List XV} {ex : Bool} (h : σ[id]? = some ⟨cells, 0⟩) (hn : cells.length = n) : OwnE σ ex (.osl id 0 n 1 n ex) cells
theorem OwnE.keep {σ σ' : List VObj} {ex : Bool} {x : XV} {cells : List XV} (h : OwnE σ ex x cells) (hk : ∀ j, idX x = some j → σ'[j]? = σ[j]?) : OwnE σ' ex x cells := by
  cases h with
  | sl h hn => exact .sl (by rw [hk _ rfl]; exact h) hn
theorem OwnE.lt {σ : List VObj} {ex : Bool} {x : XV} {cells : List XV} (h : OwnE σ ex x cells) {j : Nat} (hj : idX x = some j) : j < σ.length := by
  cases h with
  | sl h hn => cases hj; exact (List.getElem?_eq_some_iff.1 h).1

section
variable {P : Program} {n : Nat} {ops : Array Oper} {l : List Oper} {σ : List VObj} {kn : Kn} {dst : Option Tmp} {ty : TypeId} {pos : String} {af : Array Edge} {g : Option (Nat × Bool)} {R : List Nat → List VObj → Kn → Prop}
theorem KT.appD {t e : TypeId} {x y : Operand} {sx : XV} {d : DV} {xs : List Int} {cells : List XV} {ex : Bool} {z : Value} (hg : guardK ops kn ⟨dst, .call ⟨.builtin .append, #[x, y], #[t, t]⟩, ty, pos, af, g⟩ = some true) (hd : dstOk n dst = true)
    (hx : evK kn x = some sx) (hy : evK kn y = some (.d d)) (hv : Ints d xs) (hown : OwnE σ ex sx cells) (hlen : cells.length + xs.length ≤ 1073741824)
    (ht : P.underlying t = some (.slice e)) (h1 : OneT P e z)
    (h : ∀ σ' x', OwnE σ' (if xs = [] then ex else false) x' (cells ++ xs.map fun v => .d (DI v)) → (∀ j, idX sx ≠ some j → j < σ.length → σ'[j]? = σ[j]?) → (idX x' = idX sx ∨ ∃ j, idX x' = some j ∧ σ.length ≤ j) → KT P n ops l σ' (extK dst x' kn) (fun fls τ k => R (2 :: fls) τ k)) :
    KT P n ops (⟨dst, .call ⟨.builtin .append, #[x, y], #[t, t]⟩, ty, pos, af, g⟩ :: l) σ kn R := by
  obtain ⟨fl, hsrc⟩ := srcCells_ints (σ := σ) hv
  have hz : (zeroT P e).map (·.cells.size) = some 1 := by rw [h1.zero]; simp [h1.cells]
  cases hown with
  | @sl id m cells ex ho hn =>
  by_cases h0 : xs = []
  · subst h0
    refine KT.step hg hd (x := .osl id 0 m 1 m ex) (σ' := σ) (fl := 2) (ev_op fun env he => ?_) (h _ _ (by simpa using OwnE.sl ho hn) (fun _ _ _ => rfl) (.inl rfl))
    have e1 := evK_evalX he hx
    have e2 := evK_evalX he hy
    unfold evalOp
    rw [litOp_none (x := x) (by simp [Op.operands, Call.operands]) (by rw [e1]; rfl)]
    simp [e1, e2, opAppend, ht, h1.size, hsrc]
  · have hpos : 0 < xs.length := List.length_pos_iff.2 h0
    have ha := all_oneX xs
    have hm2 : m + xs.length ≤ 1073741824 := by omega
    have hno : ¬ m + xs.length ≤ m := by omega
    cases ex with
    | true =>
      refine KT.step hg hd (x := .osl σ.length 0 (m + xs.length) 1 (m + xs.length) false) (σ' := σ ++ [⟨cells ++ xs.map fun v => .d (DI v), 0⟩]) (fl := 2) (ev_op fun env he => ?_)
        (h _ _ (by rw [if_neg h0]; exact .sl (by simp) (by simp [hn])) (fun j _ hj => by rw [List.getElem?_append_left hj]) (.inr ⟨_, rfl, Nat.le_refl _⟩))
      have e1 := evK_evalX he hx
      have e2 := evK_evalX he hy
      unfold evalOp
      rw [litOp_none (x := x) (by simp [Op.operands, Call.operands]) (by rw [e1]; rfl)]
      have e3 : (cells.drop 0).take m = cells := by rw [List.drop_zero, List.take_of_length_le (by omega)]
      simp [e1, e2, opAppend, ht, h1.size, hsrc, ha, ho, growTo, h1.bytes, hz, hm2, hno, hn, h0]
      exact List.take_of_length_le (by omega)
    | false =>
      refine KT.step hg hd (x := .osl σ.length 0 (m + xs.length) 1 (m + xs.length) false) (σ' := (σ.set id ⟨cells, 2⟩) ++ [⟨cells ++ xs.map fun v => .d (DI v), 0⟩]) (fl := 2) (ev_op fun env he => ?_)
        (h _ _ (by rw [if_neg h0]; exact .sl (by rw [List.getElem?_append_right (by simp)]; simp) (by simp [hn])) (fun j hj hlt => by
          rw [List.getElem?_append_left (by simpa using hlt), List.getElem?_set]
          rw [if_neg (fun e => hj (by rw [e]; rfl))]) (.inr ⟨_, rfl, Nat.le_refl _⟩))
      have e1 := evK_evalX he hx
      have e2 := evK_evalX he hy
      unfold evalOp
      rw [litOp_none (x := x) (by simp [Op.operands, Call.operands]) (by rw [e1]; rfl)]
      simp [e1, e2, opAppend, ht, h1.size, hsrc, ha, ho, h1.bytes, hz, hm2, hno, hn, h0]
end
end Go.Vm

