import Derived.Test.YtjfpeiioddfjcaaZnV
import Derived.Test.YtjfpeiioddfjcaaZnU
/-
  EDGES of automata as cells; what an automaton must be.
-/
open Go.Zn
namespace Go.Vm
abbrev Ed := Int × Int × List G3 × Int
inductive EdR : List DV → Ed → Prop
  | mk {gd : DV} {e : Ed} (h : Gds gd e.2.2.1) : EdR [DI e.1, DI e.2.1, gd, DI e.2.2.2] e
theorem EdR.len {r : List DV} {e : Ed} (h : EdR r e) : r.length = 4 := by cases h; rfl
/-- A slice of edges. -/
inductive Eds : DV → List Ed → Prop
  | nil : Eds Dnil []
  | sl {E : List Ed} {rows : List (List DV)} {cap : Option Nat} (hl : rows.length = E.length) (h : ∀ i (h1 : i < rows.length) (h2 : i < E.length), EdR rows[i] E[i]) : Eds (.sl rows.flatten E.length cap) E
theorem flat_drop : ∀ (rows : List (List DV)) (m : Nat) (h : m < rows.length), (∀ r ∈ rows, r.length = 4) → rows.flatten.drop (m * 4) = rows[m] ++ (rows.drop (m + 1)).flatten
  | [], _, h, _ => by simp at h
  | r :: L, 0, _, _ => by simp
  | r :: L, m + 1, h, h4 => by
    have := flat_drop L m (by simpa using h) (fun r hr => h4 r (List.mem_cons_of_mem _ hr))
    have hr : r.length = 4 := h4 r (by simp)
    rw [List.flatten_cons, Nat.add_mul, Nat.one_mul, List.drop_append, List.drop_eq_nil_of_le (by omega), hr, show m * 4 + 4 - 4 = m * 4 by omega]
    simpa using this
section
variable {P : Program} {n : Nat} {ops : Array Oper} {l : List Oper} {σ : List VObj} {kn : Kn} {dst : Option Tmp} {ty : TypeId} {pos : String} {af : Array Edge} {g : Option (Nat × Bool)} {R : List Nat → List VObj → Kn → Prop}
theorem K.lenEd {x : Operand} {t e : TypeId} {d : DV} {E : List Ed} (hx : evK kn x = some (.d d)) (hL : Eds d E) (ht : P.underlying t = some (.slice e)) : KEv P ⟨dst, .call ⟨.builtin .len, #[x], #[t]⟩, ty, pos, af, g⟩ σ kn (.d (DI (E.length : Nat))) σ 0 := by
  cases hL with
  | nil => exact K.len (R := IsI) (l := []) hx .nil ht
  | sl => exact K.lenD hx ht
theorem KT.idxEd {x i : Operand} {t e : TypeId} {d : DV} {E : List Ed} {m : Nat} (hg : guardK ops kn ⟨dst, .indexAddr t x i, ty, pos, af, g⟩ = some true) (hd : dstOk n dst = true) (hx : evK kn x = some (.d d)) (hL : Eds d E) (hi : evK kn i = some (.d (DI (m : Int)))) (hm : m < E.length) (ht : P.underlying t = some (.slice e)) (hs : sizeT P e = some 4)
    (hk : ∀ gd rest, Gds gd E[m].2.2.1 → KT P n ops l σ (extK dst (.d (.ptr (DI E[m].1 :: DI E[m].2.1 :: gd :: DI E[m].2.2.2 :: rest))) kn) (fun fls τ k => R (0 :: fls) τ k)) :
    KT P n ops (⟨dst, .indexAddr t x i, ty, pos, af, g⟩ :: l) σ kn R := by
  cases hL with
  | nil => simp at hm
  | @sl _ rows cap hl h =>
    have h4 : ∀ r ∈ rows, r.length = 4 := fun r hr => by
      obtain ⟨q, hq, rfl⟩ := List.getElem_of_mem hr
      exact (h q hq (by omega)).len
    have e := flat_drop rows m (by omega) h4
    have hr := h m (by omega) hm
    generalize hrm : rows[m] = row at hr e
    generalize hem : E[m] = ed at hr hk
    cases hr with
    | @mk gd _ hgd =>
      have key := K.idxDK (P := P) (σ := σ) (dst := dst) (ty := ty) (pos := pos) (af := af) (g := g) hx hi hm ht hs
      rw [e] at key
      exact KT.step hg hd key (hk gd _ hgd)
end
end Go.Vm

