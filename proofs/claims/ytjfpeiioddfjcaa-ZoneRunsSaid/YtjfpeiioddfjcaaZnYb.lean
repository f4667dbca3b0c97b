import Derived.Test.YtjfpeiioddfjcaaZnYa
import Derived.Test.YtjfpeiioddfjcaaCyP
/-
  A variable of many cells that is written whole, among other objects.
-/
open Go.Zn
namespace Go.Vm
section
variable {P : Program} {n : Nat} {ops : Array Oper} {l : List Oper} {σ : List VObj} {kn : Kn} {dst : Option Tmp} {ty : TypeId} {pos : String} {af : Array Edge} {g : Option (Nat × Bool)} {R : List Nat → List VObj → Kn → Prop}
theorem K.storeA {x y : Operand} {t : TypeId} {id : Nat} {cells cs : List XV} {v : XV} (hx : evK kn x = some (.optr id 0)) (hy : evK kn y = some v) (hc : cellsX v = cs) (ho : σ[id]? = some ⟨cells, 0⟩) (hl : cells.length = cs.length) (h1 : cs.all oneX = true) (hs : sizeT P t = some cs.length) :
    KEv P ⟨dst, .store t x y, ty, pos, af, g⟩ σ kn undefX (σ.set id ⟨cs, 0⟩) 2 := by
  subst hc
  have h := K.storeN (P := P) (σ := σ) (dst := dst) (ty := ty) (pos := pos) (af := af) (g := g) (t := t) hx hy ho (by omega) h1 hs
  have e : splice cells 0 (cellsX v) = cellsX v := by
    unfold splice
    simp [hl]
  rwa [e] at h
end
theorem set_nb {B : List VObj} {i j : Nat} {o : VObj} (h : j ≠ i) : (B.set i o)[j]? = B[j]? := by rw [List.getElem?_set, if_neg (fun e => h e.symm)]
theorem obj_app {A : List VObj} {e : VObj} : (A ++ [e])[A.length]? = some e := List.getElem?_concat_length ..
theorem obj_set3 {B : List VObj} {n : Nat} {a b c e o : VObj} (h0 : B[0]? = some a) (h1 : B[1]? = some b) (h2 : B[2]? = some c) (h3 : B[n]? = some e) (hn : 3 ≤ n) : (B.set 2 o)[0]? = some a ∧ (B.set 2 o)[1]? = some b ∧ (B.set 2 o)[2]? = some o ∧ (B.set 2 o)[n]? = some e := by
  refine ⟨(set_nb (by decide)).trans h0, (set_nb (by decide)).trans h1, ?_, (set_nb (by omega)).trans h3⟩
  rw [List.getElem?_set, if_pos rfl, if_pos (List.getElem?_eq_some_iff.1 h2).1]
theorem obj_set2 {B : List VObj} {a b c o : VObj} (h0 : B[0]? = some a) (h1 : B[1]? = some b) (h2 : B[2]? = some c) : (B.set 2 o)[0]? = some a ∧ (B.set 2 o)[1]? = some b ∧ (B.set 2 o)[2]? = some o := by
  refine ⟨(set_nb (by decide)).trans h0, (set_nb (by decide)).trans h1, ?_⟩
  rw [List.getElem?_set, if_pos rfl, if_pos (List.getElem?_eq_some_iff.1 h2).1]
end Go.Vm

