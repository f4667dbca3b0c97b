import Derived.Test.YtdilkpcnkhedlaaVmZl
/-
  COPIES OF SLICES OF PAIRS; elements of own slices of pairs.
-/
namespace Go.Vm
open Go.RowKit Go.Ht Go.Ba
section
variable {P : Program} {σ : List VObj} {kn : Kn} {dst : Option Tmp} {ty : TypeId} {pos : String} {af : Array Edge} {g : Option (Nat × Bool)}
theorem K.build0P {t e : TypeId} {z : Value} {k : Nat} (ht : P.underlying t = some (.slice e)) (hs : sizeT P e = some k) (hz : zeroT P e = some z) :
    KEv P ⟨dst, .buildSlice t 0 #[], ty, pos, af, g⟩ σ kn (.osl σ.length 0 0 k 0 true) (σ ++ [⟨[], 0⟩]) 3 := ev_op fun env he => by
  unfold evalOp
  rw [litOp_buildSlice]
  simp [opBuildSlice, ht, hs, hz, fillX, zeroRow]
theorem K.appAllP {t e : TypeId} {x y : Operand} {cs : List DV} {len id k : Nat} {cap : Option Nat} (hx : evK kn x = some (.osl id 0 0 k 0 true)) (hy : evK kn y = some (.d (.sl cs len cap))) (hid : σ[id]? = some ⟨[], 0⟩)
    (hn : cs.length = len * k) (h1v : (cs.map XV.d).all oneX = true) (h0 : len ≠ 0) (hlen : len ≤ 1073741824) (ht : P.underlying t = some (.slice e)) (hs : sizeT P e = some k) (hb : bytesT P e ≤ 65536) (hz : (zeroT P e).map (·.cells.size) = some k) :
    KEv P ⟨dst, .call ⟨.builtin .append, #[x, y], #[t, t]⟩, ty, pos, af, g⟩ σ kn (.osl σ.length 0 len k len false) (σ ++ [⟨cs.map .d, 0⟩]) 2 := ev_op fun env he => by
  have e1 := evK_evalX he hx
  have e2 := evK_evalX he hy
  unfold evalOp
  rw [litOp_none (x := x) (by simp [Op.operands, Call.operands]) (by rw [e1]; rfl)]
  have h3 : len * k ≤ cs.length := by omega
  have h4 : cs.take (len * k) = cs := List.take_of_length_le (by omega)
  simp only [e1, e2, opAppend, ht, hs, srcCells, h3, h4, if_true, h1v, h0, hid, if_false]
  simp [growTo, hlen, hb, hz, h0]
theorem K.append0 {t e : TypeId} {x y : Operand} {id k lo : Nat} {ex : Bool} {cap : Option Nat} (hx : evK kn x = some (.osl id 0 0 k lo ex)) (hy : evK kn y = some (.d (.sl [] 0 cap))) (ht : P.underlying t = some (.slice e)) (hs : sizeT P e = some k) :
    KEv P ⟨dst, .call ⟨.builtin .append, #[x, y], #[t, t]⟩, ty, pos, af, g⟩ σ kn (.osl id 0 0 k lo ex) σ 2 := ev_op fun env he => by
  have e1 := evK_evalX he hx
  have e2 := evK_evalX he hy
  unfold evalOp
  rw [litOp_none (x := x) (by simp [Op.operands, Call.operands]) (by rw [e1]; rfl)]
  simp [e1, e2, opAppend, ht, hs, srcCells]
theorem flat_el {cs : List (Int × Int)} {m : Nat} (h : m < cs.length) : ((cs.flatMap c2).drop (0 + m * 2)).take 2 = c2 cs[m] := by
  rw [Nat.zero_add, flat_drop c2_len cs m h, List.take_append_of_le_length (by rw [c2_len]; exact Nat.le_refl _), List.take_of_length_le (by rw [c2_len]; exact Nat.le_refl _)]
theorem K.loadEl {x : Operand} {t : TypeId} {id m : Nat} {cs : List (Int × Int)} (hx : evK kn x = some (.optr id (0 + m * 2))) (ho : σ[id]? = some ⟨(cs.flatMap c2).map .d, 0⟩) (hm : m < cs.length) (ha : isAggT P t = some true) (hs : sizeT P t = some 2) :
    KEv P ⟨dst, .load t x, ty, pos, af, g⟩ σ kn (.d (.agg (c2 cs[m]))) σ 1 := by
  have h := K.loadOP (dst := dst) (ty := ty) (pos := pos) (af := af) (g := g) (cs.flatMap c2) hx ho (by decide) ha hs (by rw [flat_len c2_len]; omega)
  rwa [flat_el hm] at h
theorem spl_el : ∀ {cs : List (Int × Int)} {m : Nat} {v : Int × Int}, m < cs.length → splice ((cs.flatMap c2).map XV.d) (0 + m * 2) ((c2 v).map .d) = ((cs.set m v).flatMap c2).map .d := by
  intro cs m v hm
  have e1 : cs = cs.take m ++ cs[m] :: cs.drop (m + 1) := by rw [← List.drop_eq_getElem_cons hm, List.take_append_drop]
  have e2 : cs.set m v = cs.take m ++ v :: cs.drop (m + 1) := by rw [List.set_eq_take_append_cons_drop, if_pos hm]
  have e3 : (cs.flatMap c2).map XV.d = ((cs.take m).flatMap c2).map .d ++ ((c2 cs[m]).map .d ++ ((cs.drop (m + 1)).flatMap c2).map .d) := by
    conv => lhs; rw [e1]
    rw [List.flatMap_append, List.flatMap_cons, List.map_append, List.map_append]
  have l1 : (((cs.take m).flatMap c2).map XV.d).length = 0 + m * 2 := by rw [List.length_map, flat_len c2_len, List.length_take]; omega
  rw [e2, List.flatMap_append, List.flatMap_cons, List.map_append, List.map_append, e3]
  unfold splice
  rw [← l1, List.take_left, ← List.drop_drop, List.drop_left]
  rw [show ((c2 v).map XV.d).length = ((c2 cs[m]).map XV.d).length from rfl, List.drop_left, List.append_assoc]
theorem K.storeEl {x y : Operand} {t : TypeId} {id m : Nat} {cs : List (Int × Int)} {v : Int × Int} (hx : evK kn x = some (.optr id (0 + m * 2))) (hy : evK kn y = some (.d (.agg (c2 v)))) (ho : σ[id]? = some ⟨(cs.flatMap c2).map .d, 0⟩) (hm : m < cs.length) (hs : sizeT P t = some 2) :
    KEv P ⟨dst, .store t x y, ty, pos, af, g⟩ σ kn undefX (σ.set id ⟨((cs.set m v).flatMap c2).map .d, 0⟩) 2 := by
  have h := K.storeN (P := P) (σ := σ) (t := t) (dst := dst) (ty := ty) (pos := pos) (af := af) (g := g) hx hy ho (by show _ + 2 ≤ _; rw [List.length_map, flat_len c2_len]; omega) rfl hs
  rw [show cellsX (.d (.agg (c2 v))) = (c2 v).map .d from rfl, spl_el hm] at h
  exact h
end
end Go.Vm

