import Derived.Test.YtjfpeiioddfjcaaZnWa
import Derived.Test.YtjfpeiioddfjcaaZnRf
/-
  LEAST POINTS in the machine: values as cells, slices that leave the first value out.
-/
open Go.Zn
namespace Go.Vm
def vC (n : Nat) (v : Nat → Int) : List XV := (List.range n).map fun j => XV.d (DI (v j))
theorem vC_len {n : Nat} {v : Nat → Int} : (vC n v).length = n := by simp [vC]
theorem vC_get {n j : Nat} {v : Nat → Int} (hj : j < n) : (vC n v)[0 + j]? = some (.d (DI (v j))) := by
  unfold vC
  rw [Nat.zero_add, List.getElem?_map, List.getElem?_range hj]; rfl
theorem vC_zero {n : Nat} : List.replicate n (XV.d (.lit (.int .i64 0))) = vC n fun _ => 0 := by
  unfold vC
  refine List.ext_getElem? fun i => ?_
  rw [List.getElem?_map, List.getElem?_replicate]
  by_cases h : i < n
  · rw [if_pos h, List.getElem?_range h]; rfl
  · rw [if_neg h, List.getElem?_eq_none (by simpa using h)]; rfl
theorem vC_put {n j : Nat} {v : Nat → Int} {x : Int} (hj : j < n) : (vC n v).set (0 + j) (.d (DI x)) = vC n (put1 v j x) := by
  unfold vC
  refine List.ext_getElem? fun i => ?_
  rw [Nat.zero_add, List.getElem?_set]
  by_cases hi : i < n
  · by_cases e : j = i
    · subst e
      rw [if_pos rfl, if_pos (by simpa using hi), List.getElem?_map, List.getElem?_range hi]
      show some (XV.d (DI x)) = some (.d (DI (put1 v j x j)))
      unfold put1; rw [if_pos rfl]
    · rw [if_neg e, List.getElem?_map, List.getElem?_map, List.getElem?_range hi]
      show some (XV.d (DI (v i))) = some (.d (DI (put1 v j x i)))
      unfold put1; rw [if_neg (fun h => e h.symm)]
  · rw [if_neg (by omega), List.getElem?_eq_none (by simp; omega), List.getElem?_eq_none (by simp; omega)]
theorem vC_eq {n : Nat} {v u : Nat → Int} (h : ∀ i, i < n → v i = u i) : vC n v = vC n u := by
  unfold vC
  exact List.map_congr_left fun i hi => by rw [h i (List.mem_range.1 hi)]
theorem set_vC {σ : List VObj} {n j : Nat} {v : Nat → Int} {x : Int} (h : σ[0]? = some ⟨vC n v, 0⟩) (hj : j < n) : (σ.set 0 ⟨(vC n v).set (0 + j) (.d (DI x)), 0⟩)[0]? = some ⟨vC n (put1 v j x), 0⟩ := by
  rw [vC_put hj, List.getElem?_set, if_pos rfl, if_pos (List.getElem?_eq_some_iff.1 h).1]
/-- A list of whole numbers with its room. -/
def intsE (l : List Int) : DV := .sl (l.map DI) l.length (some l.length)
theorem intsE_ints (l : List Int) : Ints (intsE l) l := .sl (by simp) fun i c x hc hx => by
  rw [List.getElem?_map, hx] at hc
  simp at hc; exact hc.symm
theorem fin_vC {σ : List VObj} {n k : Nat} {v : Nat → Int} (h : σ[0]? = some ⟨vC n v, 0⟩) : deepen (freezeAll σ) (k + 2) (.osl 0 0 n 1 n true) = some (intsE ((List.range n).map v)) := by
  have hf : (freezeAll σ)[0]? = some ⟨vC n v, 1⟩ := by simp [freezeAll, h]
  rw [deepen_cells (R := n) (ds := ((List.range n).map v).map DI) hf (by unfold vC; simp [Function.comp_def]) (by simp)]
  unfold intsE
  simp
theorem fin_tail {σ : List VObj} {n k : Nat} {v : Nat → Int} (h : σ[0]? = some ⟨vC n v, 0⟩) (h1 : 1 ≤ n) : deepen (freezeAll σ) (k + 2) (.osl 0 (0 + 1 * 1) (n - 1) 1 (n - 1) true) = some (intsE (((List.range n).map v).drop 1)) := by
  have hf : (freezeAll σ)[0]? = some ⟨vC n v, 1⟩ := by simp [freezeAll, h]
  rw [deepen_osl hf rfl (by rw [vC_len]; omega), show (0 + 1 * 1 : Nat) = 1 from rfl, Nat.mul_one, List.take_of_length_le (by rw [List.length_drop, vC_len]; omega)]
  have e : (⟨vC n v, 1⟩ : VObj).cells.drop 1 = ((((List.range n).map v).drop 1).map DI).map XV.d := by
    show (vC n v).drop 1 = _
    unfold vC
    rw [← List.map_drop, List.map_map, ← List.map_drop, List.map_map]; rfl
  rw [e, mapM_deep]
  unfold intsE
  simp
section
variable {P : Program} {n : Nat} {ops : Array Oper} {l : List Oper} {σ : List VObj} {kn : Kn} {dst : Option Tmp} {ty : TypeId} {pos : String} {af : Array Edge} {g : Option (Nat × Bool)}
/-- s[m:] of one's own slice. -/
theorem K.sliceO {x h : Operand} {t e : TypeId} {id off len lo m : Nat} {ex : Bool} (hx : evK kn x = some (.osl id off len 1 lo ex)) (hh : evK kn h = some (.d (DI (m : Int)))) (hm : m ≤ len) (hl : len ≤ lo) (hmo : m < lo ∨ m = 0) (ht : P.underlying t = some (.slice e)) (hs : sizeT P e = some 1) :
    KEv P ⟨dst, .slice t x (some h) none none, ty, pos, af, g⟩ σ kn (.osl id (off + m * 1) (len - m) 1 (lo - m) ex) σ 0 := ev_op fun env he => by
  have e1 := evK_evalX he hx
  have e2 := evK_evalX he hh
  unfold evalOp
  rw [litOp_none (x := x) (by simp [Op.operands]) (by rw [e1]; rfl)]
  simp only [e1, e2, opSlice, Option.map_none, Option.map_some, ht, hs, boundOf, litOf]
  rw [if_pos (Int.natCast_nonneg m)]
  simp only [Int.toNat_natCast]
  rw [if_pos ⟨hm, hl, trivial, hmo⟩]
/-- s[m:] of a list that is read. -/
theorem K.sliceE {x h : Operand} {t e : TypeId} {l : List Int} {m : Nat} (hx : evK kn x = some (.d (intsE l))) (hh : evK kn h = some (.d (DI (m : Int)))) (hm : m ≤ l.length) (ht : P.underlying t = some (.slice e)) (hs : sizeT P e = some 1) :
    KEv P ⟨dst, .slice t x (some h) none none, ty, pos, af, g⟩ σ kn (.d (intsE (l.drop m))) σ 0 := ev_op fun env he => by
  have e1 := evK_evalX he hx
  have e2 := evK_evalX he hh
  unfold evalOp
  rw [litOp_none (x := x) (by simp [Op.operands]) (by rw [e1]; rfl)]
  have h0 : ((l.map DI).drop (m * 1)).take ((l.length - m) * 1) = (l.drop m).map DI := by
    rw [Nat.mul_one, Nat.mul_one, List.take_of_length_le (by simp), List.map_drop]
  have hc : m ≤ l.length ∧ l.length ≤ l.length ∧ l.length * 1 ≤ (l.map DI).length := ⟨hm, Nat.le_refl _, by simp⟩
  unfold intsE at e1 ⊢
  simp only [e1, e2, opSlice, Option.map_none, Option.map_some, ht, hs, boundOf, litOf]
  rw [if_pos (Int.natCast_nonneg m)]
  simp only [Int.toNat_natCast]
  rw [if_pos hc, h0]
  simp
end
end Go.Vm

