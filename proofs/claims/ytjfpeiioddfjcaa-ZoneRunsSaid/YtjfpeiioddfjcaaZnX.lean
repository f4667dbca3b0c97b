import Derived.Test.YtjfpeiioddfjcaaZnV
/-
  POINTS: what a point keeps within; tightening, guards, waiting and resetting of points.
-/
namespace Go.Zn
def pv (p : List Int) (i : Nat) : Int := ((0 : Int) :: p).getD i 0
def ptB (p : List Int) (n : Int) : Bool := p.all (fun x => decide (0 ≤ x) && decide (x ≤ 20000)) && decide ((p.length : Int) = n)
def hasOk (z : List (List Int)) (p : List Int) : Bool := validZ z && ptB p ((z.length : Int) - 1)
def hasE (z : List (List Int)) (p : List Int) : Int := if hasOk z p then 0 else 2
def hasB (z : List (List Int)) (p : List Int) : Bool := hasOk z p && insideB z.length (zf z) (pv p) 4
/-- A difference is within a bound. -/
def wB (diff den b : Int) : Bool := decide (b = 1099511627776) || (decide (diff < b / 2 * den) || (decide (diff = b / 2 * den) && decide (b % 2 = 1)))
theorem wB_gre {diff den b : Int} (hb : b ≠ 1099511627776) : wB diff den b = decide (diff ≤ gre b den) := by
  unfold wB gre
  rw [decide_eq_false hb, Bool.false_or]
  have h2 : b % 2 = 0 ∨ b % 2 = 1 := by omega
  generalize b / 2 * den = c
  by_cases h1 : diff < c
  · rw [decide_eq_true h1, decide_eq_true (show diff ≤ c - 1 + b % 2 by omega)]; rfl
  · rw [decide_eq_false h1, Bool.false_or]
    by_cases h3 : diff = c
    · rw [decide_eq_true h3, Bool.true_and]
      exact decide_eq_decide.2 (by omega)
    · rw [decide_eq_false h3, decide_eq_false (show ¬ diff ≤ c - 1 + b % 2 by omega)]; rfl
theorem wB_4 {diff b : Int} (hd : diff ≤ 1000000000) : wB diff 4 b = decide (diff ≤ gre b 4) := by
  by_cases hb : b = 1099511627776
  · subst hb
    have e : gre 1099511627776 4 = 549755813888 * 4 - 1 + 0 := rfl
    rw [e, decide_eq_true (show diff ≤ 549755813888 * 4 - 1 + 0 by omega)]
    unfold wB
    rfl
  · exact wB_gre hb
theorem gre_mono {a b : Int} (h : a ≤ b) : gre a 4 ≤ gre b 4 := by unfold gre; omega
theorem gre_sum {a b : Int} (ha : a ≠ 1099511627776) (hb : b ≠ 1099511627776) : gre a 4 + gre b 4 ≤ gre (bsum a b) 4 := by
  unfold bsum
  rw [if_neg (by omega)]
  unfold gre
  have h1 : a % 2 = 0 ∨ a % 2 = 1 := by omega
  have h2 : b % 2 = 0 ∨ b % 2 = 1 := by omega
  rcases h1 with h1 | h1 <;> rcases h2 with h2 | h2 <;> rw [h1, h2] <;> simp only [show min (0 : Int) 0 = 0 from rfl, show min (0 : Int) 1 = 0 from rfl, show min (1 : Int) 0 = 0 from rfl, show min (1 : Int) 1 = 1 from rfl] <;> omega
/-- A point whose values keep within. -/
structure Pt (n : Nat) (v : Nat → Int) : Prop where
  zero : v 0 = 0
  low : ∀ i, i < n → 0 ≤ v i
  high : ∀ i, i < n → v i ≤ 1000000
def In (n : Nat) (a : Nat → Nat → Int) (v : Nat → Int) : Prop := ∀ i j, i < n → j < n → v i - v j ≤ gre (a i j) 4
theorem In_iff {n : Nat} {a : Nat → Nat → Int} {v : Nat → Int} : insideB n a v 4 = true ↔ In n a v := inside_iff
theorem gre_none : gre 1099511627776 4 = 2199023255551 := rfl
theorem In.flo {n : Nat} {a : Nat → Nat → Int} {v : Nat → Int} (hv : Pt n v) (h : In n a v) : In n (flo n a) v := fun i j hi hj => by
  have := h i j hi hj
  have h1 : gre 1 4 = 0 := rfl
  unfold Zn.flo floP
  split
  · rename_i hc
    rcases Int.le_total (a i j) 1 with hm | hm
    · rwa [Int.min_eq_left hm]
    · rw [Int.min_eq_right hm, h1]
      rcases hc with ⟨rfl, _⟩ | ⟨rfl, _⟩
      · have := hv.zero; have := hv.low j hj; omega
      · omega
  · exact this
/-- A point of a zone is one of the tightened zone. -/
theorem In.tight {n : Nat} {a : Nat → Nat → Int} {v : Nat → Int} (hv : Pt n v) (h : In n a v) : In n (tightM n a) v := by
  refine fw_keep (o := cops) (n := n) (a := Zn.flo n a) (fun F => In n F v) (h.flo hv) fun b k i j hk _ _ hb x y hx hy => ?_
  unfold up
  split
  · rename_i hc
    obtain ⟨rfl, rfl⟩ := hc
    show v x - v y ≤ gre (min (b x y) (bsum (b x k) (b k y))) 4
    rcases Int.le_total (b x y) (bsum (b x k) (b k y)) with hm | hm
    · rw [Int.min_eq_left hm]; exact hb x y hx hy
    · rw [Int.min_eq_right hm]
      by_cases h1 : b x k = 1099511627776
      · rw [h1, bsum_n1, gre_none]
        have := hv.high x hx; have := hv.low y hy; omega
      · by_cases h2 : b k y = 1099511627776
        · rw [h2, bsum_n2, gre_none]
          have := hv.high x hx; have := hv.low y hy; omega
        · have := gre_sum h1 h2
          have := hb x k hx hk
          have := hb k y hk hy
          omega
  · exact hb x y hx hy
theorem In.mono {n : Nat} {a b : Nat → Nat → Int} {v : Nat → Int} (h : In n a v) (hl : LeM n a b) : In n b v := fun i j hi hj => Int.le_trans (h i j hi hj) (gre_mono (hl i j hi hj))
theorem In.nonempty {n : Nat} {a : Nat → Nat → Int} {v : Nat → Int} (hv : Pt n v) (h : In n a v) : emptyB n (tightM n a) = false := by
  cases hb : emptyB n (tightM n a) with
  | false => rfl
  | true =>
    obtain ⟨i, hi, h1⟩ := emptyB_iff.1 hb
    have := (h.tight hv) i i hi hi
    have h2 : gre (tightM n a i i) 4 ≤ gre 0 4 := gre_mono (by omega)
    have h3 : gre 0 4 = -1 := rfl
    omega
theorem In.del {n : Nat} {a : Nat → Nat → Int} {v w : Nat → Int} (hw : Pt n w) (h : In n a v) (ht : ∃ t, 0 ≤ t ∧ ∀ i, 1 ≤ i → i < n → w i = v i + t) (h0 : v 0 = 0) : In n (delM n a) w := fun i j hi hj => by
  obtain ⟨t, ht0, ht⟩ := ht
  have := h i j hi hj
  have hw0 := hw.zero
  unfold delM delP
  by_cases hc : j = 0 ∧ 1 ≤ i ∧ i < n
  · rw [if_pos hc, gre_none]
    have := hw.high i hi; have := hw.low j hj; omega
  · rw [if_neg hc]
    by_cases hi0 : i = 0
    · subst hi0
      by_cases hj0 : j = 0
      · subst hj0; omega
      · have := ht j (by omega) hj; omega
    · have := ht i (by omega) hi
      have := ht j (by omega) hj
      omega
theorem In.res {n s : Nat} {a : Nat → Nat → Int} {v w : Nat → Int} (h : In n a v) (hr : ∀ i, i < n → w i = v (rho s (n - 1) i)) : In n (resM n s a) w := fun i j hi hj => by
  rw [hr i hi, hr j hj, resM_eq hi hj]
  exact h _ _ (rho_lt hi) (rho_lt hj)
theorem pv_zero {p : List Int} : pv p 0 = 0 := rfl
theorem pv_succ {p : List Int} {i : Nat} : pv p (i + 1) = p.getD i 0 := rfl
theorem pt_rows {p : List Int} {n : Int} (h : ptB p n = true) : (∀ x ∈ p, 0 ≤ x ∧ x ≤ 20000) ∧ (p.length : Int) = n := by
  unfold ptB at h
  simp only [Bool.and_eq_true, decide_eq_true_eq, List.all_eq_true] at h
  exact h
theorem pt_of {p : List Int} {n : Int} (h : ∀ x ∈ p, 0 ≤ x ∧ x ≤ 20000) (h2 : (p.length : Int) = n) : ptB p n = true := by
  unfold ptB
  simp only [Bool.and_eq_true, decide_eq_true_eq, List.all_eq_true]
  exact ⟨h, h2⟩
theorem pv_lim {p : List Int} (h : ∀ x ∈ p, 0 ≤ x ∧ x ≤ 20000) (i : Nat) : 0 ≤ pv p i ∧ pv p i ≤ 20000 := by
  cases i with
  | zero => rw [pv_zero]; omega
  | succ i =>
    rw [pv_succ]
    by_cases hi : i < p.length
    · rw [show p.getD i 0 = p[i] by simp [hi]]; exact h _ (List.getElem_mem hi)
    · rw [getD_over (by omega)]; omega
theorem pv_pt {p : List Int} {n : Nat} (h : ∀ x ∈ p, 0 ≤ x ∧ x ≤ 20000) : Pt n (pv p) := ⟨pv_zero, fun i _ => (pv_lim h i).1, fun i _ => by have := (pv_lim h i).2; omega⟩
theorem hasE_zero {z : List (List Int)} {p : List Int} (h : hasE z p = 0) : validZ z = true ∧ ptB p ((z.length : Int) - 1) = true := by
  unfold hasE at h
  split at h
  · rename_i hk
    unfold hasOk at hk
    simp only [Bool.and_eq_true] at hk
    exact hk
  · cases h
theorem hasE_of {z : List (List Int)} {p : List Int} (h1 : validZ z = true) (h2 : ptB p ((z.length : Int) - 1) = true) : hasE z p = 0 ∧ hasB z p = insideB z.length (zf z) (pv p) 4 := by
  have : hasOk z p = true := by unfold hasOk; rw [h1, h2]; rfl
  exact ⟨if_pos this, by unfold hasB; rw [this]; rfl⟩
theorem hasE_two {z : List (List Int)} {p : List Int} (h : hasE z p ≠ 0) : hasE z p = 2 := by
  unfold hasE at *
  split
  · rename_i hk; rw [if_pos hk] at h; exact absurd rfl h
  · rfl
theorem hasB_two {z : List (List Int)} {p : List Int} (h : hasE z p ≠ 0) : hasB z p = false := by
  unfold hasB
  unfold hasE at h
  cases hk : hasOk z p with
  | false => rfl
  | true => rw [hk] at h; exact absurd rfl h
end Go.Zn
namespace Go.Vm
open Go.Zn
theorem halfq {b : Int} (h : -9223372036854775807 ≤ b ∧ b ≤ 9223372036854775807) : IntKind.i64.wrap ((b - b % 2).tdiv 2) = b / 2 := by
  have e : b - b % 2 = b / 2 * 2 := by omega
  rw [e, Int.mul_tdiv_cancel _ (by decide)]
  exact wrap_id (by omega)
theorem copy_c4 {p : List Int} {n : Nat} (hl : p.length + 1 = n) (h2 : 2 ≤ n) (h4 : n ≤ 4) : splice ((c4 fun _ => 0).map XV.d) (0 + 1 * 1) ((p.take (min p.length (4 - 1))).map fun n => XV.d (DI n)) = (c4 (pv p)).map XV.d := by
  match p, hl with
  | [], hl => simp at hl; omega
  | [a], _ => rfl
  | [a, b], _ => rfl
  | [a, b, c], _ => rfl
  | a :: b :: c :: d :: l, hl => simp at hl; omega
section
variable {P : Program} {n : Nat} {ops : Array Oper} {l : List Oper} {σ : List VObj} {kn : Kn} {dst : Option Tmp} {ty : TypeId} {pos : String} {af : Array Edge} {g : Option (Nat × Bool)}
/-- a[m:] of an array of the call's own. -/
theorem K.sliceAl {t e : TypeId} {x h : Operand} {id off n k m : Nat} {ob : VObj} (hx : evK kn x = some (.optr id off)) (hh : evK kn h = some (.d (DI (m : Int)))) (ht : P.underlying t = some (.array n e)) (hs : sizeT P e = some k) (ho : σ[id]? = some ob) (h2 : ob.mode ≠ 2) (hm : m < n) (hf : off + n * k ≤ ob.cells.length) :
    KEv P ⟨dst, .slice t x (some h) none none, ty, pos, af, g⟩ σ kn (.osl id (off + m * k) (n - m) k (n - m) true) σ 1 := ev_op fun env he => by
  have e1 := evK_evalX he hx
  have e2 := evK_evalX he hh
  unfold evalOp
  rw [litOp_none (x := x) (by simp [Op.operands]) (by rw [e1]; rfl)]
  have h0 : opSlice P t (.optr id off) (some (.d (DI (m : Int)))) none none = none := by
    unfold opSlice; rw [ht]
  simp only [e1, e2, Option.map_none, Option.map_some, h0, opSliceA, ht, ho, hs, boundOf, litOf]
  rw [if_pos (Int.natCast_nonneg m)]
  simp only [Int.toNat_natCast]
  rw [if_pos ⟨h2, by omega, Nat.le_refl _, hm, hf⟩]
  rfl
end
end Go.Vm

