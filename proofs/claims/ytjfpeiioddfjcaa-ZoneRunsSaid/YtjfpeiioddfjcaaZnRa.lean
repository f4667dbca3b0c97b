import Derived.Test.YtjfpeiioddfjcaaZnY
/-
  THE REFERENCE's ways: sums along them, and which refute.
-/
namespace Go.Vm
theorem and_even (x : Nat) (h : x < 2 ^ 64) : x &&& (2 ^ 64 - 1 - 1) = 2 * (x / 2) := by
  apply Nat.eq_of_testBit_eq
  intro i
  rw [Nat.testBit_and]
  cases i with
  | zero =>
    rw [show (2 ^ 64 - 1 - 1 : Nat).testBit 0 = false from rfl, Bool.and_false, Nat.testBit_zero]
    exact (decide_eq_false (by omega)).symm
  | succ i =>
    rw [show (2 ^ 64 - 1 - 1 : Nat) = 2 * (2 ^ 63 - 1) from rfl, Nat.testBit_succ, Nat.testBit_succ, Nat.testBit_succ, show 2 * (2 ^ 63 - 1) / 2 = 2 ^ 63 - 1 from rfl, show 2 * (x / 2) / 2 = x / 2 by omega, Nat.testBit_two_pow_sub_one]
    by_cases hi : i < 63
    · rw [decide_eq_true hi, Bool.and_true]
    · rw [decide_eq_false hi, Bool.and_false]
      refine (Nat.testBit_lt_two_pow ?_).symm
      have : 2 ^ 63 ≤ 2 ^ i := Nat.pow_le_pow_right (by decide) (by omega)
      omega
theorem clrOne {a : Int} (h : -1000000000000000 ≤ a ∧ a ≤ 1000000000000000) : IntKind.i64.wrap (BitVec.ofInt IntKind.i64.bits a &&& ~~~BitVec.ofInt IntKind.i64.bits 1).toNat = a - a % 2 := by
  show IntKind.i64.wrap (BitVec.ofInt 64 a &&& ~~~BitVec.ofInt 64 1).toNat = a - a % 2
  have e : (BitVec.ofInt 64 a &&& ~~~BitVec.ofInt 64 1).toNat = 2 * ((BitVec.ofInt 64 a).toNat / 2) := by
    rw [BitVec.toNat_and, BitVec.toNat_not, show (BitVec.ofInt 64 1).toNat = 1 from rfl]
    exact and_even _ (BitVec.isLt _)
  rw [e, BitVec.toNat_ofInt]
  have h2 : (((a % ((2 ^ 64 : Nat) : Int)).toNat : Nat) : Int) = a % 18446744073709551616 := by omega
  have h3 : ((2 * ((a % ((2 ^ 64 : Nat) : Int)).toNat / 2) : Nat) : Int) = 2 * ((a % 18446744073709551616) / 2) := by omega
  rw [h3]
  simp [IntKind.wrap, IntKind.bits, IntKind.signed]
  split <;> omega
end Go.Vm
namespace Go.Zn
/-- The elements as a proof counts them. -/
def atm (a : Nat → Nat → Int) : Nat → Nat → Int := fun i j => if i = 0 then min (a i j) 1 else a i j
def alP (b : Nat → Nat → Int) (q : List Nat) : Nat → Int
  | 0 => 1
  | k + 1 => bsum (alP b q k) (b (q.getD k 0) (q.getD (k + 1) 0))
def alI (b : Nat → Nat → Int) (q : List Nat) : Int := alP b q (q.length - 1)
def rrI (b : Nat → Nat → Int) (q : List Nat) : Int := bsum (alI b q) (b (q.getD (q.length - 1) 0) (q.getD 0 0))
def rrB (n : Nat) (a : Nat → Nat → Int) (l : List Int) : Bool := difB n l && (decide (0 < l.length) && decide (rrI (atm a) (l.map Int.toNat) < 1))
theorem atm_good {a : Nat → Nat → Int} (h : ZgM 20480000 a) : ZgM 20480000 (atm a) := fun i j => by
  unfold atm
  split
  · exact min_lim (h i j) (.inr ⟨by omega, by omega⟩)
  · exact h i j
theorem alP_good {b : Nat → Nat → Int} (hb : ZgM 20480000 b) {q : List Nat} : ∀ k : Nat, Zg (1 + 20480001 * (k : Int)) (alP b q k)
  | 0 => .inr ⟨by show -(1 + 20480001 * ((0 : Nat) : Int)) ≤ 1; omega, by show (1 : Int) ≤ 1 + 20480001 * ((0 : Nat) : Int); omega⟩
  | k + 1 => Lim.mono (bsum_good (alP_good hb k) (hb _ _)) (by omega) (by omega)
theorem alP_w {b : Nat → Nat → Int} (hb : ZgM 20480000 b) {i : Nat} {l : List Nat} (hl : l.length ≤ 10) : ∀ k, k ≤ l.length → dec (alP b (i :: l) k) = w (dec2 b) i (l.take k)
  | 0, _ => by rw [List.take_zero]; rfl
  | k + 1, hk => by
    have ih := alP_w (i := i) hb hl k (by omega)
    have g1 : Zg TOP (alP b (i :: l) k) := Lim.mono (alP_good hb k) (by unfold TOP; omega) (by unfold TOP; omega)
    show dec (bsum (alP b (i :: l) k) (b ((i :: l).getD k 0) ((i :: l).getD (k + 1) 0))) = _
    rw [dec_bsum g1 (hb _ _).top, ih, List.take_succ_eq_append_getElem (by omega), w_append, w_one, endp_take i l k (by omega)]
    show badd _ (dec (b _ ((i :: l).getD (k + 1) 0))) = badd _ (dec2 b _ _)
    rw [show (i :: l).getD (k + 1) 0 = l[k] by simp [show k < l.length by omega]]; rfl
theorem alI_w {b : Nat → Nat → Int} (hb : ZgM 20480000 b) {i : Nat} {l : List Nat} (hl : l.length ≤ 10) : dec (alI b (i :: l)) = w (dec2 b) i l := by
  have := alP_w (i := i) hb hl l.length (Nat.le_refl _)
  rw [List.take_length] at this
  unfold alI
  rw [List.length_cons, Nat.add_sub_cancel]
  exact this
theorem alI_good {b : Nat → Nat → Int} (hb : ZgM 20480000 b) {q : List Nat} (hq : q.length ≤ 11) : Zg 1000000000 (alI b q) := Lim.mono (alP_good hb _) (by omega) (by omega)
theorem rrI_cyc {b : Nat → Nat → Int} (hb : ZgM 20480000 b) {i : Nat} {l : List Nat} (hl : l.length ≤ 10) : dec (rrI b (i :: l)) = cyc (dec2 b) i l := by
  have h1 := alI_w (i := i) hb hl
  have g1 : Zg TOP (alI b (i :: l)) := Lim.mono (alI_good hb (by rw [List.length_cons]; omega)) (by decide) (by decide)
  unfold rrI
  rw [dec_bsum g1 (hb _ _).top, h1]
  unfold cyc
  have := endp_take i l l.length (Nat.le_refl _)
  rw [List.take_length] at this
  rw [this, List.length_cons, Nat.add_sub_cancel]; rfl
theorem rrI_good {b : Nat → Nat → Int} (hb : ZgM 20480000 b) {q : List Nat} (hq : q.length ≤ 11) : Zg TOP (rrI b q) := Lim.mono (bsum_good (alI_good hb hq) (hb _ _)) (by decide) (by decide)
theorem rrB_cons {n : Nat} {a : Nat → Nat → Int} (hn : n ≤ 4) (ha : ZgM 20480000 a) {i : Nat} {l : List Nat} : rrB n a (zl (i :: l)) = true ↔ Simple n i l ∧ ¬ OM.le (OM.e : BO) (cyc (dec2 (atm a)) i l) := by
  unfold rrB
  have hb := atm_good ha
  rw [Bool.and_eq_true, Bool.and_eq_true, zl_dif, decide_eq_true_eq, decide_eq_true_eq, zl_nat, zl_len, List.length_cons]
  constructor
  · intro ⟨⟨h1, h2⟩, _, h3⟩
    have hl := dif_len h1 h2
    rw [List.length_cons] at hl
    refine ⟨⟨h2, h1⟩, ?_⟩
    rw [← rrI_cyc hb (by omega), ← dec_one]
    intro h4
    have := (dec_le (.inr ⟨by decide, by decide⟩) (rrI_good hb (by rw [List.length_cons]; omega))).1 h4
    omega
  · intro ⟨⟨h2, h1⟩, h3⟩
    have hl := dif_len h1 h2
    rw [List.length_cons] at hl
    refine ⟨⟨h1, h2⟩, by omega, ?_⟩
    rw [← rrI_cyc hb (by omega), ← dec_one] at h3
    exact Int.not_le.1 fun h4 => h3 ((dec_le (.inr ⟨by decide, by decide⟩) (rrI_good hb (by rw [List.length_cons]; omega))).2 h4)
theorem rrB_nil {n : Nat} {a : Nat → Nat → Int} : rrB n a [] = false := by
  unfold rrB
  rw [show decide (0 < ([] : List Int).length) = false from rfl, Bool.false_and, Bool.and_false]
/-- All ways that begin so. -/
def wLs (n : Nat) : Nat → List Nat → List (List Nat)
  | 0, q => [q]
  | f + 1, q => q :: (List.range n).flatMap fun j => if j ∈ q then [] else wLs n f (q ++ [j])
theorem wLs_mem {n : Nat} : ∀ (f : Nat) (q r : List Nat), (∀ x ∈ q, x < n) → q.Nodup → n < f + q.length → (r ∈ wLs n f q ↔ ∃ t, r = q ++ t ∧ (∀ x ∈ r, x < n) ∧ r.Nodup)
  | 0, q, r, h1, h2, h3 => by have := dif_len h1 h2; omega
  | f + 1, q, r, h1, h2, h3 => by
    unfold wLs
    rw [List.mem_cons, List.mem_flatMap]
    have step : ∀ j, j < n → j ∉ q → ((∀ x ∈ q ++ [j], x < n) ∧ (q ++ [j]).Nodup ∧ n < f + (q ++ [j]).length) := fun j hj hq => by
      refine ⟨fun x hx => ?_, ?_, by rw [List.length_append]; simp; omega⟩
      · rcases List.mem_append.1 hx with h | h
        · exact h1 x h
        · simp at h; omega
      · exact List.nodup_append.2 ⟨h2, by simp, fun x hx y hy e => by simp at hy; subst hy; subst e; exact hq hx⟩
    constructor
    · rintro (rfl | ⟨j, hj, hr⟩)
      · exact ⟨[], by simp, h1, h2⟩
      · have hj := List.mem_range.1 hj
        by_cases hq : j ∈ q
        · rw [if_pos hq] at hr; simp at hr
        · rw [if_neg hq] at hr
          obtain ⟨s1, s2, s3⟩ := step j hj hq
          obtain ⟨t, rfl, h4, h5⟩ := (wLs_mem f (q ++ [j]) r s1 s2 s3).1 hr
          exact ⟨j :: t, by simp, h4, h5⟩
    · intro ⟨t, hr, h4, h5⟩
      cases t with
      | nil => left; rw [hr]; simp
      | cons j t =>
        right
        subst hr
        have hj : j < n := h4 j (by simp)
        have hq : j ∉ q := fun hq => (List.nodup_append.1 h5).2.2 j hq j (by simp) rfl
        refine ⟨j, List.mem_range.2 hj, ?_⟩
        rw [if_neg hq]
        obtain ⟨s1, s2, s3⟩ := step j hj hq
        exact (wLs_mem f (q ++ [j]) _ s1 s2 s3).2 ⟨t, by simp, h4, h5⟩
/-- The ways from one node. -/
def waysN (n i : Nat) : List (List Nat) := wLs n (n + 1) [i]
theorem waysN_mem {n i : Nat} (hi : i < n) {r : List Nat} : r ∈ waysN n i ↔ ∃ t, r = i :: t ∧ Simple n i t := by
  unfold waysN
  rw [wLs_mem (n + 1) [i] r (fun x hx => by simp at hx; omega) (by simp) (by simp; omega)]
  constructor
  · rintro ⟨t, rfl, h1, h2⟩
    exact ⟨t, rfl, h2, h1⟩
  · rintro ⟨t, rfl, h1, h2⟩
    exact ⟨t, rfl, h2, h1⟩
end Go.Zn
namespace Go.Zn
theorem bsum_odd {x y : Int} (h1 : ¬ x = 1099511627776) (h2 : ¬ y = 1099511627776) (hx : x % 2 = 1) (hy : y % 2 = 1) : bsum x y = x + y - 1 := by
  have e : bsum x y = 2 * (x / 2 + y / 2) + min (x % 2) (y % 2) := if_neg (by omega)
  rw [e, hx, hy]
  show 2 * (x / 2 + y / 2) + 1 = _
  omega
theorem bsum_even {x y : Int} (h1 : ¬ x = 1099511627776) (h2 : ¬ y = 1099511627776) (h : ¬ (x % 2 = 1 ∧ y % 2 = 1)) : bsum x y = (x - x % 2) + (y - y % 2) := by
  have e : bsum x y = 2 * (x / 2 + y / 2) + min (x % 2) (y % 2) := if_neg (by omega)
  rw [e]
  omega
end Go.Zn

