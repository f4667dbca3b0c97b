import Derived.Test.YtocgjopmlhpjdaaNetJ
/-
  Nets: the greatest trap, and what Siphons and Trap of the program return.
-/
namespace Go.Proofs.Ytocgjopmlhpjdaa
open Go.Vm

def Sub (a b : Nat) : Prop := ∀ i, a.testBit i = true → b.testBit i = true
theorem diff_zero {a b : Nat} : diffN a b = 0 ↔ Sub a b := by
  constructor
  · intro h i hi
    have := testBit_diffN a b i
    rw [h, Nat.zero_testBit, hi] at this
    simpa using this.symm
  · intro h
    apply Nat.eq_of_testBit_eq
    intro i
    rw [testBit_diffN, Nat.zero_testBit]
    cases hi : a.testBit i with
    | false => rfl
    | true => rw [h i hi]; rfl
theorem Sub.le {a b : Nat} (h : Sub a b) : a ≤ b := by
  have e : a &&& b = a := by
    apply Nat.eq_of_testBit_eq
    intro i
    rw [Nat.testBit_and]
    cases hi : a.testBit i with
    | false => rfl
    | true => rw [h i hi]; rfl
  rw [← e]; exact Nat.and_le_right
theorem Sub.antisymm {a b : Nat} (h : Sub a b) (h2 : Sub b a) : a = b := Nat.le_antisymm h.le h2.le
theorem and_zero {a b : Nat} : a &&& b = 0 ↔ ∀ i, a.testBit i = true → b.testBit i = false := by
  constructor
  · intro h i hi
    have := congrArg (fun n => n.testBit i) h
    simp only [Nat.testBit_and, Nat.zero_testBit, hi, Bool.true_and] at this
    exact this
  · intro h
    apply Nat.eq_of_testBit_eq
    intro i
    rw [Nat.testBit_and, Nat.zero_testBit]
    cases hi : a.testBit i with
    | false => rfl
    | true => rw [h i hi]; rfl
theorem touch_iff {r : List Int} {set : Nat} : touchN r set = true ↔ ∃ p, p < 6 ∧ tk r p ≠ 0 ∧ set.testBit p = true := by
  unfold touchN
  rw [decide_eq_true_eq, Ne, and_zero]
  constructor
  · intro h
    simp only [Classical.not_forall] at h
    obtain ⟨i, h1, h2⟩ := h
    rw [suppX_bit] at h1
    simp at h1
    exact ⟨i, h1.1, h1.2, by simpa using h2⟩
  · rintro ⟨p, h1, h2, h3⟩ h
    have := h p (by rw [suppX_bit]; simp [h1, h2])
    rw [this] at h3; cases h3
theorem touch_mono {r : List Int} {a b : Nat} (h : Sub a b) (ht : touchN r a = true) : touchN r b = true := by
  obtain ⟨p, h1, h2, h3⟩ := touch_iff.1 ht
  exact touch_iff.2 ⟨p, h1, h2, h p h3⟩
theorem siphB_iff {pre post : List (List Int)} {set : Nat} (hpp : post.length = pre.length) : siphB pre post set = true ↔ ∀ t, t < pre.length → touchN (post.getD t []) set = true → touchN (pre.getD t []) set = true := by
  unfold siphB
  rw [List.all_eq_true]
  constructor
  · intro h t ht h1
    have := h (pre[t], post[t]) (by rw [← zip_get ht (by omega)]; exact List.getElem_mem _)
    rw [show post.getD t [] = post[t] by simp [show t < post.length by omega]] at h1
    rw [show pre.getD t [] = pre[t] by simp [ht]]
    simp only [siphQ, h1] at this
    simpa using this
  · intro h q hq
    obtain ⟨i, hi, rfl⟩ := List.getElem_of_mem hq
    simp only [List.length_zip] at hi
    have := h i (by omega)
    rw [show post.getD i [] = post[i] by simp [show i < post.length by omega], show pre.getD i [] = pre[i] by simp [show i < pre.length by omega]] at this
    rw [zip_get (by omega) (by omega)]
    simp only [siphQ]
    cases ht : touchN post[i] set with
    | false => rfl
    | true => rw [this ht]; rfl
/-- The union of the traps below q within a set. -/
def trapN (pre post : List (List Int)) (set : Nat) : Nat → Nat
  | 0 => 0
  | q + 1 => if diffN q set = 0 ∧ siphB post pre q = true then trapN pre post set q ||| q else trapN pre post set q
def trapR (pre post : List (List Int)) (set : Nat) : Nat := trapN pre post set (set + 1)
theorem trapN_bit (pre post : List (List Int)) (set : Nat) : ∀ n p, (trapN pre post set n).testBit p = true ↔ ∃ q, q < n ∧ Sub q set ∧ siphB post pre q = true ∧ q.testBit p = true
  | 0, p => by simp [trapN]
  | n + 1, p => by
    have ih := trapN_bit pre post set n p
    simp only [trapN]
    split
    · rename_i h
      rw [Nat.testBit_or, Bool.or_eq_true, ih]
      constructor
      · rintro (⟨t, h1, h2⟩ | h3)
        · exact ⟨t, by omega, h2⟩
        · exact ⟨n, by omega, diff_zero.1 h.1, h.2, h3⟩
      · rintro ⟨t, h1, h2, h3, h4⟩
        by_cases e : t = n
        · subst e; exact .inr h4
        · exact .inl ⟨t, by omega, h2, h3, h4⟩
    · rename_i h
      rw [ih]
      constructor
      · rintro ⟨t, h1, h2⟩; exact ⟨t, by omega, h2⟩
      · rintro ⟨t, h1, h2, h3, h4⟩
        by_cases e : t = n
        · subst e; exact absurd ⟨diff_zero.2 h2, h3⟩ h
        · exact ⟨t, by omega, h2, h3, h4⟩
/-- While the greatest trap is looked for. -/
structure TrapI (pre post : List (List Int)) (set0 set lost : Nat) : Prop where
  sub : Sub set set0
  all : ∀ q, Sub q set0 → siphB post pre q = true → Sub q set
  done : lost = 0 → lostN pre post set pre.length = 0
theorem TrapI.next {pre post : List (List Int)} {set0 set lost : Nat} (hpp : post.length = pre.length) (h : TrapI pre post set0 set lost) : TrapI pre post set0 (diffN set (lostN pre post set pre.length)) (lostN pre post set pre.length) := by
  refine ⟨fun i hi => ?_, fun q h1 h2 i hi => ?_, fun e => ?_⟩
  · rw [testBit_diffN, Bool.and_eq_true] at hi
    exact h.sub i hi.1
  · have hq := h.all q h1 h2
    rw [testBit_diffN, hq i hi, Bool.true_and, Bool.not_eq_true']
    cases hl : (lostN pre post set pre.length).testBit i with
    | false => rfl
    | true =>
      exfalso
      obtain ⟨t, ht, e1, e2⟩ := (lostN_bit pre post set pre.length i).1 hl
      rw [Nat.testBit_and, Bool.and_eq_true, suppX_bit] at e2
      simp only [Bool.and_eq_true, decide_eq_true_eq] at e2
      have h3 : touchN (pre.getD t []) q = true := touch_iff.2 ⟨i, e2.1.1, e2.1.2, hi⟩
      have h4 := (siphB_iff hpp.symm).1 h2 t (by omega) h3
      have h5 := touch_mono hq h4
      unfold touchN at h5
      rw [e1] at h5
      simp at h5
  · rw [e, show diffN set 0 = set by simp [diffN], e]
theorem TrapI.last {pre post : List (List Int)} {set0 set : Nat} (hpp : post.length = pre.length) (h : TrapI pre post set0 set 0) : set = trapR pre post set0 := by
  have hl := h.done rfl
  have htr : siphB post pre set = true := (siphB_iff hpp.symm).2 fun t ht h1 => by
    cases h2 : touchN (post.getD t []) set with
    | true => rfl
    | false =>
      exfalso
      obtain ⟨p, p1, p2, p3⟩ := touch_iff.1 h1
      have h3 : suppX (tk (post.getD t [])) 6 &&& set = 0 := by
        unfold touchN at h2
        simpa using h2
      have : (lostN pre post set pre.length).testBit p = true := (lostN_bit pre post set pre.length p).2 ⟨t, by omega, h3, by rw [Nat.testBit_and, suppX_bit, p3, decide_eq_true p1, decide_eq_true p2]; rfl⟩
      rw [hl, Nat.zero_testBit] at this
      cases this
  refine Sub.antisymm (fun i hi => ?_) fun i hi => ?_
  · exact (trapN_bit pre post set0 (set0 + 1) i).2 ⟨set, by have := h.sub.le; omega, h.sub, htr, hi⟩
  · obtain ⟨q, _, q1, q2, q3⟩ := (trapN_bit pre post set0 (set0 + 1) i).1 hi
    exact h.all q q1 q2 i q3
end Go.Proofs.Ytocgjopmlhpjdaa

