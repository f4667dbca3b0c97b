import Derived.Test.YtocgjopmlhpjdaaNtI
/-
  Nets: siphons and traps, the program's side.
-/
namespace Go.Proofs.Ytocgjopmlhpjdaa
open Go.Vm
/-- The set of the places where a number is not zero. -/
def suppX (X : Nat → Int) : Nat → Nat
  | 0 => 0
  | i + 1 => if X i ≠ 0 then suppX X i ||| 2 ^ i else suppX X i
theorem suppX_bit (X : Nat → Int) : ∀ n p, (suppX X n).testBit p = (decide (p < n) && decide (X p ≠ 0))
  | 0, p => by simp [suppX]
  | n + 1, p => by
    have ih := suppX_bit X n p
    simp only [suppX]
    split
    · rename_i h
      rw [Nat.testBit_or, ih, Nat.testBit_two_pow]
      by_cases e : n = p
      · subst e; simp [h]
      · simp only [e, decide_false, Bool.or_false]
        rw [show decide (p < n + 1) = decide (p < n) from decide_eq_decide.2 (by omega)]
    · rename_i h
      rw [ih]
      by_cases e : n = p
      · subst e
        have : X n = 0 := Classical.not_not.1 h
        simp [this]
      · rw [show decide (p < n + 1) = decide (p < n) from decide_eq_decide.2 (by omega)]
/-- A row has a number that is not zero in a set. -/
def touchN (r : List Int) (set : Nat) : Bool := decide (suppX (tk r) 6 &&& set ≠ 0)
def siphQ (set : Nat) (q : List Int × List Int) : Bool := !touchN q.2 set || touchN q.1 set
def siphB (pre post : List (List Int)) (set : Nat) : Bool := (pre.zip post).all (siphQ set)
theorem zip_get {α β : Type} {x : List α} {y : List β} {i : Nat} (hx : i < x.length) (hy : i < y.length) : (x.zip y)[i]'(by simp; omega) = (x[i], y[i]) := by simp
section
variable {P : Program} {σ : List VObj} {kn : Kn} {dst : Option Tmp} {ty : TypeId} {pos : String} {af : Array Edge} {g : Option (Nat × Bool)}
end
/-- The places that no trap within the set has. -/
def lostN (pre post : List (List Int)) (set : Nat) : Nat → Nat
  | 0 => 0
  | t + 1 => if suppX (tk (post.getD t [])) 6 &&& set = 0 then lostN pre post set t ||| (suppX (tk (pre.getD t [])) 6 &&& set) else lostN pre post set t
theorem lostN_bit (pre post : List (List Int)) (set : Nat) : ∀ n p, (lostN pre post set n).testBit p = true ↔ ∃ t, t < n ∧ suppX (tk (post.getD t [])) 6 &&& set = 0 ∧ (suppX (tk (pre.getD t [])) 6 &&& set).testBit p = true
  | 0, p => by simp [lostN]
  | n + 1, p => by
    have ih := lostN_bit pre post set n p
    simp only [lostN]
    split
    · rename_i h
      rw [Nat.testBit_or, Bool.or_eq_true, ih]
      constructor
      · rintro (⟨t, h1, h2⟩ | h3)
        · exact ⟨t, by omega, h2⟩
        · exact ⟨n, by omega, h, h3⟩
      · rintro ⟨t, h1, h2, h3⟩
        by_cases e : t = n
        · subst e; exact .inr h3
        · exact .inl ⟨t, by omega, h2, h3⟩
    · rename_i h
      rw [ih]
      constructor
      · rintro ⟨t, h1, h2⟩; exact ⟨t, by omega, h2⟩
      · rintro ⟨t, h1, h2, h3⟩
        by_cases e : t = n
        · subst e; exact absurd h2 h
        · exact ⟨t, by omega, h2, h3⟩
end Go.Proofs.Ytocgjopmlhpjdaa

