import Derived.Test.YthbnnffmhnjpjaaCyY
/-
  CYCLES that are given, and potentials.
-/
namespace Go.Cy

def nx (c : List Int) (k : Nat) : Int := c.getD ((k + 1) % c.length) 0
def arcI (a : Nat → Nat → Int) (c : List Int) (k : Nat) : Int := a (c.getD k 0).toNat (nx c k).toNat
def inN (n : Nat) (x : Int) : Prop := 0 ≤ x ∧ x < n
def difK (c : List Int) (k : Nat) : Prop := ∀ q, q < k → c.getD q 0 ≠ c.getD k 0
def okK (n : Nat) (a : Nat → Nat → Int) (c : List Int) (k : Nat) : Prop := inN n (c.getD k 0) ∧ inN n (nx c k) ∧ difK c k ∧ arcI a c k ≠ Nv
def cycP (n : Nat) (a : Nat → Nat → Int) (c : List Int) : Prop := ∀ k, k < c.length → okK n a c k
def wtS (a : Nat → Nat → Int) (c : List Int) : Nat → Int
  | 0 => 0
  | k + 1 => wtS a c k + arcI a c k
def metN (c : List Int) : Nat → Nat
  | 0 => 0
  | k + 1 => metN c k ||| 2 ^ (c.getD k 0).toNat

theorem met_bit {c : List Int} {k i : Nat} : (metN c k).testBit i = true ↔ ∃ q, q < k ∧ (c.getD q 0).toNat = i := by
  induction k with
  | zero => simp [metN]
  | succ k ih =>
    simp only [metN, Nat.testBit_or, Bool.or_eq_true, ih, Nat.testBit_two_pow, decide_eq_true_eq]
    constructor
    · rintro (⟨q, h1, h2⟩ | h)
      · exact ⟨q, by omega, h2⟩
      · exact ⟨k, by omega, h⟩
    · rintro ⟨q, h1, h2⟩
      by_cases e : q = k
      · subst e; exact .inr h2
      · exact .inl ⟨q, by omega, h2⟩
theorem met_lt {c : List Int} {n : Nat} : ∀ {k : Nat}, (∀ q, q < k → inN n (c.getD q 0)) → metN c k < 2 ^ n
  | 0, _ => Nat.two_pow_pos n
  | k + 1, h => by
    refine Nat.or_lt_two_pow (met_lt fun q hq => h q (by omega)) ?_
    have := h k (by omega)
    unfold inN at this
    exact Nat.pow_lt_pow_right (by decide) (by omega)
/-- Different nodes are no more than there are. -/
theorem dif_le {n : Nat} {c : List Int} {k : Nat} (h : ∀ q, q < k → inN n (c.getD q 0) ∧ difK c q) : k ≤ n := by
  refine Nat.le_of_not_lt fun hk => ?_
  obtain ⟨s, t, h1, h2, h3⟩ := pigeon n (fun m => (c.getD m 0).toNat) fun m hm => by
    have := (h m (by omega)).1; unfold inN at this; omega
  have a1 := (h s (by omega)).1
  have a2 := h t (by omega)
  unfold inN at a1 a2
  exact a2.2 s h1 (by omega)
theorem wtS_bd {a : Nat → Nat → Int} {b : Int} (hb : GoodM b a) {c : List Int} (h0 : 0 ≤ b) : ∀ {k : Nat}, (∀ q, q < k → arcI a c q ≠ Nv) → -(b * k) ≤ wtS a c k ∧ wtS a c k ≤ b * k
  | 0, _ => by simp [wtS]
  | k + 1, h => by
    have h1 := wtS_bd hb h0 (k := k) fun q hq => h q (by omega)
    have h2 : Good b (arcI a c k) := hb _ _
    have h3 := h2.resolve_left (h k (by omega))
    have : b * ((k + 1 : Nat) : Int) = b * k + b := by rw [Int.natCast_add, Int.mul_add]; simp
    simp only [wtS]
    omega

noncomputable def cycB (n : Nat) (a : Nat → Nat → Int) (c : List Int) : Bool := @decide (cycP n a c ∧ 0 < c.length) (Classical.propDecidable _)
noncomputable def meanB (n : Nat) (a : Nat → Nat → Int) (c : List Int) (num den : Int) : Bool := cycB n a c && decide (wtS a c c.length * den = num * (c.length : Nat))
theorem cycB_true {n : Nat} {a : Nat → Nat → Int} {c : List Int} (h : cycP n a c) (h0 : 0 < c.length) : cycB n a c = true := @decide_eq_true _ (Classical.propDecidable _) ⟨h, h0⟩
theorem cycB_false {n : Nat} {a : Nat → Nat → Int} {c : List Int} (h : ¬ (cycP n a c ∧ 0 < c.length)) : cycB n a c = false := @decide_eq_false _ (Classical.propDecidable _) h
theorem cycB_iff {n : Nat} {a : Nat → Nat → Int} {c : List Int} : cycB n a c = true ↔ cycP n a c ∧ 0 < c.length := ⟨fun h => @of_decide_eq_true _ (Classical.propDecidable _) h, fun h => cycB_true h.1 h.2⟩

def F40 : Int := 1099511627776
def inF (x : Int) : Prop := -F40 ≤ x ∧ x ≤ F40
def potP (n : Nat) (a : Nat → Nat → Int) (v : List Int) (num den : Int) : Prop :=
  v.length = n ∧ (∀ x ∈ v, inF x) ∧ ∀ i, i < n → ∀ j, j < n → a i j ≠ Nv → den * a i j + v.getD j 0 ≤ num + v.getD i 0
noncomputable def potB (n : Nat) (a : Nat → Nat → Int) (v : List Int) (num den : Int) : Bool := @decide (potP n a v num den) (Classical.propDecidable _)
theorem potB_true {n : Nat} {a : Nat → Nat → Int} {v : List Int} {num den : Int} (h : potP n a v num den) : potB n a v num den = true := @decide_eq_true _ (Classical.propDecidable _) h
theorem potB_false {n : Nat} {a : Nat → Nat → Int} {v : List Int} {num den : Int} (h : ¬ potP n a v num den) : potB n a v num den = false := @decide_eq_false _ (Classical.propDecidable _) h
theorem potB_iff {n : Nat} {a : Nat → Nat → Int} {v : List Int} {num den : Int} : potB n a v num den = true ↔ potP n a v num den := ⟨fun h => @of_decide_eq_true _ (Classical.propDecidable _) h, potB_true⟩
def wideB (num den : Int) : Bool := (decide (-F40 ≤ num) && decide (num ≤ F40)) && (decide (1 ≤ den) && decide (den ≤ F40))
theorem wideB_iff {num den : Int} : wideB num den = true ↔ inF num ∧ 1 ≤ den ∧ den ≤ F40 := by
  unfold wideB inF; simp only [Bool.and_eq_true, decide_eq_true_eq]
theorem getD_get {l : List Int} {i : Nat} (h : i < l.length) : l.getD i 0 = l[i] := by simp [h]
theorem inF_all_take {v : List Int} {k : Nat} (hk : k < v.length) (h : ∀ x ∈ v.take k, inF x) (h1 : inF v[k]) : ∀ x ∈ v.take (k + 1), inF x := fun x hx => by
  rw [List.take_succ_eq_append_getElem hk, List.mem_append, List.mem_singleton] at hx
  rcases hx with hx | rfl
  · exact h x hx
  · exact h1
theorem inF_get {v : List Int} (h : ∀ x ∈ v, inF x) (i : Nat) : inF (v.getD i 0) := by
  by_cases hi : i < v.length
  · rw [getD_get hi]; exact h _ (List.getElem_mem hi)
  · rw [List.getD_eq_getElem?_getD, List.getElem?_eq_none (by omega)]; exact ⟨by decide, by decide⟩
theorem mul_bd {a b x y : Int} (hx : -a ≤ x ∧ x ≤ a) (hy : -b ≤ y ∧ y ≤ b) (ha : 0 ≤ a) (hb : 0 ≤ b) : -(a * b) ≤ x * y ∧ x * y ≤ a * b := by
  have h1 : (x * y).natAbs ≤ a.natAbs * b.natAbs := by rw [Int.natAbs_mul]; exact Nat.mul_le_mul (by omega) (by omega)
  have h2 : ((a.natAbs * b.natAbs : Nat) : Int) = a * b := by rw [Int.natCast_mul]; congr 1 <;> omega
  omega
end Go.Cy

