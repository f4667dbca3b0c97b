import Derived.Test.YthbnnffmhnjpjaaCyX
/-
  GAINS OVER A MEAN, WAYS, and how large they are.
-/
namespace Go.Cy
open Go.Vm

def gainI (a : Nat → Nat → Int) (p q : Int) (i j : Nat) : Int := if a i j = Nv then Nv else q * a i j - p
def stayI (n : Nat) (a : Nat → Nat → Int) (i j : Nat) : Int := gre [oneI n i j, a i j]
def waysI (n : Nat) (a : Nat → Nat → Int) : Nat → Nat → Int := pwI n (stayI n a) (n - 1)

theorem mul_bd' {x y b c : Int} (hx : -b ≤ x ∧ x ≤ b) (hy : 0 ≤ y ∧ y ≤ c) (hb : 0 ≤ b) : -(b * c) ≤ y * x ∧ y * x ≤ b * c := by
  have := mul_bd (a := b) (b := c) hx (y := y) (by omega) hb (by omega)
  rw [Int.mul_comm y x]; exact this
theorem gain_good {a : Nat → Nat → Int} {b c : Int} {p q : Int} (ha : GoodM b a) (hb : 0 ≤ b) (hq : 0 < q ∧ q ≤ c) (hp : -(b * q) ≤ p ∧ p ≤ b * q) : GoodM (2 * (b * c)) (gainI a p q) := fun i j => by
  unfold gainI
  split
  · exact .inl rfl
  · rename_i h
    have h1 := (ha i j).resolve_left h
    have h2 := mul_bd' h1 (y := q) (c := c) ⟨by omega, hq.2⟩ hb
    have h3 : b * q ≤ b * c := Int.mul_le_mul_of_nonneg_left hq.2 hb
    exact .inr (by omega)
theorem gain_dec {a : Nat → Nat → Int} {b c : Int} {p q : Int} (ha : GoodM b a) (hb : 0 ≤ b) (hq : 0 < q ∧ q ≤ c) (hp : -(b * q) ≤ p ∧ p ≤ b * q) (hB : 2 * (b * c) ≤ 1000000000000) : DM (gainI a p q) = gain (DM a) p q := by
  funext i j
  have hg := gain_good ha hb hq hp i j
  show dec (gainI a p q i j) = (dec (a i j)).map _
  unfold gainI at hg ⊢
  split
  · rename_i h; rw [h, dec_nv]; rfl
  · rename_i h
    rw [if_neg h] at hg
    rw [dec_some h]
    have h1 := (ha i j).resolve_left h
    have h2 := mul_bd' h1 (y := q) (c := c) ⟨by omega, hq.2⟩ hb
    have h3 : b * q ≤ b * c := Int.mul_le_mul_of_nonneg_left hq.2 hb
    rw [dec_some (by unfold Nv; omega)]; rfl

theorem gre_two {x y : Int} (hx : Nv ≤ x) (hy : Nv ≤ y) : gre [x, y] = max x y := by
  show max (max Nv x) y = _
  rw [Int.max_eq_right hx]
theorem stay_good {n : Nat} {a : Nat → Nat → Int} {b : Int} (ha : GoodM b a) (hb : 0 ≤ b) : GoodM b (stayI n a) := fun i j => gre_good fun x hx => by
  simp only [List.mem_cons, List.not_mem_nil, or_false] at hx
  rcases hx with rfl | rfl
  · exact one_good n hb i j
  · exact ha i j
theorem stay_dec {n : Nat} {a : Nat → Nat → Int} {b : Int} (ha : GoodM b a) (hb : 0 ≤ b) (hB : b ≤ 1000000000000) : DM (stayI n a) = tmx (tone n) (DM a) := by
  funext i j
  show dec (gre _) = omax (tone n i j) (dec (a i j))
  have h1 := (one_good n hb i j).ge hB
  have h2 := (ha i j).ge hB
  rw [gre_two h1 h2, max_dec h1 h2]
  congr 1
  exact congrFun (congrFun (one_dec n) i) j
theorem ways_good {n : Nat} {a : Nat → Nat → Int} {b : Int} (ha : GoodM b a) (hb : 0 ≤ b) : GoodM (((n - 1 : Nat) : Int) * b) (waysI n a) := pw_good (stay_good ha hb) hb (n - 1)
theorem ways_dec {n : Nat} {a : Nat → Nat → Int} {b : Int} (ha : GoodM b a) (hb : 0 ≤ b) (hs : Sup n (DM a)) (hB : b ≤ 1000000000000) (hB2 : ((n - 1 : Nat) : Int) * b ≤ 1000000000000) : DM (waysI n a) = star n (DM a) := by
  unfold waysI star
  rw [pw_dec (stay_good ha hb) hb hB2, stay_dec ha hb hB, tsum_pow hs]
theorem stay_sup {n : Nat} {a : Nat → Nat → Int} {b : Int} (ha : GoodM b a) (hb : 0 ≤ b) (hs : Sup n (DM a)) (hB : b ≤ 1000000000000) : Sup n (DM (stayI n a)) := by
  rw [stay_dec ha hb hB]; exact tmx_sup (tone_sup n) hs

/-- How large a mean can be. -/
theorem pow_bd {n : Nat} {a : Nat → Nat → Int} {b : Int} (ha : GoodM b a) (hb : 0 ≤ b) : ∀ (k : Nat) {i j : Nat} {w : Int}, tpow n (DM a) k i j = some w → -((k : Int) * b) ≤ w ∧ w ≤ (k : Int) * b
  | 0, i, j, w, h => by
    have h' : tone n i j = some w := h
    unfold tone at h'
    split at h'
    · cases h'; simp
    · cases h'
  | k + 1, i, j, w, h => by
    obtain ⟨l, x, y, _, hx, hy, rfl⟩ := mul_some h
    have h1 := pow_bd ha hb k hx
    have hy' : dec (a l j) = some y := hy
    unfold dec at hy'
    split at hy'
    · cases hy'
    · rename_i hne
      cases hy'
      have h2 := (ha l j).resolve_left hne
      rw [Int.natCast_add, Int.add_mul]
      simp; omega
theorem mean_bd {n : Nat} {a : Nat → Nat → Int} {b p q : Int} (ha : GoodM b a) (hb : 0 ≤ b) (h : MeanOf n (DM a) p q) : -(b * q) ≤ p ∧ p ≤ b * q := by
  obtain ⟨k, c, w, h1, h2, h3⟩ := h.eq
  have h4 := pow_bd ha hb k h2
  have hq := h.pos
  have hk : (0 : Int) < k := by omega
  have e1 : q * w ≤ q * ((k : Int) * b) := Int.mul_le_mul_of_nonneg_left h4.2 (by omega)
  have e2 : q * -((k : Int) * b) ≤ q * w := Int.mul_le_mul_of_nonneg_left h4.1 (by omega)
  have a1 : q * ((k : Int) * b) = (k : Int) * (b * q) := by simp only [Int.mul_comm, Int.mul_left_comm, Int.mul_assoc]
  have a2 : q * -((k : Int) * b) = (k : Int) * -(b * q) := by rw [Int.mul_neg, a1, Int.mul_neg]
  constructor
  · refine Int.le_of_mul_le_mul_left (a := (k : Int)) ?_ hk
    rw [Int.mul_comm (k : Int) p]; omega
  · refine Int.le_of_mul_le_mul_left (a := (k : Int)) ?_ hk
    rw [Int.mul_comm (k : Int) p]; omega
theorem mean_den {n : Nat} {a : Nat → Nat → Int} (hn : 0 < n) {m : Int × Int} (h : meanI n a = some m) : 0 < m.2 ∧ m.2 ≤ n := by
  unfold meanI at h
  cases ht : topI n a n with
  | none => rw [ht] at h; cases h
  | some r =>
    rw [ht] at h
    cases h
    obtain ⟨⟨i, h1, h2, h3⟩, _⟩ := (top_spec hn).2 r ht
    obtain ⟨⟨k0, s1, s2⟩, _⟩ := rate_spec (a := a) (j := i) hn (Nat.le_refl n)
    have hr2 : 0 < r.2 ∧ r.2 ≤ n := by rw [h3, s2]; simp only; omega
    have := (low_spec hr2.1).1
    refine ⟨this, ?_⟩
    have hle : (lowI r).2 ≤ r.2 := by
      show r.2.tdiv _ ≤ _
      rw [Int.tdiv_eq_ediv_of_nonneg (by omega)]
      exact Int.ediv_le_self _ (by omega)
    omega
/-- What is known of the mean of a small matrix. -/
structure Small (n : Nat) (a : Nat → Nat → Int) : Prop where
  n1 : 1 ≤ n
  n6 : n ≤ 6
  ga : GoodM 1000 a
  sup : Sup n (DM a)
theorem Small.of {m : List (List Int)} (h : validB 1000 m = true) : Small m.length (mf m) ∧ m = genM m.length m.length (mf m) := by
  obtain ⟨h1, h2, h3, h4, h5⟩ := valid_of h
  exact ⟨⟨h1, h2, h4, h5⟩, h3⟩
theorem Small.mean {n : Nat} {a : Nat → Nat → Int} (h : Small n a) {p q : Int} (hm : meanI n a = some (p, q)) : MeanOf n (DM a) p q ∧ Int.gcd p q = 1 ∧ (0 < q ∧ q ≤ 6) ∧ (-(1000 * q) ≤ p ∧ p ≤ 1000 * q) ∧ GoodM 12000 (gainI a p q) ∧ DM (gainI a p q) = gain (DM a) p q ∧ Sup n (DM (gainI a p q)) := by
  have n1 := h.n1
  have n6 := h.n6
  obtain ⟨h1, h2⟩ := mean_some (by omega) h.ga (by omega) h.sup (by omega) hm
  have h3 := mean_den (by omega) hm
  have h4 := mean_bd h.ga (by omega) h1
  simp only at h1 h2 h3 h4
  have e := gain_dec h.ga (by omega) (q := q) (c := 6) ⟨h3.1, by omega⟩ h4 (by omega)
  exact ⟨h1, h2, ⟨h3.1, by omega⟩, h4, gain_good h.ga (by omega) (c := 6) ⟨h3.1, by omega⟩ h4, e, by rw [e]; exact gain_sup h.sup _ _⟩
theorem Small.none {n : Nat} {a : Nat → Nat → Int} (h : Small n a) (hm : meanI n a = none) : ∀ k c, 0 < k → tpow n (DM a) k c c = none :=
  mean_none (by have := h.n1; omega) h.ga (by omega) h.sup (by have := h.n6; omega) hm
end Go.Cy

