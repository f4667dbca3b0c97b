/-
  THE GREATEST MEAN OF A CYCLE: that there is one, that it is one number, and that Karp's way finds it.
-/
import Derived.Test.YthbnnffmhnjpjaaCyK
namespace Go.Cy

/-- num/den is the mean of A: no closed path is above it, and one has it. -/
structure MeanOf (n : Nat) (A : TM) (num den : Int) : Prop where
  pos : 0 < den
  le : ∀ k i w, 0 < k → tpow n A k i i = some w → den * w ≤ num * (k : Int)
  eq : ∃ k c w, 0 < k ∧ tpow n A k c c = some w ∧ den * w = num * (k : Int)

theorem MeanOf.np {n : Nat} {A : TM} {num den : Int} (h : MeanOf n A num den) : NP n (gain A num den) := fun k i hk w hw => by
  rw [pow_gain h.pos] at hw
  obtain ⟨x, hx, rfl⟩ := Option.map_eq_some_iff.1 hw
  have := h.le k i x hk hx; omega
theorem MeanOf.zero {n : Nat} {A : TM} {num den : Int} (h : MeanOf n A num den) : ∃ L c, 0 < L ∧ tpow n (gain A num den) L c c = some 0 := by
  obtain ⟨k, c, w, h1, h2, h3⟩ := h.eq
  exact ⟨k, c, h1, by rw [pow_gain h.pos, h2]; simp; omega⟩
theorem MeanOf.of_gain {n : Nat} {A : TM} {num den : Int} (hd : 0 < den) (h1 : NP n (gain A num den)) (h2 : ∃ L c, 0 < L ∧ tpow n (gain A num den) L c c = some 0) : MeanOf n A num den := by
  refine ⟨hd, fun k i w hk hw => ?_, ?_⟩
  · have := h1 k i hk (den * w - num * k) (by rw [pow_gain hd, hw]; rfl); omega
  · obtain ⟨L, c, hL, h⟩ := h2
    rw [pow_gain hd] at h
    obtain ⟨x, hx, he⟩ := Option.map_eq_some_iff.1 h
    exact ⟨L, c, x, hL, hx, by omega⟩

/-- The means are equal as fractions. -/
theorem MeanOf.uniq {n : Nat} {A : TM} {p q p' q' : Int} (h : MeanOf n A p q) (h' : MeanOf n A p' q') : p * q' = p' * q := by
  obtain ⟨k, c, w, h1, h2, h3⟩ := h.eq
  obtain ⟨k', c', w', h1', h2', h3'⟩ := h'.eq
  have e1 := h'.le k c w h1 h2
  have e2 := h.le k' c' w' h1' h2'
  have hk : (0 : Int) < k := by omega
  have hk' : (0 : Int) < k' := by omega
  have hq := h.pos
  have hq' := h'.pos
  -- q' w <= p' k, q w = p k: multiply
  have f1 : k * (p * q') ≤ k * (p' * q) := by
    have : q * (q' * w) ≤ q * (p' * k) := Int.mul_le_mul_of_nonneg_left e1 (by omega)
    have a : q * (q' * w) = k * (p * q') := by rw [show q * (q' * w) = q' * (q * w) by rw [← Int.mul_assoc, Int.mul_comm q q', Int.mul_assoc], h3, ← Int.mul_assoc, Int.mul_comm q' p, Int.mul_comm]
    have b : q * (p' * k) = k * (p' * q) := by rw [← Int.mul_assoc, Int.mul_comm q p', Int.mul_comm]
    omega
  have f2 : k' * (p' * q) ≤ k' * (p * q') := by
    have : q' * (q * w') ≤ q' * (p * k') := Int.mul_le_mul_of_nonneg_left e2 (by omega)
    have a : q' * (q * w') = k' * (p' * q) := by rw [show q' * (q * w') = q * (q' * w') by rw [← Int.mul_assoc, Int.mul_comm q' q, Int.mul_assoc], h3', ← Int.mul_assoc, Int.mul_comm q p', Int.mul_comm]
    have b : q' * (p * k') = k' * (p * q') := by rw [← Int.mul_assoc, Int.mul_comm q' p, Int.mul_comm]
    omega
  exact Int.le_antisymm (Int.le_of_mul_le_mul_left f1 hk) (Int.le_of_mul_le_mul_left f2 hk')

/-- Another name of the same fraction. -/
theorem MeanOf.scale {n : Nat} {A : TM} {p q p' q' : Int} (h : MeanOf n A p q) (hq' : 0 < q') (e : p * q' = p' * q) : MeanOf n A p' q' := by
  have hq := h.pos
  refine ⟨hq', fun k i w hk hw => ?_, ?_⟩
  · have h1 := Int.mul_le_mul_of_nonneg_left (h.le k i w hk hw) (show 0 ≤ q' by omega)
    refine Int.le_of_mul_le_mul_left (a := q) ?_ hq
    have a : q * (q' * w) = q' * (q * w) := by rw [← Int.mul_assoc, Int.mul_comm q q', Int.mul_assoc]
    have b : q * (p' * k) = q' * (p * k) := by rw [← Int.mul_assoc, ← Int.mul_assoc, Int.mul_comm q p', Int.mul_comm q' p, e]
    omega
  · obtain ⟨k, c, w, h1, h2, h3⟩ := h.eq
    refine ⟨k, c, w, h1, h2, ?_⟩
    refine Int.eq_of_mul_eq_mul_left (a := q) (by omega) ?_
    rw [show q * (q' * w) = q' * (q * w) by rw [← Int.mul_assoc, Int.mul_comm q q', Int.mul_assoc], h3, ← Int.mul_assoc, ← Int.mul_assoc, Int.mul_comm q p', Int.mul_comm q' p, e]

/-- A greatest fraction of finitely many. -/
theorem max_frac {α : Type} (num den : α → Int) (hd : ∀ a, 0 < den a) : ∀ (l : List α), l ≠ [] → ∃ a ∈ l, ∀ b ∈ l, num b * den a ≤ num a * den b
  | [], h => absurd rfl h
  | [a], _ => ⟨a, by simp, fun b hb => by simp at hb; subst hb; exact Int.le_refl _⟩
  | a :: b :: l, _ => by
    obtain ⟨m, h1, h2⟩ := max_frac num den hd (b :: l) (by simp)
    by_cases hc : num a * den m ≤ num m * den a
    · exact ⟨m, by simp [List.mem_cons.1 h1], fun c hc' => by
        rcases List.mem_cons.1 hc' with rfl | hc'
        · exact hc
        · exact h2 c hc'⟩
    · refine ⟨a, by simp, fun c hc' => ?_⟩
      rcases List.mem_cons.1 hc' with rfl | hc'
      · exact Int.le_refl _
      · have e1 := h2 c hc'
        have hm := hd m
        have ha := hd a
        have hcd := hd c
        refine Int.le_of_mul_le_mul_left (a := den m) ?_ hm
        have s1 : den a * (num c * den m) ≤ den a * (num m * den c) := Int.mul_le_mul_of_nonneg_left e1 (by omega)
        have s2 : den c * (num m * den a) ≤ den c * (num a * den m) := Int.mul_le_mul_of_nonneg_left (by omega) (by omega)
        have a1 : den a * (num c * den m) = den m * (num c * den a) := by rw [Int.mul_comm, Int.mul_assoc, Int.mul_comm (den m), ← Int.mul_assoc, Int.mul_comm]
        have a2 : den a * (num m * den c) = den c * (num m * den a) := by rw [Int.mul_comm, Int.mul_assoc, Int.mul_comm (den c), ← Int.mul_assoc, Int.mul_comm]
        have a3 : den c * (num a * den m) = den m * (num a * den c) := by rw [Int.mul_comm, Int.mul_assoc, Int.mul_comm (den m), ← Int.mul_assoc, Int.mul_comm]
        omega

/-- Where there is a closed path, there is a mean. -/
theorem mean_ex {n : Nat} {A : TM} (hs : Sup n A) {k0 c0 : Nat} {w0 : Int} (hk0 : 0 < k0) (h0 : tpow n A k0 c0 c0 = some w0) : ∃ p q, MeanOf n A p q := by
  -- a short closed path
  have hshort : ∀ (k i : Nat) (w : Int), 0 < k → tpow n A k i i = some w → ∃ k' i' w', 0 < k' ∧ k' ≤ n ∧ i' < n ∧ tpow n A k' i' i' = some w' := by
    intro k i w hk hw
    obtain ⟨p, h1, h2, h3, h4⟩ := pow_wt hs hw
    by_cases hkn : k ≤ n
    · exact ⟨k, i, w, hk, hkn, by rw [← h1]; exact h4 0 (by omega), hw⟩
    · obtain ⟨s, t, a1, a2, a3⟩ := pigeon n p fun m hm => h4 m (by omega)
      obtain ⟨w1, w2, c1, c2, _, _, _, b4, _⟩ := cut_path hs a1 (by omega) a3 h3 h4
      exact ⟨t - s, p s, c1, by omega, by omega, h4 s (by omega), b4⟩
  obtain ⟨k1, c1, w1, p1, p2, p3, p4⟩ := hshort k0 c0 w0 hk0 h0
  -- the candidates
  let cand : List (Nat × Nat) := (List.range n).flatMap fun k => (List.range n).map fun i => (k, i)
  have hcand : ∀ k i, (k, i) ∈ cand ↔ k < n ∧ i < n := fun k i => by simp [cand]
  let good := cand.filter fun q => (tpow n A (q.1 + 1) q.2 q.2).isSome
  have hgood : ∀ k i, (k, i) ∈ good ↔ (k < n ∧ i < n) ∧ (tpow n A (k + 1) i i).isSome = true := fun k i => by
    show (k, i) ∈ List.filter _ _ ↔ _
    rw [List.mem_filter, hcand]
  have hne : good ≠ [] := fun e => by
    have : (k1 - 1, c1) ∈ good := (hgood _ _).2 ⟨⟨by omega, p3⟩, by rw [show k1 - 1 + 1 = k1 by omega, p4]; rfl⟩
    rw [e] at this; cases this
  obtain ⟨a, ha, hmax⟩ := max_frac (fun q : Nat × Nat => (tpow n A (q.1 + 1) q.2 q.2).getD 0) (fun q => ((q.1 + 1 : Nat) : Int)) (fun q => by omega) good hne
  obtain ⟨ka, ia⟩ := a
  have ha' := (hgood _ _).1 ha
  obtain ⟨wa, hwa⟩ := Option.isSome_iff_exists.1 ha'.2
  have hle : ∀ k i, 0 < k → k ≤ n → ∀ w, tpow n A k i i = some w → ((ka + 1 : Nat) : Int) * w ≤ wa * k := fun k i hk hkn w hw => by
    have hi : i < n := Classical.byContradiction fun hi => by rw [tpow_sup hs k i i fun h => hi h.1] at hw; cases hw
    have := hmax (k - 1, i) ((hgood _ _).2 ⟨⟨by omega, hi⟩, by rw [show k - 1 + 1 = k by omega, hw]; rfl⟩)
    simp only [hwa, show k - 1 + 1 = k by omega, hw, Option.getD_some] at this
    rw [Int.mul_comm]; exact this
  refine ⟨wa, ((ka + 1 : Nat) : Int), MeanOf.of_gain (by omega) (np_of_short (gain_sup hs _ _) fun k i hk hkn w hw => ?_) ⟨ka + 1, ia, by omega, by rw [pow_gain (by omega), hwa]; simp; rw [Int.mul_comm]; omega⟩⟩
  rw [pow_gain (by omega)] at hw
  obtain ⟨x, hx, rfl⟩ := Option.map_eq_some_iff.1 hw
  have := hle k i hk hkn x hx; omega

theorem map_max {den c : Int} (hd : 0 < den) (a b : O) : (omax a b).map (fun x => den * x - c) = omax (a.map fun x => den * x - c) (b.map fun x => den * x - c) := by
  cases a with
  | none => cases b <;> rfl
  | some x => cases b with
    | none => rfl
    | some y =>
      simp only [omax, Option.map_some, Option.some.injEq]
      rcases Int.le_total x y with h | h
      · have := Int.mul_le_mul_of_nonneg_left h (Int.le_of_lt hd)
        rw [Int.max_eq_right h, Int.max_eq_right (by omega)]
      · have := Int.mul_le_mul_of_nonneg_left h (Int.le_of_lt hd)
        rw [Int.max_eq_left h, Int.max_eq_left (by omega)]
theorem map_sup {den c : Int} (hd : 0 < den) (f : Nat → O) : ∀ n, (osup n f).map (fun x => den * x - c) = osup n fun k => (f k).map fun x => den * x - c
  | 0 => rfl
  | n + 1 => by rw [osup, map_max hd, map_sup hd f n]; rfl
theorem dk_gain {n : Nat} {A : TM} {num den : Int} (hd : 0 < den) (k j : Nat) : dk n (gain A num den) k j = (dk n A k j).map fun x => den * x - num * (k : Int) := by
  unfold dk
  rw [map_sup hd]
  exact sup_congr fun i _ => pow_gain hd k i j

/-- KARP'S THEOREM, with the mean. -/
theorem karp_a {n : Nat} {A : TM} {p q : Int} (hs : Sup n A) (h : MeanOf n A p q) {j : Nat} {x : Int} (hx : dk n A n j = some x) : ∃ k y, k < n ∧ dk n A k j = some y ∧ q * (x - y) ≤ p * ((n : Int) - k) := by
  obtain ⟨k, y, h1, h2, h3⟩ := karp_le (gain_sup hs p q) h.np (j := j) (x := q * x - p * n) (by rw [dk_gain h.pos, hx]; rfl)
  rw [dk_gain h.pos] at h2
  obtain ⟨z, hz, rfl⟩ := Option.map_eq_some_iff.1 h2
  refine ⟨k, z, h1, hz, ?_⟩
  rw [Int.mul_sub, Int.mul_sub]; omega
theorem karp_b {n : Nat} {A : TM} {p q : Int} (hs : Sup n A) (h : MeanOf n A p q) : ∃ j x, j < n ∧ dk n A n j = some x ∧ ∀ k y, dk n A k j = some y → p * ((n : Int) - k) ≤ q * (x - y) := by
  obtain ⟨L, c, hL, hc⟩ := h.zero
  obtain ⟨j, x, h1, h2⟩ := karp_ge (gain_sup hs p q) h.np hL hc
  have hj : j < n := Classical.byContradiction fun hj => by
    obtain ⟨i, _, e⟩ := sup_some h1
    rw [tpow_sup (gain_sup hs p q) _ _ _ fun h => hj h.2] at e; cases e
  rw [dk_gain h.pos] at h1
  obtain ⟨z, hz, rfl⟩ := Option.map_eq_some_iff.1 h1
  refine ⟨j, z, hj, hz, fun k y hy => ?_⟩
  have := h2 k (q * y - p * k) (by rw [dk_gain h.pos, hy]; rfl)
  rw [Int.mul_sub, Int.mul_sub]; omega

/-- A way of n arcs meets a node twice. -/
theorem closed_of_dk {n : Nat} {A : TM} (hs : Sup n A) {j : Nat} {x : Int} (h : dk n A n j = some x) : ∃ k c w, 0 < k ∧ tpow n A k c c = some w := by
  obtain ⟨i, hi, e⟩ := sup_some h
  obtain ⟨p, h1, h2, h3, h4⟩ := pow_wt hs e
  obtain ⟨s, t, a1, a2, a3⟩ := pigeon n p fun m hm => h4 m (by omega)
  obtain ⟨w1, w2, c1, c2, _, _, _, b4, _⟩ := cut_path hs a1 (by omega) a3 h3 h4
  exact ⟨t - s, p s, c1, by omega, b4⟩
theorem dk_of_closed {n : Nat} {A : TM} (hs : Sup n A) {k c : Nat} {w : Int} (hk : 0 < k) (h : tpow n A k c c = some w) : ∃ j x, j < n ∧ dk n A n j = some x := by
  obtain ⟨p, q, hm⟩ := mean_ex hs hk h
  obtain ⟨j, x, h1, h2, _⟩ := karp_b hs hm
  exact ⟨j, x, h1, h2⟩

/-- Karp's way. -/
def bestI (n : Nat) (a : Nat → Nat → Int) : Nat → Nat → Int
  | 0, _ => 0
  | k + 1, j => gre ((List.range n).map fun i => aft (bestI n a k i) (a i j))
def belowI (f g : Int × Int) : Bool := decide (f.1 * g.2 < g.1 * f.2)
/-- The least rate of a node, over the first k numbers of arcs. -/
def rateI (n : Nat) (a : Nat → Nat → Int) (j : Nat) : Nat → Int × Int
  | 0 => (0, 0)
  | k + 1 => let r := (bestI n a n j - bestI n a k j, (n : Int) - k)
    if k = 0 ∨ belowI r (rateI n a j k) = true then r else rateI n a j k
/-- The greatest of the first j nodes. -/
def topI (n : Nat) (a : Nat → Nat → Int) : Nat → Option (Int × Int)
  | 0 => none
  | j + 1 => if bestI n a n j = Nv then topI n a j else
    match topI n a j with
    | none => some (rateI n a j n)
    | some m => if belowI m (rateI n a j n) then some (rateI n a j n) else some m
def lowI (f : Int × Int) : Int × Int := (f.1.tdiv (Int.gcd f.1 f.2), f.2.tdiv (Int.gcd f.1 f.2))
def meanI (n : Nat) (a : Nat → Nat → Int) : Option (Int × Int) := (topI n a n).map lowI

theorem best_good {n : Nat} {b : Int} {a : Nat → Nat → Int} (ha : GoodM b a) (hb : 0 ≤ b) : ∀ (k : Nat) (j : Nat), Good (k * b) (bestI n a k j)
  | 0, j => .inr (by simp [bestI])
  | k + 1, j => by
    refine gre_good fun x hx => ?_
    obtain ⟨i, _, rfl⟩ := List.mem_map.1 hx
    have := aft_good (best_good (n := n) ha hb k i) (ha i j)
    rwa [show (((k + 1 : Nat) : Int) * b) = (k : Int) * b + b by rw [Int.natCast_add, Int.add_mul]; simp]
theorem best_dec {n : Nat} {b : Int} {a : Nat → Nat → Int} (ha : GoodM b a) (hb : 0 ≤ b) : ∀ {k : Nat}, (k : Int) * b ≤ 1000000000000 → ∀ j, j < n → dec (bestI n a k j) = dk n (DM a) k j
  | 0, _, j, hj => by rw [dk_zero hj]; exact dec_some (by unfold Nv; simp [bestI])
  | k + 1, h, j, hj => by
    have e : (((k + 1 : Nat) : Int) * b) = (k : Int) * b + b := by rw [Int.natCast_add, Int.add_mul]; simp
    show dec (gre _) = _
    rw [gre_range (b := (k : Int) * b + b) (by omega) fun i _ => aft_good (best_good ha hb k i) (ha i j), dk_succ]
    refine sup_congr fun i hi => ?_
    rw [aft_dec (best_good ha hb k i) (ha i j) (by omega), best_dec ha hb (by omega) i hi]
    rfl

/-- What the least rate is. -/
theorem rate_spec {n : Nat} {a : Nat → Nat → Int} {j : Nat} : ∀ {k : Nat}, 0 < k → k ≤ n → (∃ k0, k0 < k ∧ rateI n a j k = (bestI n a n j - bestI n a k0 j, (n : Int) - k0)) ∧
    ∀ m, m < k → (rateI n a j k).1 * ((n : Int) - m) ≤ (bestI n a n j - bestI n a m j) * (rateI n a j k).2
  | 0, h, _ => absurd h (by omega)
  | k + 1, _, hn => by
    by_cases hk : k = 0
    · subst hk
      have e : rateI n a j 1 = (bestI n a n j - bestI n a 0 j, (n : Int) - (0 : Nat)) := by
        unfold rateI; exact if_pos (.inl rfl)
      refine ⟨⟨0, by omega, e⟩, fun m hm => ?_⟩
      rw [show m = 0 by omega, e]; exact Int.le_refl _
    · obtain ⟨⟨k0, h1, h2⟩, h3⟩ := rate_spec (n := n) (a := a) (j := j) (k := k) (by omega) (by omega)
      by_cases hb : belowI (bestI n a n j - bestI n a k j, (n : Int) - k) (rateI n a j k) = true
      · have e : rateI n a j (k + 1) = (bestI n a n j - bestI n a k j, (n : Int) - k) := if_pos (.inr hb)
        refine ⟨⟨k, by omega, e⟩, fun m hm => ?_⟩
        rw [e]
        by_cases em : m = k
        · subst em; exact Int.le_refl _
        · have g1 := h3 m (by omega)
          have g2 := of_decide_eq_true hb
          rw [h2] at g1 g2
          simp only at g1 g2 ⊢
          refine Int.le_of_mul_le_mul_left (a := (n : Int) - k0) ?_ (by omega)
          have s1 := Int.mul_le_mul_of_nonneg_left g1 (show (0 : Int) ≤ (n : Int) - k by omega)
          have s2 := Int.mul_le_mul_of_nonneg_left (Int.le_of_lt g2) (show (0 : Int) ≤ (n : Int) - m by omega)
          simp only [Int.mul_comm, Int.mul_left_comm, Int.mul_assoc] at s1 s2 ⊢
          exact Int.le_trans s2 s1
      · have e : rateI n a j (k + 1) = rateI n a j k := if_neg (by rintro (h | h); exact hk h; exact hb h)
        rw [e]
        refine ⟨⟨k0, by omega, h2⟩, fun m hm => ?_⟩
        by_cases em : m = k
        · subst em
          have g2 : ¬ ((bestI n a n j - bestI n a m j) * (rateI n a j m).2 < (rateI n a j m).1 * ((n : Int) - m)) := fun h => hb (decide_eq_true h)
          omega
        · exact h3 m (by omega)

/-- What the greatest of them is. -/
theorem top_spec {n : Nat} {a : Nat → Nat → Int} (hn : 0 < n) : ∀ {j : Nat},
    (topI n a j = none → ∀ i, i < j → bestI n a n i = Nv) ∧
    ∀ m, topI n a j = some m → (∃ i, i < j ∧ bestI n a n i ≠ Nv ∧ m = rateI n a i n) ∧ ∀ i, i < j → bestI n a n i ≠ Nv → (rateI n a i n).1 * m.2 ≤ m.1 * (rateI n a i n).2
  | 0 => ⟨fun _ i h => by omega, fun m h => by cases h⟩
  | j + 1 => by
    obtain ⟨h1, h2⟩ := top_spec (a := a) hn (j := j)
    have hpos : ∀ i, 0 < (rateI n a i n).2 := fun i => by
      obtain ⟨⟨k0, h3, h4⟩, _⟩ := rate_spec (a := a) (j := i) hn (Nat.le_refl n)
      rw [h4]; simp only; omega
    by_cases hb : bestI n a n j = Nv
    · have e : topI n a (j + 1) = topI n a j := by show (if _ then _ else _) = _; rw [if_pos hb]
      rw [e]
      refine ⟨fun h i hi => ?_, fun m hm => ?_⟩
      · by_cases ei : i = j
        · subst ei; exact hb
        · exact h1 h i (by omega)
      · obtain ⟨⟨i0, k1, k2, k3⟩, k4⟩ := h2 m hm
        refine ⟨⟨i0, by omega, k2, k3⟩, fun i hi hne => ?_⟩
        by_cases ei : i = j
        · subst ei; exact absurd hb hne
        · exact k4 i (by omega) hne
    · cases ht : topI n a j with
      | none =>
        have e : topI n a (j + 1) = some (rateI n a j n) := by show (if _ then _ else _) = _; rw [if_neg hb, ht]
        rw [e]
        refine ⟨(by simp), fun m hm => ?_⟩
        cases hm
        refine ⟨⟨j, by omega, hb, rfl⟩, fun i hi hne => ?_⟩
        by_cases ei : i = j
        · subst ei; exact Int.le_refl _
        · exact absurd (h1 ht i (by omega)) hne
      | some m0 =>
        obtain ⟨⟨i0, k1, k2, k3⟩, k4⟩ := h2 m0 ht
        by_cases hlt : belowI m0 (rateI n a j n) = true
        · have e : topI n a (j + 1) = some (rateI n a j n) := by show (if _ then _ else _) = _; rw [if_neg hb, ht]; simp only [hlt, if_true]
          rw [e]
          refine ⟨(by simp), fun m hm => ?_⟩
          cases hm
          refine ⟨⟨j, by omega, hb, rfl⟩, fun i hi hne => ?_⟩
          by_cases ei : i = j
          · subst ei; exact Int.le_refl _
          · have g1 := k4 i (by omega) hne
            have g2 := of_decide_eq_true hlt
            have hm0 : 0 < m0.2 := by rw [k3]; exact hpos _
            refine Int.le_of_mul_le_mul_left (a := m0.2) ?_ hm0
            have s1 := Int.mul_le_mul_of_nonneg_left g1 (Int.le_of_lt (hpos j))
            have s2 := Int.mul_le_mul_of_nonneg_left (Int.le_of_lt g2) (Int.le_of_lt (hpos i))
            simp only [Int.mul_comm, Int.mul_left_comm, Int.mul_assoc] at s1 s2 ⊢
            exact Int.le_trans s1 s2
        · have e : topI n a (j + 1) = some m0 := by show (if _ then _ else _) = _; rw [if_neg hb, ht]; simp only [hlt, if_false]; rfl
          rw [e]
          refine ⟨(by simp), fun m hm => ?_⟩
          cases hm
          refine ⟨⟨i0, by omega, k2, k3⟩, fun i hi hne => ?_⟩
          by_cases ei : i = j
          · subst ei
            have g2 : ¬ (m0.1 * (rateI n a i n).2 < (rateI n a i n).1 * m0.2) := fun h => hlt (decide_eq_true h)
            omega
          · exact k4 i (by omega) hne

/-- The lowest terms of a fraction. -/
theorem low_spec {f : Int × Int} (h : 0 < f.2) : 0 < (lowI f).2 ∧ f.1 * (lowI f).2 = (lowI f).1 * f.2 ∧ Int.gcd (lowI f).1 (lowI f).2 = 1 := by
  have hg : 0 < Int.gcd f.1 f.2 := Int.gcd_pos_iff.2 (.inr (by omega))
  have d1 : ((Int.gcd f.1 f.2 : Nat) : Int) ∣ f.1 := Int.gcd_dvd_left ..
  have d2 : ((Int.gcd f.1 f.2 : Nat) : Int) ∣ f.2 := Int.gcd_dvd_right ..
  obtain ⟨x, hx⟩ := d1
  obtain ⟨y, hy⟩ := d2
  have hgz : ((Int.gcd f.1 f.2 : Nat) : Int) ≠ 0 := by omega
  have e1 : (lowI f).1 = x := (congrArg (fun z => Int.tdiv z _) hx).trans (Int.mul_tdiv_cancel_left _ hgz)
  have e2 : (lowI f).2 = y := (congrArg (fun z => Int.tdiv z _) hy).trans (Int.mul_tdiv_cancel_left _ hgz)
  rw [e1, e2]
  refine ⟨?_, ?_, ?_⟩
  · refine Classical.byContradiction fun hn => ?_
    have : ((Int.gcd f.1 f.2 : Nat) : Int) * y ≤ 0 := Int.mul_nonpos_of_nonneg_of_nonpos (by omega) (by omega)
    omega
  · have : f.1 * y = x * f.2 := by
      have a := congrArg (· * y) hx
      have b := congrArg (x * ·) hy
      have a' : f.1 * y = (Int.gcd f.1 f.2 : Int) * x * y := a
      have b' : x * f.2 = x * ((Int.gcd f.1 f.2 : Int) * y) := b
      rw [a', b', Int.mul_comm _ x, Int.mul_assoc]
    exact this
  · have e : Int.gcd f.1 f.2 = Int.gcd f.1 f.2 * Int.gcd x y := by
      have := Int.gcd_mul_left (m := (Int.gcd f.1 f.2 : Int)) (n := x) (k := y)
      rw [← hx, ← hy] at this
      simpa using this
    exact Nat.eq_of_mul_eq_mul_left hg (by omega)

/-- KARP'S WAY FINDS THE MEAN. -/
theorem mean_none {n : Nat} {b : Int} {a : Nat → Nat → Int} (hn : 0 < n) (ha : GoodM b a) (hb : 0 ≤ b) (hs : Sup n (DM a)) (hB : (n : Int) * b ≤ 1000000000000) (h : meanI n a = none) : ∀ k c, 0 < k → tpow n (DM a) k c c = none := by
  intro k c hk
  cases hw : tpow n (DM a) k c c with
  | none => rfl
  | some w =>
    obtain ⟨j, x, h1, h2⟩ := dk_of_closed hs hk hw
    have ht : topI n a n = none := by
      unfold meanI at h
      cases ht : topI n a n with
      | none => rfl
      | some m => rw [ht] at h; cases h
    have := (top_spec hn).1 ht j h1
    rw [← best_dec ha hb hB j h1, this, dec_nv] at h2; cases h2
theorem mean_some {n : Nat} {b : Int} {a : Nat → Nat → Int} (hn : 0 < n) (ha : GoodM b a) (hb : 0 ≤ b) (hs : Sup n (DM a)) (hB : (n : Int) * b ≤ 1000000000000) {m : Int × Int} (h : meanI n a = some m) :
    MeanOf n (DM a) m.1 m.2 ∧ Int.gcd m.1 m.2 = 1 := by
  unfold meanI at h
  cases ht : topI n a n with
  | none => rw [ht] at h; cases h
  | some r =>
    rw [ht] at h
    cases h
    obtain ⟨⟨i, h1, h2, h3⟩, h4⟩ := (top_spec hn).2 r ht
    have hdk : ∀ k j, k ≤ n → j < n → dec (bestI n a k j) = dk n (DM a) k j := fun k j hk hj => best_dec ha hb (Int.le_trans (Int.mul_le_mul_of_nonneg_right (by omega) hb) hB) j hj
    have hx : dk n (DM a) n i = some (bestI n a n i) := by rw [← hdk n i (Nat.le_refl _) h1, dec_some h2]
    obtain ⟨k, c, w, g1, g2⟩ := closed_of_dk hs hx
    obtain ⟨p, q, hm⟩ := mean_ex hs g1 g2
    have hq := hm.pos
    obtain ⟨⟨k0, s1, s2⟩, s3⟩ := rate_spec (a := a) (j := i) hn (Nat.le_refl n)
    have hr2 : 0 < r.2 := by rw [h3, s2]; simp only; omega
    -- at most the mean
    have le1 : q * r.1 ≤ p * r.2 := by
      obtain ⟨k, y, t1, t2, t3⟩ := karp_a hs hm hx
      have hy : bestI n a k i = y := by
        have := hdk k i (by omega) h1
        rw [t2] at this
        unfold dec at this
        split at this
        · cases this
        · simpa using this
      have := s3 k t1
      rw [hy, ← h3] at this
      refine Int.le_of_mul_le_mul_left (a := (n : Int) - k) ?_ (by omega)
      have u1 := Int.mul_le_mul_of_nonneg_left this (Int.le_of_lt hq)
      have u2 := Int.mul_le_mul_of_nonneg_left t3 (Int.le_of_lt hr2)
      simp only [Int.mul_comm, Int.mul_left_comm, Int.mul_assoc] at u1 u2 ⊢
      exact Int.le_trans u1 u2
    have le2 : p * r.2 ≤ q * r.1 := by
      obtain ⟨j, x, t1, t2, t3⟩ := karp_b hs hm
      have hx' : bestI n a n j ≠ Nv ∧ bestI n a n j = x := by
        have := hdk n j (Nat.le_refl _) t1
        rw [t2] at this
        unfold dec at this
        split at this
        · cases this
        · rename_i hne; exact ⟨hne, by simpa using this⟩
      have u0 := h4 j t1 hx'.1
      obtain ⟨⟨k1, v1, v2⟩, _⟩ := rate_spec (a := a) (j := j) hn (Nat.le_refl n)
      rw [v2] at u0
      simp only at u0
      obtain ⟨y, hy⟩ := dk_down hs t2 (show k1 ≤ n by omega)
      have hy' : bestI n a k1 j = y := by
        have := hdk k1 j (by omega) t1
        rw [hy] at this
        unfold dec at this
        split at this
        · cases this
        · simpa using this
      rw [hx'.2, hy'] at u0
      have t4 := t3 k1 y hy
      refine Int.le_of_mul_le_mul_left (a := (n : Int) - k1) ?_ (by omega)
      have u1 := Int.mul_le_mul_of_nonneg_left u0 (Int.le_of_lt hq)
      have u2 := Int.mul_le_mul_of_nonneg_left t4 (Int.le_of_lt hr2)
      simp only [Int.mul_comm, Int.mul_left_comm, Int.mul_assoc] at u1 u2 ⊢
      exact Int.le_trans u2 u1
    obtain ⟨l1, l2, l3⟩ := low_spec hr2
    refine ⟨(hm.scale hr2 (p' := r.1) ?_).scale l1 l2, l3⟩
    rw [Int.mul_comm r.1]; omega
end Go.Cy
