import Derived.Test.YthbnnffmhnjpjaaCyP
section
/-
  KARP'S THEOREM on greatest means of cycles, without any program.
-/
namespace Go.Cy

/-- Two of n + 1 nodes below n are equal. -/
theorem pigeon : ∀ (n : Nat) (p : Nat → Nat), (∀ m, m ≤ n → p m < n) → ∃ s t, s < t ∧ t ≤ n ∧ p s = p t
  | 0, p, h => absurd (h 0 (Nat.le_refl _)) (by omega)
  | n + 1, p, h => by
    by_cases he : ∃ s, s < n + 1 ∧ p s = p (n + 1)
    · obtain ⟨s, h1, h2⟩ := he; exact ⟨s, n + 1, h1, Nat.le_refl _, h2⟩
    · have hne : ∀ s, s < n + 1 → p s ≠ p (n + 1) := fun s hs e => he ⟨s, hs, e⟩
      obtain ⟨s, t, h1, h2, h3⟩ := pigeon n (fun m => if p m = n then p (n + 1) else p m) fun m hm => by
        have a1 := h m (by omega)
        have a2 := h (n + 1) (Nat.le_refl _)
        have a3 := hne m (by omega)
        split <;> omega
      refine ⟨s, t, h1, by omega, ?_⟩
      have a1 := hne s (by omega)
      have a2 := hne t (by omega)
      split at h3 <;> split at h3 <;> omega

/-- The weight of the first k arcs of a path. -/
def wt (A : TM) (p : Nat → Nat) : Nat → O
  | 0 => some 0
  | k + 1 => oadd (wt A p k) (A (p k) (p (k + 1)))

theorem oadd_assoc (a b c : O) : oadd (oadd a b) c = oadd a (oadd b c) := by
  cases a <;> cases b <;> cases c <;> simp [oadd, Int.add_assoc]

theorem wt_add {A : TM} {p : Nat → Nat} (s : Nat) : ∀ d, wt A p (s + d) = oadd (wt A p s) (wt A (fun m => p (s + m)) d)
  | 0 => (add_zero _).symm
  | d + 1 => by
    show oadd (wt A p (s + d)) _ = _
    rw [wt_add s d, oadd_assoc]; rfl
theorem wt_congr {A : TM} {p q : Nat → Nat} : ∀ {k : Nat}, (∀ m, m ≤ k → p m = q m) → wt A p k = wt A q k
  | 0, _ => rfl
  | k + 1, h => by
    show oadd _ _ = oadd _ _
    rw [wt_congr (k := k) fun m hm => h m (by omega), h k (by omega), h (k + 1) (Nat.le_refl _)]

theorem wt_pow {n : Nat} {A : TM} {p : Nat → Nat} (hs : Sup n A) (h0 : p 0 < n) : ∀ {k : Nat} {w : Int}, wt A p k = some w → ∃ w', tpow n A k (p 0) (p k) = some w' ∧ w ≤ w'
  | 0, w, h => by cases h; exact ⟨0, by show tone n _ _ = _; unfold tone; rw [if_pos ⟨rfl, h0⟩], Int.le_refl _⟩
  | k + 1, w, h => by
    obtain ⟨x, y, hx, hy, rfl⟩ := add_some.1 h
    obtain ⟨x', h1, h2⟩ := wt_pow hs h0 hx
    have hk : p k < n := Classical.byContradiction fun hn => by rw [hs _ _ fun h => hn h.1] at hy; cases hy
    obtain ⟨w', h3, h4⟩ := mul_ge (n := n) hk h1 hy
    exact ⟨w', h3, by omega⟩
theorem pow_wt {n : Nat} {A : TM} (hs : Sup n A) : ∀ {k i j : Nat} {w : Int}, tpow n A k i j = some w → ∃ p : Nat → Nat, p 0 = i ∧ p k = j ∧ wt A p k = some w ∧ ∀ m, m ≤ k → p m < n
  | 0, i, j, w, h => by
    have h' : tone n i j = some w := h
    unfold tone at h'
    split at h'
    · rename_i e; obtain ⟨rfl, hi⟩ := e; cases h'; exact ⟨fun _ => i, rfl, rfl, rfl, fun _ _ => hi⟩
    · cases h'
  | k + 1, i, j, w, h => by
    obtain ⟨l, x, y, hl, hx, hy, rfl⟩ := mul_some h
    obtain ⟨p, h1, h2, h3, h4⟩ := pow_wt hs hx
    have hj : j < n := Classical.byContradiction fun hn => by rw [hs _ _ fun h => hn h.2] at hy; cases hy
    refine ⟨fun m => if m ≤ k then p m else j, by simp [h1], if_neg (by omega), ?_, fun m hm => ?_⟩
    · show oadd (wt A _ k) (A _ _) = _
      rw [wt_congr (q := p) fun m hm => by simp [hm], h3]
      have e1 : (if k ≤ k then p k else j) = l := by simp [h2]
      have e2 : (if k + 1 ≤ k then p (k + 1) else j) = j := if_neg (by omega)
      show oadd _ (A (if k ≤ k then p k else j) (if k + 1 ≤ k then p (k + 1) else j)) = _
      rw [e1, e2, hy]; rfl
    · simp only; split
      · exact h4 m (by assumption)
      · exact hj

/-- A path that meets a node twice is made of a closed part and a shorter path. -/
theorem cut_path {n : Nat} {A : TM} (hs : Sup n A) {p : Nat → Nat} {k s t : Nat} {w : Int} (hst : s < t) (htk : t ≤ k) (he : p s = p t) (hw : wt A p k = some w) (hn : ∀ m, m ≤ k → p m < n) :
    ∃ w1 w2 c1 c2, w ≤ c1 + c2 ∧ w1 ≤ c1 ∧ w2 ≤ c2 ∧ tpow n A (t - s) (p s) (p s) = some c1 ∧ tpow n A (k - (t - s)) (p 0) (p k) = some c2 := by
  have e1 : wt A p k = oadd (wt A p t) (wt A (fun m => p (t + m)) (k - t)) := by rw [← wt_add]; congr 1; omega
  have e2 : wt A p t = oadd (wt A p s) (wt A (fun m => p (s + m)) (t - s)) := by rw [← wt_add]; congr 1; omega
  rw [e1] at hw
  obtain ⟨x, z, hx, hz, rfl⟩ := add_some.1 hw
  rw [e2] at hx
  obtain ⟨x, y, hx, hy, rfl⟩ := add_some.1 hx
  obtain ⟨c1, h1, h2⟩ := wt_pow (n := n) hs (p := fun m => p (s + m)) (hn _ (by omega)) hy
  simp only [Nat.add_zero] at h1
  rw [show s + (t - s) = t by omega, ← he] at h1
  have hq : wt A (fun m => if m ≤ s then p m else p (m + (t - s))) (k - (t - s)) = some (x + z) := by
    rw [show k - (t - s) = s + (k - t) by omega, wt_add, wt_congr (q := p) (k := s) fun m hm => by simp [hm], show wt A p s = some x by assumption, wt_congr (q := fun m => p (t + m)) (k := k - t) fun m hm => by
      split
      · rename_i hle
        rw [show m = 0 by omega]; simpa using he
      · rw [show s + m + (t - s) = t + m by omega], hz]; rfl
  obtain ⟨c2, h3, h4⟩ := wt_pow (n := n) hs (by simp; exact hn 0 (by omega)) hq
  refine ⟨y, x + z, c1, c2, by omega, h2, h4, h1, ?_⟩
  have e3 : (if k - (t - s) ≤ s then p (k - (t - s)) else p (k - (t - s) + (t - s))) = p k := by
    split
    · rename_i hle
      have : k = t := by omega
      subst this
      rw [show k - (k - s) = s by omega]; exact he
    · rw [show k - (t - s) + (t - s) = k by omega]
  simp only [Nat.zero_le, if_true] at h3
  rw [e3] at h3
  exact h3

/-- No closed path has a weight above 0. -/
def NP (n : Nat) (A : TM) : Prop := ∀ k i, 0 < k → Ub (tpow n A k i i) 0

/-- It is enough to ask the short ones. -/
theorem np_of_short {n : Nat} {A : TM} (hs : Sup n A) (h : ∀ k i, 0 < k → k ≤ n → Ub (tpow n A k i i) 0) : NP n A := by
  intro k
  induction k using Nat.strongRecOn with
  | _ k ih =>
    intro i hk w hw
    by_cases hkn : k ≤ n
    · exact h k i hk hkn w hw
    · obtain ⟨p, h1, h2, h3, h4⟩ := pow_wt hs hw
      obtain ⟨s, t, a1, a2, a3⟩ := pigeon n p fun m hm => h4 m (by omega)
      obtain ⟨w1, w2, c1, c2, b1, _, _, b4, b5⟩ := cut_path hs a1 (by omega) a3 h3 h4
      have := h (t - s) (p s) (by omega) (by omega) c1 b4
      rw [h1, h2] at b5
      have := ih (k - (t - s)) (by omega) i (by omega) c2 b5
      omega

/-- Without them, ways of fewer than n arcs are no worse. -/
theorem short_way {n : Nat} {A : TM} (hs : Sup n A) (hp : NP n A) : ∀ (k i j : Nat) (w : Int), tpow n A k i j = some w → ∃ m w', m < n ∧ m ≤ k ∧ tpow n A m i j = some w' ∧ w ≤ w' := by
  intro k
  induction k using Nat.strongRecOn with
  | _ k ih =>
    intro i j w hw
    by_cases hkn : k < n
    · exact ⟨k, w, hkn, Nat.le_refl _, hw, Int.le_refl _⟩
    · obtain ⟨p, h1, h2, h3, h4⟩ := pow_wt hs hw
      obtain ⟨s, t, a1, a2, a3⟩ := pigeon n p fun m hm => h4 m (by omega)
      obtain ⟨w1, w2, c1, c2, b1, _, _, b4, b5⟩ := cut_path hs a1 (by omega) a3 h3 h4
      have := hp (t - s) (p s) (by omega) c1 b4
      rw [h1, h2] at b5
      obtain ⟨m, w', d1, d2, d3, d4⟩ := ih (k - (t - s)) (by omega) i j c2 b5
      exact ⟨m, w', d1, by omega, d3, by omega⟩

/-- The greatest weights of ways. -/
def star (n : Nat) (A : TM) : TM := tsum n A (n - 1)
theorem ub_star {n : Nat} {A : TM} (hs : Sup n A) (hp : NP n A) {i j : Nat} {u : Int} : Ub (star n A i j) u ↔ ∀ k, Ub (tpow n A k i j) u := by
  unfold star
  rw [ub_tsum]
  constructor
  · intro h k w hw
    obtain ⟨m, w', h1, _, h2, h3⟩ := short_way hs hp k i j w hw
    have := h m (by omega) w' h2; omega
  · intro h m _; exact h m
theorem tsum_some {n : Nat} {A : TM} {i j : Nat} {w : Int} : ∀ {k : Nat}, tsum n A k i j = some w → ∃ m, m ≤ k ∧ tpow n A m i j = some w
  | 0, h => ⟨0, Nat.le_refl _, h⟩
  | k + 1, h => by
    have h' : omax (tsum n A k i j) (tpow n A (k + 1) i j) = some w := h
    cases ha : tsum n A k i j with
    | none => rw [ha] at h'; exact ⟨k + 1, Nat.le_refl _, h'⟩
    | some x =>
      rw [ha] at h'
      cases hb : tpow n A (k + 1) i j with
      | none =>
        rw [hb] at h'
        obtain ⟨m, h1, h2⟩ := tsum_some (ha.trans h')
        exact ⟨m, by omega, h2⟩
      | some y =>
        rw [hb] at h'
        simp only [omax, Option.some.injEq] at h'
        by_cases hxy : x ≤ y
        · exact ⟨k + 1, Nat.le_refl _, by rw [hb, ← h', Int.max_eq_right hxy]⟩
        · obtain ⟨m, h1, h2⟩ := tsum_some ha
          exact ⟨m, by omega, by rw [h2, ← h', Int.max_eq_left (by omega)]⟩
theorem star_some {n : Nat} {A : TM} {i j : Nat} {w : Int} (h : star n A i j = some w) : ∃ m, tpow n A m i j = some w := by
  obtain ⟨m, _, h⟩ := tsum_some h; exact ⟨m, h⟩
theorem star_ge {n : Nat} {A : TM} (hs : Sup n A) (hp : NP n A) {k i j : Nat} {w : Int} (h : tpow n A k i j = some w) : ∃ w', star n A i j = some w' ∧ w ≤ w' := by
  cases hc : star n A i j with
  | none =>
    have h1 : Ub (star n A i j) (w - 1) := by rw [hc]; intro z hz; cases hz
    have := (ub_star hs hp).1 h1 k w h; omega
  | some x =>
    have h1 : Ub (star n A i j) x := by rw [hc]; intro z hz; cases hz; omega
    exact ⟨x, rfl, (ub_star hs hp).1 h1 k w h⟩

/-- The greatest weights of ways of k arcs to a node, from anywhere. -/
def dk (n : Nat) (A : TM) (k j : Nat) : O := osup n fun i => tpow n A k i j
theorem dk_succ {n : Nat} {A : TM} (k j : Nat) : dk n A (k + 1) j = osup n fun i => oadd (dk n A k i) (A i j) := by
  refine ub_ext fun u => ?_
  unfold dk
  rw [ub_sup, ub_sup]
  constructor
  · intro h l hl
    refine ub_add.2 fun x y hx hy => ?_
    obtain ⟨i, hi, e⟩ := sup_some hx
    exact ub_mul.1 (h i hi) l x y hl e hy
  · intro h i hi
    refine ub_mul.2 fun l x y hl hx hy => ?_
    obtain ⟨x', e, hle⟩ := sup_ge (f := fun i => tpow n A k i l) hi hx
    have := ub_add.1 (h l hl) x' y e hy; omega
theorem dk_zero {n : Nat} {A : TM} {j : Nat} (hj : j < n) : dk n A 0 j = some 0 := by
  refine ub_ext fun u => ?_
  unfold dk
  rw [ub_sup]
  constructor
  · intro h x hx; cases hx
    refine h j hj 0 ?_
    show tone n j j = some 0
    unfold tone; rw [if_pos ⟨rfl, hj⟩]
  · intro h i hi x hx
    have hx' : tone n i j = some x := hx
    unfold tone at hx'
    split at hx'
    · cases hx'; exact h 0 rfl
    · cases hx'

/-- Where there is a way of many arcs to a node, there is one of fewer. -/
theorem dk_down {n : Nat} {A : TM} (hs : Sup n A) {k m j : Nat} {x : Int} (h : dk n A k j = some x) (hm : m ≤ k) : ∃ y, dk n A m j = some y := by
  obtain ⟨i, hi, e⟩ := sup_some h
  obtain ⟨p, h1, h2, h3, h4⟩ := pow_wt hs e
  have e1 : wt A p k = oadd (wt A p (k - m)) (wt A (fun q => p (k - m + q)) m) := by rw [← wt_add]; congr 1; omega
  rw [e1] at h3
  obtain ⟨a, b, _, hb, _⟩ := add_some.1 h3
  obtain ⟨w, h5, _⟩ := wt_pow (n := n) hs (p := fun q => p (k - m + q)) (h4 _ (by omega)) hb
  simp only [Nat.add_zero] at h5
  rw [show k - m + m = k by omega, h2] at h5
  obtain ⟨y, h6, _⟩ := sup_ge (f := fun i => tpow n A m i j) (h4 (k - m) (by omega)) h5
  exact ⟨y, h6⟩

/-- KARP, one half: the way of n arcs is no better than some shorter one. -/
theorem karp_le {n : Nat} {A : TM} (hs : Sup n A) (hp : NP n A) {j : Nat} {x : Int} (h : dk n A n j = some x) : ∃ k y, k < n ∧ dk n A k j = some y ∧ x ≤ y := by
  obtain ⟨i, hi, e⟩ := sup_some h
  obtain ⟨m, w', h1, _, h2, h3⟩ := short_way hs hp n i j x e
  obtain ⟨y, h4, h5⟩ := sup_ge (f := fun i => tpow n A m i j) hi h2
  exact ⟨m, y, h1, h4, by omega⟩

theorem mod_path {A : TM} {p : Nat → Nat} {L : Nat} (hL : 0 < L) (hc : p 0 = p L) (hw : wt A p L = some 0) : ∀ q, wt A (fun m => p (m % L)) (L * q) = some 0
  | 0 => rfl
  | q + 1 => by
    rw [Nat.mul_succ, wt_add, mod_path hL hc hw q]
    have : wt A (fun m => p ((L * q + m) % L)) L = wt A p L := wt_congr fun m hm => by
      rw [Nat.mul_add_mod]
      by_cases e : m = L
      · subst e; rw [Nat.mod_self]; exact hc
      · rw [Nat.mod_eq_of_lt (by omega)]
    rw [this, hw]; rfl

/-- .. the other half: at some node it is as good as any. -/
theorem karp_ge {n : Nat} {A : TM} (hs : Sup n A) (hp : NP n A) {L c : Nat} (hL : 0 < L) (hc : tpow n A L c c = some 0) : ∃ j x, dk n A n j = some x ∧ ∀ k y, dk n A k j = some y → y ≤ x := by
  obtain ⟨p, h1, h2, h3, h4⟩ := pow_wt hs hc
  have hcn : c < n := by rw [← h1]; exact h4 0 (by omega)
  -- the best way to c
  have hbest : ∃ m b, m < n ∧ dk n A m c = some b ∧ ∀ k y, dk n A k c = some y → y ≤ b := by
    have key : ∀ N, ∃ m b, m ≤ N ∧ dk n A m c = some b ∧ ∀ k y, k ≤ N → dk n A k c = some y → y ≤ b := by
      intro N
      induction N with
      | zero => exact ⟨0, 0, Nat.le_refl _, dk_zero hcn, fun k y hk hy => by rw [show k = 0 by omega, dk_zero hcn] at hy; cases hy; omega⟩
      | succ N ih =>
        obtain ⟨m, b, k1, k2, k3⟩ := ih
        cases hd : dk n A (N + 1) c with
        | none => exact ⟨m, b, by omega, k2, fun k y hk hy => by
            by_cases e : k = N + 1
            · subst e; rw [hd] at hy; cases hy
            · exact k3 k y (by omega) hy⟩
        | some z =>
          by_cases hz : z ≤ b
          · exact ⟨m, b, by omega, k2, fun k y hk hy => by
              by_cases e : k = N + 1
              · subst e; rw [hd] at hy; cases hy; exact hz
              · exact k3 k y (by omega) hy⟩
          · exact ⟨N + 1, z, Nat.le_refl _, hd, fun k y hk hy => by
              by_cases e : k = N + 1
              · subst e; rw [hd] at hy; cases hy; omega
              · have := k3 k y (by omega) hy; omega⟩
    obtain ⟨m, b, k1, k2, k3⟩ := key (n - 1)
    refine ⟨m, b, by omega, k2, fun k y hy => ?_⟩
    obtain ⟨i, hi, e⟩ := sup_some hy
    obtain ⟨m', w', q1, _, q2, q3⟩ := short_way hs hp k i c y e
    obtain ⟨z, q4, q5⟩ := sup_ge (f := fun i => tpow n A m' i c) hi q2
    have := k3 m' z (by omega) q4; omega
  obtain ⟨m, b, hm, hb, hmax⟩ := hbest
  let q : Nat → Nat := fun x => p (x % L)
  let t := n - m
  have hq0 : q 0 = c := by show p (0 % L) = c; rw [Nat.zero_mod, h1]
  have hqn : ∀ x, q x < n := fun x => h4 _ (by have := Nat.mod_lt x hL; omega)
  have hz : wt A q (L * t) = some 0 := mod_path hL (h1.trans h2.symm) h3 t
  have htL : t ≤ L * t := Nat.le_mul_of_pos_left t hL
  have hsplit : wt A q (L * t) = oadd (wt A q t) (wt A (fun x => q (t + x)) (L * t - t)) := by rw [← wt_add]; congr 1; omega
  rw [hz] at hsplit
  obtain ⟨x1, x2, e1, e2, e3⟩ := add_some.1 hsplit.symm
  -- on from c to the node
  obtain ⟨i, hi, ei⟩ := sup_some hb
  obtain ⟨u1, f1, f2⟩ := wt_pow (n := n) hs (hqn 0) e1
  rw [hq0] at f1
  have g1 : ∃ w', tpow n A (m + t) i (q t) = some w' ∧ b + u1 ≤ w' := by
    rw [tpow_add hs]; exact mul_ge hcn ei f1
  obtain ⟨w', g1, g2⟩ := g1
  rw [show m + t = n by omega] at g1
  obtain ⟨x, g3, g4⟩ := sup_ge (f := fun i => tpow n A n i (q t)) hi g1
  refine ⟨q t, x, g3, fun k y hy => ?_⟩
  -- back to c
  obtain ⟨u2, f3, f4⟩ := wt_pow (n := n) hs (p := fun x => q (t + x)) (hqn _) e2
  simp only [Nat.add_zero] at f3
  rw [show t + (L * t - t) = L * t by omega, show q (L * t) = c by show p (L * t % L) = c; rw [Nat.mul_mod_right, h1]] at f3
  obtain ⟨i2, hi2, ei2⟩ := sup_some hy
  have g5 : ∃ w, tpow n A (k + (L * t - t)) i2 c = some w ∧ y + u2 ≤ w := by
    rw [tpow_add hs]; exact mul_ge (hqn t) ei2 f3
  obtain ⟨w, g5, g6⟩ := g5
  obtain ⟨z, g7, g8⟩ := sup_ge (f := fun i => tpow n A (k + (L * t - t)) i c) hi2 g5
  have := hmax _ _ g7
  omega

/-- How far the arcs are above num/den. -/
def gain (A : TM) (num den : Int) : TM := fun i j => (A i j).map fun x => den * x - num
theorem gain_sup {n : Nat} {A : TM} (hs : Sup n A) (num den : Int) : Sup n (gain A num den) := fun i j h => by unfold gain; rw [hs i j h]; rfl
theorem pow_gain {n : Nat} {A : TM} {num den : Int} (hd : 0 < den) : ∀ k i j, tpow n (gain A num den) k i j = (tpow n A k i j).map fun x => den * x - num * (k : Int)
  | 0, i, j => by
    show tone n i j = (tone n i j).map _
    unfold tone; split <;> simp
  | k + 1, i, j => by
    show tmul n _ _ i j = (tmul n _ _ i j).map _
    refine ub_ext fun u => ?_
    have hub : ∀ (o : O) (f : Int → Int) (u : Int), Ub (o.map f) u ↔ ∀ x, o = some x → f x ≤ u := fun o f u => by
      cases o with
      | none => exact ⟨fun _ x hx => (by cases hx), fun _ x hx => (by cases hx)⟩
      | some z => exact ⟨fun h x hx => by cases hx; exact h _ rfl, fun h x hx => by cases hx; exact h z rfl⟩
    rw [hub, ub_mul]
    constructor
    · intro h w hw
      obtain ⟨l, x, y, hl, hx, hy, rfl⟩ := mul_some hw
      have := h l (den * x - num * k) (den * y - num) hl (by rw [pow_gain hd k, hx]; rfl) (by unfold gain; rw [hy]; rfl)
      simp only [Int.mul_add, Int.natCast_add]; simp; omega
    · intro h l x y hl hx hy
      rw [pow_gain hd k] at hx
      obtain ⟨a, ha, rfl⟩ := Option.map_eq_some_iff.1 hx
      unfold gain at hy
      obtain ⟨b, hb, rfl⟩ := Option.map_eq_some_iff.1 hy
      obtain ⟨w, hw, hle⟩ := mul_ge (n := n) hl ha hb
      have h1 := h w hw
      have h2 := Int.mul_le_mul_of_nonneg_left hle (Int.le_of_lt hd)
      simp only [Int.mul_add, Int.natCast_add] at h1 h2; simp at h1; omega
end Go.Cy

end
section
/-
  THE GREATEST MEAN OF A CYCLE: that there is one, that it is one number, and that Karp's way finds it.
-/
namespace Go.Cy

/-- num/den is the mean of A: no closed path is above it, and one has it. -/
structure MeanOf (n : Nat) (A : TM) (num den : Int) : Prop where
  pos : 0 < den
  le : ∀ k i w, 0 < k → tpow n A k i i = some w → den * w ≤ num * (k : Int)
  eq : ∃ k c w, 0 < k ∧ tpow n A k c c = some w ∧ den * w = num * (k : Int)

theorem MeanOf.np {n : Nat} {A : TM} {num den : Int} (h : MeanOf n A num den) : NP n (gain A num den) := fun k i hk w hw => by
  rw [pow_gain h.pos] at hw
  obtain ⟨x, hx, rfl⟩ := Option.map_eq_some_iff.1 hw
  have := h.le k i x hk hx; omega
theorem MeanOf.zero {n : Nat} {A : TM} {num den : Int} (h : MeanOf n A num den) : ∃ L c, 0 < L ∧ tpow n (gain A num den) L c c = some 0 := by
  obtain ⟨k, c, w, h1, h2, h3⟩ := h.eq
  exact ⟨k, c, h1, by rw [pow_gain h.pos, h2]; simp; omega⟩
theorem MeanOf.of_gain {n : Nat} {A : TM} {num den : Int} (hd : 0 < den) (h1 : NP n (gain A num den)) (h2 : ∃ L c, 0 < L ∧ tpow n (gain A num den) L c c = some 0) : MeanOf n A num den := by
  refine ⟨hd, fun k i w hk hw => ?_, ?_⟩
  · have := h1 k i hk (den * w - num * k) (by rw [pow_gain hd, hw]; rfl); omega
  · obtain ⟨L, c, hL, h⟩ := h2
    rw [pow_gain hd] at h
    obtain ⟨x, hx, he⟩ := Option.map_eq_some_iff.1 h
    exact ⟨L, c, x, hL, hx, by omega⟩

/-- The means are equal as fractions. -/
theorem MeanOf.uniq {n : Nat} {A : TM} {p q p' q' : Int} (h : MeanOf n A p q) (h' : MeanOf n A p' q') : p * q' = p' * q := by
  obtain ⟨k, c, w, h1, h2, h3⟩ := h.eq
  obtain ⟨k', c', w', h1', h2', h3'⟩ := h'.eq
  have e1 := h'.le k c w h1 h2
  have e2 := h.le k' c' w' h1' h2'
  have hk : (0 : Int) < k := by omega
  have hk' : (0 : Int) < k' := by omega
  have hq := h.pos
  have hq' := h'.pos
  -- q' w <= p' k, q w = p k: multiply
  have f1 : k * (p * q') ≤ k * (p' * q) := by
    have : q * (q' * w) ≤ q * (p' * k) := Int.mul_le_mul_of_nonneg_left e1 (by omega)
    have a : q * (q' * w) = k * (p * q') := by rw [show q * (q' * w) = q' * (q * w) by rw [← Int.mul_assoc, Int.mul_comm q q', Int.mul_assoc], h3, ← Int.mul_assoc, Int.mul_comm q' p, Int.mul_comm]
    have b : q * (p' * k) = k * (p' * q) := by rw [← Int.mul_assoc, Int.mul_comm q p', Int.mul_comm]
    omega
  have f2 : k' * (p' * q) ≤ k' * (p * q') := by
    have : q' * (q * w') ≤ q' * (p * k') := Int.mul_le_mul_of_nonneg_left e2 (by omega)
    have a : q' * (q * w') = k' * (p' * q) := by rw [show q' * (q * w') = q * (q' * w') by rw [← Int.mul_assoc, Int.mul_comm q' q, Int.mul_assoc], h3', ← Int.mul_assoc, Int.mul_comm q p', Int.mul_comm]
    have b : q' * (p * k') = k' * (p * q') := by rw [← Int.mul_assoc, Int.mul_comm q' p, Int.mul_comm]
    omega
  exact Int.le_antisymm (Int.le_of_mul_le_mul_left f1 hk) (Int.le_of_mul_le_mul_left f2 hk')

/-- Another name of the same fraction. -/
theorem MeanOf.scale {n : Nat} {A : TM} {p q p' q' : Int} (h : MeanOf n A p q) (hq' : 0 < q') (e : p * q' = p' * q) : MeanOf n A p' q' := by
  have hq := h.pos
  refine ⟨hq', fun k i w hk hw => ?_, ?_⟩
  · have h1 := Int.mul_le_mul_of_nonneg_left (h.le k i w hk hw) (show 0 ≤ q' by omega)
    refine Int.le_of_mul_le_mul_left (a := q) ?_ hq
    have a : q * (q' * w) = q' * (q * w) := by rw [← Int.mul_assoc, Int.mul_comm q q', Int.mul_assoc]
    have b : q * (p' * k) = q' * (p * k) := by rw [← Int.mul_assoc, ← Int.mul_assoc, Int.mul_comm q p', Int.mul_comm q' p, e]
    omega
  · obtain ⟨k, c, w, h1, h2, h3⟩ := h.eq
    refine ⟨k, c, w, h1, h2, ?_⟩
    refine Int.eq_of_mul_eq_mul_left (a := q) (by omega) ?_
    rw [show q * (q' * w) = q' * (q * w) by rw [← Int.mul_assoc, Int.mul_comm q q', Int.mul_assoc], h3, ← Int.mul_assoc, ← Int.mul_assoc, Int.mul_comm q p', Int.mul_comm q' p, e]

/-- A greatest fraction of finitely many. -/
theorem max_frac {α : Type} (num den : α → Int) (hd : ∀ a, 0 < den a) : ∀ (l : List α), l ≠ [] → ∃ a ∈ l, ∀ b ∈ l, num b * den a ≤ num a * den b
  | [], h => absurd rfl h
  | [a], _ => ⟨a, by simp, fun b hb => by simp at hb; subst hb; exact Int.le_refl _⟩
  | a :: b :: l, _ => by
    obtain ⟨m, h1, h2⟩ := max_frac num den hd (b :: l) (by simp)
    by_cases hc : num a * den m ≤ num m * den a
    · exact ⟨m, by simp [List.mem_cons.1 h1], fun c hc' => by
        rcases List.mem_cons.1 hc' with rfl | hc'
        · exact hc
        · exact h2 c hc'⟩
    · refine ⟨a, by simp, fun c hc' => ?_⟩
      rcases List.mem_cons.1 hc' with rfl | hc'
      · exact Int.le_refl _
      · have e1 := h2 c hc'
        have hm := hd m
        have ha := hd a
        have hcd := hd c
        refine Int.le_of_mul_le_mul_left (a := den m) ?_ hm
        have s1 : den a * (num c * den m) ≤ den a * (num m * den c) := Int.mul_le_mul_of_nonneg_left e1 (by omega)
        have s2 : den c * (num m * den a) ≤ den c * (num a * den m) := Int.mul_le_mul_of_nonneg_left (by omega) (by omega)
        have a1 : den a * (num c * den m) = den m * (num c * den a) := by rw [Int.mul_comm, Int.mul_assoc, Int.mul_comm (den m), ← Int.mul_assoc, Int.mul_comm]
        have a2 : den a * (num m * den c) = den c * (num m * den a) := by rw [Int.mul_comm, Int.mul_assoc, Int.mul_comm (den c), ← Int.mul_assoc, Int.mul_comm]
        have a3 : den c * (num a * den m) = den m * (num a * den c) := by rw [Int.mul_comm, Int.mul_assoc, Int.mul_comm (den m), ← Int.mul_assoc, Int.mul_comm]
        omega

/-- Where there is a closed path, there is a mean. -/
theorem mean_ex {n : Nat} {A : TM} (hs : Sup n A) {k0 c0 : Nat} {w0 : Int} (hk0 : 0 < k0) (h0 : tpow n A k0 c0 c0 = some w0) : ∃ p q, MeanOf n A p q := by
  -- a short closed path
  have hshort : ∀ (k i : Nat) (w : Int), 0 < k → tpow n A k i i = some w → ∃ k' i' w', 0 < k' ∧ k' ≤ n ∧ i' < n ∧ tpow n A k' i' i' = some w' := by
    intro k i w hk hw
    obtain ⟨p, h1, h2, h3, h4⟩ := pow_wt hs hw
    by_cases hkn : k ≤ n
    · exact ⟨k, i, w, hk, hkn, by rw [← h1]; exact h4 0 (by omega), hw⟩
    · obtain ⟨s, t, a1, a2, a3⟩ := pigeon n p fun m hm => h4 m (by omega)
      obtain ⟨w1, w2, c1, c2, _, _, _, b4, _⟩ := cut_path hs a1 (by omega) a3 h3 h4
      exact ⟨t - s, p s, c1, by omega, by omega, h4 s (by omega), b4⟩
  obtain ⟨k1, c1, w1, p1, p2, p3, p4⟩ := hshort k0 c0 w0 hk0 h0
  -- the candidates
  let cand : List (Nat × Nat) := (List.range n).flatMap fun k => (List.range n).map fun i => (k, i)
  have hcand : ∀ k i, (k, i) ∈ cand ↔ k < n ∧ i < n := fun k i => by simp [cand]
  let good := cand.filter fun q => (tpow n A (q.1 + 1) q.2 q.2).isSome
  have hgood : ∀ k i, (k, i) ∈ good ↔ (k < n ∧ i < n) ∧ (tpow n A (k + 1) i i).isSome = true := fun k i => by
    show (k, i) ∈ List.filter _ _ ↔ _
    rw [List.mem_filter, hcand]
  have hne : good ≠ [] := fun e => by
    have : (k1 - 1, c1) ∈ good := (hgood _ _).2 ⟨⟨by omega, p3⟩, by rw [show k1 - 1 + 1 = k1 by omega, p4]; rfl⟩
    rw [e] at this; cases this
  obtain ⟨a, ha, hmax⟩ := max_frac (fun q : Nat × Nat => (tpow n A (q.1 + 1) q.2 q.2).getD 0) (fun q => ((q.1 + 1 : Nat) : Int)) (fun q => by omega) good hne
  obtain ⟨ka, ia⟩ := a
  have ha' := (hgood _ _).1 ha
  obtain ⟨wa, hwa⟩ := Option.isSome_iff_exists.1 ha'.2
  have hle : ∀ k i, 0 < k → k ≤ n → ∀ w, tpow n A k i i = some w → ((ka + 1 : Nat) : Int) * w ≤ wa * k := fun k i hk hkn w hw => by
    have hi : i < n := Classical.byContradiction fun hi => by rw [tpow_sup hs k i i fun h => hi h.1] at hw; cases hw
    have := hmax (k - 1, i) ((hgood _ _).2 ⟨⟨by omega, hi⟩, by rw [show k - 1 + 1 = k by omega, hw]; rfl⟩)
    simp only [hwa, show k - 1 + 1 = k by omega, hw, Option.getD_some] at this
    rw [Int.mul_comm]; exact this
  refine ⟨wa, ((ka + 1 : Nat) : Int), MeanOf.of_gain (by omega) (np_of_short (gain_sup hs _ _) fun k i hk hkn w hw => ?_) ⟨ka + 1, ia, by omega, by rw [pow_gain (by omega), hwa]; simp; rw [Int.mul_comm]; omega⟩⟩
  rw [pow_gain (by omega)] at hw
  obtain ⟨x, hx, rfl⟩ := Option.map_eq_some_iff.1 hw
  have := hle k i hk hkn x hx; omega

theorem map_max {den c : Int} (hd : 0 < den) (a b : O) : (omax a b).map (fun x => den * x - c) = omax (a.map fun x => den * x - c) (b.map fun x => den * x - c) := by
  cases a with
  | none => cases b <;> rfl
  | some x => cases b with
    | none => rfl
    | some y =>
      simp only [omax, Option.map_some, Option.some.injEq]
      rcases Int.le_total x y with h | h
      · have := Int.mul_le_mul_of_nonneg_left h (Int.le_of_lt hd)
        rw [Int.max_eq_right h, Int.max_eq_right (by omega)]
      · have := Int.mul_le_mul_of_nonneg_left h (Int.le_of_lt hd)
        rw [Int.max_eq_left h, Int.max_eq_left (by omega)]
theorem map_sup {den c : Int} (hd : 0 < den) (f : Nat → O) : ∀ n, (osup n f).map (fun x => den * x - c) = osup n fun k => (f k).map fun x => den * x - c
  | 0 => rfl
  | n + 1 => by rw [osup, map_max hd, map_sup hd f n]; rfl
theorem dk_gain {n : Nat} {A : TM} {num den : Int} (hd : 0 < den) (k j : Nat) : dk n (gain A num den) k j = (dk n A k j).map fun x => den * x - num * (k : Int) := by
  unfold dk
  rw [map_sup hd]
  exact sup_congr fun i _ => pow_gain hd k i j

/-- KARP'S THEOREM, with the mean. -/
theorem karp_a {n : Nat} {A : TM} {p q : Int} (hs : Sup n A) (h : MeanOf n A p q) {j : Nat} {x : Int} (hx : dk n A n j = some x) : ∃ k y, k < n ∧ dk n A k j = some y ∧ q * (x - y) ≤ p * ((n : Int) - k) := by
  obtain ⟨k, y, h1, h2, h3⟩ := karp_le (gain_sup hs p q) h.np (j := j) (x := q * x - p * n) (by rw [dk_gain h.pos, hx]; rfl)
  rw [dk_gain h.pos] at h2
  obtain ⟨z, hz, rfl⟩ := Option.map_eq_some_iff.1 h2
  refine ⟨k, z, h1, hz, ?_⟩
  rw [Int.mul_sub, Int.mul_sub]; omega
theorem karp_b {n : Nat} {A : TM} {p q : Int} (hs : Sup n A) (h : MeanOf n A p q) : ∃ j x, j < n ∧ dk n A n j = some x ∧ ∀ k y, dk n A k j = some y → p * ((n : Int) - k) ≤ q * (x - y) := by
  obtain ⟨L, c, hL, hc⟩ := h.zero
  obtain ⟨j, x, h1, h2⟩ := karp_ge (gain_sup hs p q) h.np hL hc
  have hj : j < n := Classical.byContradiction fun hj => by
    obtain ⟨i, _, e⟩ := sup_some h1
    rw [tpow_sup (gain_sup hs p q) _ _ _ fun h => hj h.2] at e; cases e
  rw [dk_gain h.pos] at h1
  obtain ⟨z, hz, rfl⟩ := Option.map_eq_some_iff.1 h1
  refine ⟨j, z, hj, hz, fun k y hy => ?_⟩
  have := h2 k (q * y - p * k) (by rw [dk_gain h.pos, hy]; rfl)
  rw [Int.mul_sub, Int.mul_sub]; omega

/-- A way of n arcs meets a node twice. -/
theorem closed_of_dk {n : Nat} {A : TM} (hs : Sup n A) {j : Nat} {x : Int} (h : dk n A n j = some x) : ∃ k c w, 0 < k ∧ tpow n A k c c = some w := by
  obtain ⟨i, hi, e⟩ := sup_some h
  obtain ⟨p, h1, h2, h3, h4⟩ := pow_wt hs e
  obtain ⟨s, t, a1, a2, a3⟩ := pigeon n p fun m hm => h4 m (by omega)
  obtain ⟨w1, w2, c1, c2, _, _, _, b4, _⟩ := cut_path hs a1 (by omega) a3 h3 h4
  exact ⟨t - s, p s, c1, by omega, b4⟩
theorem dk_of_closed {n : Nat} {A : TM} (hs : Sup n A) {k c : Nat} {w : Int} (hk : 0 < k) (h : tpow n A k c c = some w) : ∃ j x, j < n ∧ dk n A n j = some x := by
  obtain ⟨p, q, hm⟩ := mean_ex hs hk h
  obtain ⟨j, x, h1, h2, _⟩ := karp_b hs hm
  exact ⟨j, x, h1, h2⟩

/-- Karp's way. -/
def bestI (n : Nat) (a : Nat → Nat → Int) : Nat → Nat → Int
  | 0, _ => 0
  | k + 1, j => gre ((List.range n).map fun i => aft (bestI n a k i) (a i j))
def belowI (f g : Int × Int) : Bool := decide (f.1 * g.2 < g.1 * f.2)
/-- The least rate of a node, over the first k numbers of arcs. -/
def rateI (n : Nat) (a : Nat → Nat → Int) (j : Nat) : Nat → Int × Int
  | 0 => (0, 0)
  | k + 1 => let r := (bestI n a n j - bestI n a k j, (n : Int) - k)
    if k = 0 ∨ belowI r (rateI n a j k) = true then r else rateI n a j k
/-- The greatest of the first j nodes. -/
def topI (n : Nat) (a : Nat → Nat → Int) : Nat → Option (Int × Int)
  | 0 => none
  | j + 1 => if bestI n a n j = Nv then topI n a j else
    match topI n a j with
    | none => some (rateI n a j n)
    | some m => if belowI m (rateI n a j n) then some (rateI n a j n) else some m
def lowI (f : Int × Int) : Int × Int := (f.1.tdiv (Int.gcd f.1 f.2), f.2.tdiv (Int.gcd f.1 f.2))
def meanI (n : Nat) (a : Nat → Nat → Int) : Option (Int × Int) := (topI n a n).map lowI

theorem best_good {n : Nat} {b : Int} {a : Nat → Nat → Int} (ha : GoodM b a) (hb : 0 ≤ b) : ∀ (k : Nat) (j : Nat), Good (k * b) (bestI n a k j)
  | 0, j => .inr (by simp [bestI])
  | k + 1, j => by
    refine gre_good fun x hx => ?_
    obtain ⟨i, _, rfl⟩ := List.mem_map.1 hx
    have := aft_good (best_good (n := n) ha hb k i) (ha i j)
    rwa [show (((k + 1 : Nat) : Int) * b) = (k : Int) * b + b by rw [Int.natCast_add, Int.add_mul]; simp]
theorem best_dec {n : Nat} {b : Int} {a : Nat → Nat → Int} (ha : GoodM b a) (hb : 0 ≤ b) : ∀ {k : Nat}, (k : Int) * b ≤ 1000000000000 → ∀ j, j < n → dec (bestI n a k j) = dk n (DM a) k j
  | 0, _, j, hj => by rw [dk_zero hj]; exact dec_some (by unfold Nv; simp [bestI])
  | k + 1, h, j, hj => by
    have e : (((k + 1 : Nat) : Int) * b) = (k : Int) * b + b := by rw [Int.natCast_add, Int.add_mul]; simp
    show dec (gre _) = _
    rw [gre_range (b := (k : Int) * b + b) (by omega) fun i _ => aft_good (best_good ha hb k i) (ha i j), dk_succ]
    refine sup_congr fun i hi => ?_
    rw [aft_dec (best_good ha hb k i) (ha i j) (by omega), best_dec ha hb (by omega) i hi]
    rfl

/-- What the least rate is. -/
theorem rate_spec {n : Nat} {a : Nat → Nat → Int} {j : Nat} : ∀ {k : Nat}, 0 < k → k ≤ n → (∃ k0, k0 < k ∧ rateI n a j k = (bestI n a n j - bestI n a k0 j, (n : Int) - k0)) ∧
    ∀ m, m < k → (rateI n a j k).1 * ((n : Int) - m) ≤ (bestI n a n j - bestI n a m j) * (rateI n a j k).2
  | 0, h, _ => absurd h (by omega)
  | k + 1, _, hn => by
    by_cases hk : k = 0
    · subst hk
      have e : rateI n a j 1 = (bestI n a n j - bestI n a 0 j, (n : Int) - (0 : Nat)) := by
        unfold rateI; exact if_pos (.inl rfl)
      refine ⟨⟨0, by omega, e⟩, fun m hm => ?_⟩
      rw [show m = 0 by omega, e]; exact Int.le_refl _
    · obtain ⟨⟨k0, h1, h2⟩, h3⟩ := rate_spec (n := n) (a := a) (j := j) (k := k) (by omega) (by omega)
      by_cases hb : belowI (bestI n a n j - bestI n a k j, (n : Int) - k) (rateI n a j k) = true
      · have e : rateI n a j (k + 1) = (bestI n a n j - bestI n a k j, (n : Int) - k) := if_pos (.inr hb)
        refine ⟨⟨k, by omega, e⟩, fun m hm => ?_⟩
        rw [e]
        by_cases em : m = k
        · subst em; exact Int.le_refl _
        · have g1 := h3 m (by omega)
          have g2 := of_decide_eq_true hb
          rw [h2] at g1 g2
          simp only at g1 g2 ⊢
          refine Int.le_of_mul_le_mul_left (a := (n : Int) - k0) ?_ (by omega)
          have s1 := Int.mul_le_mul_of_nonneg_left g1 (show (0 : Int) ≤ (n : Int) - k by omega)
          have s2 := Int.mul_le_mul_of_nonneg_left (Int.le_of_lt g2) (show (0 : Int) ≤ (n : Int) - m by omega)
          simp only [Int.mul_comm, Int.mul_left_comm] at s1 s2 ⊢
          exact Int.le_trans s2 s1
      · have e : rateI n a j (k + 1) = rateI n a j k := if_neg (by rintro (h | h); exact hk h; exact hb h)
        rw [e]
        refine ⟨⟨k0, by omega, h2⟩, fun m hm => ?_⟩
        by_cases em : m = k
        · subst em
          have g2 : ¬ ((bestI n a n j - bestI n a m j) * (rateI n a j m).2 < (rateI n a j m).1 * ((n : Int) - m)) := fun h => hb (decide_eq_true h)
          omega
        · exact h3 m (by omega)

/-- What the greatest of them is. -/
theorem top_spec {n : Nat} {a : Nat → Nat → Int} (hn : 0 < n) : ∀ {j : Nat},
    (topI n a j = none → ∀ i, i < j → bestI n a n i = Nv) ∧
    ∀ m, topI n a j = some m → (∃ i, i < j ∧ bestI n a n i ≠ Nv ∧ m = rateI n a i n) ∧ ∀ i, i < j → bestI n a n i ≠ Nv → (rateI n a i n).1 * m.2 ≤ m.1 * (rateI n a i n).2
  | 0 => ⟨fun _ i h => by omega, fun m h => by cases h⟩
  | j + 1 => by
    obtain ⟨h1, h2⟩ := top_spec (a := a) hn (j := j)
    have hpos : ∀ i, 0 < (rateI n a i n).2 := fun i => by
      obtain ⟨⟨k0, h3, h4⟩, _⟩ := rate_spec (a := a) (j := i) hn (Nat.le_refl n)
      rw [h4]; simp only; omega
    by_cases hb : bestI n a n j = Nv
    · have e : topI n a (j + 1) = topI n a j := by show (if _ then _ else _) = _; rw [if_pos hb]
      rw [e]
      refine ⟨fun h i hi => ?_, fun m hm => ?_⟩
      · by_cases ei : i = j
        · subst ei; exact hb
        · exact h1 h i (by omega)
      · obtain ⟨⟨i0, k1, k2, k3⟩, k4⟩ := h2 m hm
        refine ⟨⟨i0, by omega, k2, k3⟩, fun i hi hne => ?_⟩
        by_cases ei : i = j
        · subst ei; exact absurd hb hne
        · exact k4 i (by omega) hne
    · cases ht : topI n a j with
      | none =>
        have e : topI n a (j + 1) = some (rateI n a j n) := by show (if _ then _ else _) = _; rw [if_neg hb, ht]
        rw [e]
        refine ⟨(by simp), fun m hm => ?_⟩
        cases hm
        refine ⟨⟨j, by omega, hb, rfl⟩, fun i hi hne => ?_⟩
        by_cases ei : i = j
        · subst ei; exact Int.le_refl _
        · exact absurd (h1 ht i (by omega)) hne
      | some m0 =>
        obtain ⟨⟨i0, k1, k2, k3⟩, k4⟩ := h2 m0 ht
        by_cases hlt : belowI m0 (rateI n a j n) = true
        · have e : topI n a (j + 1) = some (rateI n a j n) := by show (if _ then _ else _) = _; rw [if_neg hb, ht]; simp only [hlt, if_true]
          rw [e]
          refine ⟨(by simp), fun m hm => ?_⟩
          cases hm
          refine ⟨⟨j, by omega, hb, rfl⟩, fun i hi hne => ?_⟩
          by_cases ei : i = j
          · subst ei; exact Int.le_refl _
          · have g1 := k4 i (by omega) hne
            have g2 := of_decide_eq_true hlt
            have hm0 : 0 < m0.2 := by rw [k3]; exact hpos _
            refine Int.le_of_mul_le_mul_left (a := m0.2) ?_ hm0
            have s1 := Int.mul_le_mul_of_nonneg_left g1 (Int.le_of_lt (hpos j))
            have s2 := Int.mul_le_mul_of_nonneg_left (Int.le_of_lt g2) (Int.le_of_lt (hpos i))
            simp only [Int.mul_comm, Int.mul_left_comm, Int.mul_assoc] at s1 s2 ⊢
            exact Int.le_trans s1 s2
        · have e : topI n a (j + 1) = some m0 := by show (if _ then _ else _) = _; rw [if_neg hb, ht]; simp only [hlt]; rfl
          rw [e]
          refine ⟨(by simp), fun m hm => ?_⟩
          cases hm
          refine ⟨⟨i0, by omega, k2, k3⟩, fun i hi hne => ?_⟩
          by_cases ei : i = j
          · subst ei
            have g2 : ¬ (m0.1 * (rateI n a i n).2 < (rateI n a i n).1 * m0.2) := fun h => hlt (decide_eq_true h)
            omega
          · exact k4 i (by omega) hne

/-- The lowest terms of a fraction. -/
theorem low_spec {f : Int × Int} (h : 0 < f.2) : 0 < (lowI f).2 ∧ f.1 * (lowI f).2 = (lowI f).1 * f.2 ∧ Int.gcd (lowI f).1 (lowI f).2 = 1 := by
  have hg : 0 < Int.gcd f.1 f.2 := Int.gcd_pos_iff.2 (.inr (by omega))
  have d1 : ((Int.gcd f.1 f.2 : Nat) : Int) ∣ f.1 := Int.gcd_dvd_left ..
  have d2 : ((Int.gcd f.1 f.2 : Nat) : Int) ∣ f.2 := Int.gcd_dvd_right ..
  obtain ⟨x, hx⟩ := d1
  obtain ⟨y, hy⟩ := d2
  have hgz : ((Int.gcd f.1 f.2 : Nat) : Int) ≠ 0 := by omega
  have e1 : (lowI f).1 = x := (congrArg (fun z => Int.tdiv z _) hx).trans (Int.mul_tdiv_cancel_left _ hgz)
  have e2 : (lowI f).2 = y := (congrArg (fun z => Int.tdiv z _) hy).trans (Int.mul_tdiv_cancel_left _ hgz)
  rw [e1, e2]
  refine ⟨?_, ?_, ?_⟩
  · refine Classical.byContradiction fun hn => ?_
    have : ((Int.gcd f.1 f.2 : Nat) : Int) * y ≤ 0 := Int.mul_nonpos_of_nonneg_of_nonpos (by omega) (by omega)
    omega
  · have : f.1 * y = x * f.2 := by
      have a := congrArg (· * y) hx
      have b := congrArg (x * ·) hy
      have a' : f.1 * y = (Int.gcd f.1 f.2 : Int) * x * y := a
      have b' : x * f.2 = x * ((Int.gcd f.1 f.2 : Int) * y) := b
      rw [a', b', Int.mul_comm _ x, Int.mul_assoc]
    exact this
  · have e : Int.gcd f.1 f.2 = Int.gcd f.1 f.2 * Int.gcd x y := by
      have := Int.gcd_mul_left (m := (Int.gcd f.1 f.2 : Int)) (n := x) (k := y)
      rw [← hx, ← hy] at this
      simpa using this
    exact Nat.eq_of_mul_eq_mul_left hg (by omega)

/-- KARP'S WAY FINDS THE MEAN. -/
theorem mean_none {n : Nat} {b : Int} {a : Nat → Nat → Int} (hn : 0 < n) (ha : GoodM b a) (hb : 0 ≤ b) (hs : Sup n (DM a)) (hB : (n : Int) * b ≤ 1000000000000) (h : meanI n a = none) : ∀ k c, 0 < k → tpow n (DM a) k c c = none := by
  intro k c hk
  cases hw : tpow n (DM a) k c c with
  | none => rfl
  | some w =>
    obtain ⟨j, x, h1, h2⟩ := dk_of_closed hs hk hw
    have ht : topI n a n = none := by
      unfold meanI at h
      cases ht : topI n a n with
      | none => rfl
      | some m => rw [ht] at h; cases h
    have := (top_spec hn).1 ht j h1
    rw [← best_dec ha hb hB j h1, this, dec_nv] at h2; cases h2
theorem mean_some {n : Nat} {b : Int} {a : Nat → Nat → Int} (hn : 0 < n) (ha : GoodM b a) (hb : 0 ≤ b) (hs : Sup n (DM a)) (hB : (n : Int) * b ≤ 1000000000000) {m : Int × Int} (h : meanI n a = some m) :
    MeanOf n (DM a) m.1 m.2 ∧ Int.gcd m.1 m.2 = 1 := by
  unfold meanI at h
  cases ht : topI n a n with
  | none => rw [ht] at h; cases h
  | some r =>
    rw [ht] at h
    cases h
    obtain ⟨⟨i, h1, h2, h3⟩, h4⟩ := (top_spec hn).2 r ht
    have hdk : ∀ k j, k ≤ n → j < n → dec (bestI n a k j) = dk n (DM a) k j := fun k j hk hj => best_dec ha hb (Int.le_trans (Int.mul_le_mul_of_nonneg_right (by omega) hb) hB) j hj
    have hx : dk n (DM a) n i = some (bestI n a n i) := by rw [← hdk n i (Nat.le_refl _) h1, dec_some h2]
    obtain ⟨k, c, w, g1, g2⟩ := closed_of_dk hs hx
    obtain ⟨p, q, hm⟩ := mean_ex hs g1 g2
    have hq := hm.pos
    obtain ⟨⟨k0, s1, s2⟩, s3⟩ := rate_spec (a := a) (j := i) hn (Nat.le_refl n)
    have hr2 : 0 < r.2 := by rw [h3, s2]; simp only; omega
    -- at most the mean
    have le1 : q * r.1 ≤ p * r.2 := by
      obtain ⟨k, y, t1, t2, t3⟩ := karp_a hs hm hx
      have hy : bestI n a k i = y := by
        have := hdk k i (by omega) h1
        rw [t2] at this
        unfold dec at this
        split at this
        · cases this
        · simpa using this
      have := s3 k t1
      rw [hy, ← h3] at this
      refine Int.le_of_mul_le_mul_left (a := (n : Int) - k) ?_ (by omega)
      have u1 := Int.mul_le_mul_of_nonneg_left this (Int.le_of_lt hq)
      have u2 := Int.mul_le_mul_of_nonneg_left t3 (Int.le_of_lt hr2)
      simp only [Int.mul_comm, Int.mul_left_comm, Int.mul_assoc] at u1 u2 ⊢
      exact Int.le_trans u1 u2
    have le2 : p * r.2 ≤ q * r.1 := by
      obtain ⟨j, x, t1, t2, t3⟩ := karp_b hs hm
      have hx' : bestI n a n j ≠ Nv ∧ bestI n a n j = x := by
        have := hdk n j (Nat.le_refl _) t1
        rw [t2] at this
        unfold dec at this
        split at this
        · cases this
        · rename_i hne; exact ⟨hne, by simpa using this⟩
      have u0 := h4 j t1 hx'.1
      obtain ⟨⟨k1, v1, v2⟩, _⟩ := rate_spec (a := a) (j := j) hn (Nat.le_refl n)
      rw [v2] at u0
      simp only at u0
      obtain ⟨y, hy⟩ := dk_down hs t2 (show k1 ≤ n by omega)
      have hy' : bestI n a k1 j = y := by
        have := hdk k1 j (by omega) t1
        rw [hy] at this
        unfold dec at this
        split at this
        · cases this
        · simpa using this
      rw [hx'.2, hy'] at u0
      have t4 := t3 k1 y hy
      refine Int.le_of_mul_le_mul_left (a := (n : Int) - k1) ?_ (by omega)
      have u1 := Int.mul_le_mul_of_nonneg_left u0 (Int.le_of_lt hq)
      have u2 := Int.mul_le_mul_of_nonneg_left t4 (Int.le_of_lt hr2)
      simp only [Int.mul_comm, Int.mul_left_comm, Int.mul_assoc] at u1 u2 ⊢
      exact Int.le_trans u2 u1
    obtain ⟨l1, l2, l3⟩ := low_spec hr2
    refine ⟨(hm.scale hr2 (p' := r.1) ?_).scale l1 l2, l3⟩
    rw [Int.mul_comm r.1]; omega
end Go.Cy

end
section
/-
  MATRICES OF INTS as deep values: by functions of the row and the column.
-/
namespace Go.Cy
open Go.Vm Go.RowKit

theorem genM_len (R N : Nat) (f : Nat → Nat → Int) : (genM R N f).length = R := by simp [genM]
theorem genM_row {R N : Nat} {f : Nat → Nat → Int} {i : Nat} (h : i < (genM R N f).length) : (genM R N f)[i] = (List.range N).map (f i) := by simp [genM]
theorem genM_get {R N : Nat} {f : Nat → Nat → Int} {i j : Nat} (h : i < (genM R N f).length) (h' : j < ((genM R N f)[i]).length) : ((genM R N f)[i])[j] = f i j := by simp [genM]
/-- A matrix as a function: never outside. -/
def mf (m : List (List Int)) : Nat → Nat → Int := fun i j => (m.getD i []).getD j Nv
def okX (L x : Int) : Bool := decide (x = Nv) || (decide (-L ≤ x) && decide (x ≤ L))
def okRow (n : Nat) (L : Int) (r : List Int) : Bool := decide (r.length = n) && r.all (okX L)
def validB (L : Int) (m : List (List Int)) : Bool := (decide (1 ≤ m.length) && decide (m.length ≤ 6)) && m.all (okRow m.length L)

theorem genM_mf {m : List (List Int)} {n : Nat} (hn : m.length = n) (hr : ∀ r ∈ m, r.length = n) : m = genM n n (mf m) := by
  refine List.ext_getElem (by simp [genM, hn]) fun i h1 h2 => ?_
  refine List.ext_getElem (by simp [genM]; exact hr _ (List.getElem_mem h1)) fun j h3 h4 => ?_
  rw [genM_get]
  simp [mf, h1, h3]
theorem valid_of {L : Int} {m : List (List Int)} (h : validB L m = true) : 1 ≤ m.length ∧ m.length ≤ 6 ∧ m = genM m.length m.length (mf m) ∧ GoodM L (mf m) ∧ Sup m.length (DM (mf m)) := by
  unfold validB at h
  simp only [Bool.and_eq_true, decide_eq_true_eq, List.all_eq_true] at h
  obtain ⟨⟨h1, h2⟩, h3⟩ := h
  have hr : ∀ r ∈ m, r.length = m.length ∧ ∀ x ∈ r, x = Nv ∨ (-L ≤ x ∧ x ≤ L) := fun r hr => by
    have := h3 r hr
    simp only [okRow, Bool.and_eq_true, decide_eq_true_eq, List.all_eq_true, okX, Bool.or_eq_true] at this
    exact this
  refine ⟨h1, h2, genM_mf rfl fun r h => (hr r h).1, fun i j => ?_, fun i j hij => ?_⟩
  · unfold mf
    by_cases hi : i < m.length
    · have e : m.getD i [] = m[i] := by simp [hi]
      rw [e]
      by_cases hj : j < m[i].length
      · have e2 : m[i].getD j Nv = m[i][j] := by simp [hj]
        rw [e2]; exact (hr _ (List.getElem_mem hi)).2 _ (List.getElem_mem hj)
      · left; simp [hj]
    · left; simp [hi]
  · show dec _ = none
    have : mf m i j = Nv := by
      unfold mf
      by_cases hi : i < m.length
      · have e : m.getD i [] = m[i] := by simp [hi]
        rw [e]
        have hj : ¬ j < m[i].length := fun h => hij ⟨hi, by rw [← (hr _ (List.getElem_mem hi)).1]; exact h⟩
        simp [hj]
      · simp [hi]
    rw [this, dec_nv]

theorem gre_take {l : List Int} {i : Nat} (h : i < l.length) : gre (l.take (i + 1)) = max (gre (l.take i)) l[i] := by
  rw [List.take_succ_eq_append_getElem h]; exact foldl_snoc _ _ _
theorem gre_end {l : List Int} {i : Nat} (h : l.length ≤ i) : l.take i = l := List.take_of_length_le h
theorem wrapI {x : Int} (h : -9223372036854775808 ≤ x ∧ x ≤ 9223372036854775807) : IntKind.i64.wrap x = x := wrap_id (by omega)

/-- Cells of a slice of ints of one's own. -/
def icells (l : List Int) : List XV := l.map fun x => .d (DI x)
theorem icells_len (l : List Int) : (icells l).length = l.length := by simp [icells]
theorem icells_get {l : List Int} {i : Nat} (h : i < l.length) : (icells l)[0 + i]? = some (.d (DI l[i])) := by simp [icells, h]
end Go.Cy

end
section
/-
  MATRICES THAT ARE MADE BY A FUNCTION VALUE, behind other objects.
-/
namespace Go.Vm
open Go.RowKit

/-- A contract on deep values, among objects. -/
theorem DeepCall.own {P : Program} {f : FuncId} {args : List DV} {res : DV} (h : DeepCall P f args res) (σ : List VObj) : OwnCall P f σ (args.map .d) σ (.d res) := by
  intro M W0 ι w vs hm hl hx
  refine (h (Forb M ι σ) w vs hm.forb_lt (by simpa using hl) fun i v x hv hx' => ?_).mono fun e w' => ?_
  · have := hx i v (.d x) hv (by simp [hx'])
    cases this with
    | d h => exact h
  · rintro ⟨v, rfl, h1, h2⟩
    obtain ⟨g1, g2⟩ := hm.grown h2
    exact ⟨ι, σ, .d res, v, rfl, g1, g2, .d h1, rfl, rfl⟩

section
variable (L N : Nat) (f : Nat → Nat → Int)
def oslL (k : Nat) : XV := .osl (L + k + 1) 0 N 1 N true
def gP (i : Nat) : List VObj := ⟨updL N (oslL L N) (.d Dnil) i, 0⟩ :: doneG N f i
def gQ (i j : Nat) : List VObj := ⟨updL N (oslL L N) (.d Dnil) (i + 1), 0⟩ :: (doneG N f i ++ [⟨rowC N f i j, 0⟩])
end
section
variable {L N : Nat} {f : Nat → Nat → Int} {pre : List VObj}
theorem gP_zero : gP L N f 0 = [⟨List.replicate N (.d Dnil), 0⟩] := by rw [updL_zero (f := oslL L N)]; rfl
theorem gP_len (i : Nat) : (gP L N f i).length = i + 1 := by simp [gP, doneG_len]
theorem gP_at (h : pre.length = L) (i : Nat) : (pre ++ gP L N f i)[L]? = some ⟨updL N (oslL L N) (.d Dnil) i, 0⟩ := by
  rw [List.getElem?_append_right (by omega), h]; simp [gP]
theorem gQ_at (h : pre.length = L) (i j : Nat) : (pre ++ gQ L N f i j)[L]? = some ⟨updL N (oslL L N) (.d Dnil) (i + 1), 0⟩ := by
  rw [List.getElem?_append_right (by omega), h]; simp [gQ]
theorem gP_start (h : pre.length = L) {i : Nat} (hi : i < N) :
    ((pre ++ gP L N f i) ++ [(⟨List.replicate N (XV.d (.lit (.int .i64 0))), 0⟩ : VObj)]).set L ⟨(updL N (oslL L N) (.d Dnil) i).set (0 + i) (.osl (pre ++ gP L N f i).length 0 N 1 N true), 0⟩ = pre ++ gQ L N f i 0 := by
  rw [List.append_assoc, List.set_append_right _ _ (by omega), h, List.length_append, gP_len, h, Nat.zero_add, show XV.osl (L + (i + 1)) 0 N 1 N true = oslL L N i from rfl, updL_set hi, updL_zero (f := rowF f i), Nat.sub_self]
  rfl
theorem gQ_row (h : pre.length = L) (i j : Nat) : (pre ++ gQ L N f i j)[L + i + 1]? = some ⟨rowC N f i j, 0⟩ := by
  rw [List.getElem?_append_right (by omega), show L + i + 1 - pre.length = i + 1 by omega]
  simp only [gQ, List.getElem?_cons_succ]
  rw [List.getElem?_append_right (by rw [doneG_len]; omega), doneG_len]; simp
theorem gQ_step (h : pre.length = L) {i j : Nat} (hj : j < N) : (pre ++ gQ L N f i j).set (L + i + 1) ⟨(rowC N f i j).set (0 + j) (.d (DI (f i j))), 0⟩ = pre ++ gQ L N f i (j + 1) := by
  rw [Nat.zero_add, show rowC N f i j = updL N (rowF f i) _ j from rfl, show XV.d (DI (f i j)) = rowF f i j from rfl, updL_set hj, List.set_append_right _ _ (by omega), show L + i + 1 - pre.length = i + 1 by omega]
  simp only [gQ, List.set_cons_succ]
  rw [List.set_append_right _ _ (by rw [doneG_len]; omega), doneG_len]
  simp [rowC]
theorem gQ_end (i : Nat) : gQ L N f i N = gP L N f (i + 1) := by rw [gQ, gP, doneG_succ]
theorem oslL_get {i : Nat} (hi : i < N) : (updL N (oslL L N) (.d Dnil) (i + 1))[0 + i]? = some (.osl (L + i + 1) 0 N 1 N true) := by
  rw [Nat.zero_add, updL_get hi (by omega)]; rfl
theorem gP_fin (h : pre.length = L) : deepen (freezeAll (pre ++ gP L N f N)) 5 (.osl L 0 N 1 N true) = some (genD N N f) := by
  have hf : freezeAll (gP L N f N) = ⟨updL N (oslL L N) (.d Dnil) N, 1⟩ :: (List.range N).map fun i => (⟨((List.range N).map fun j => DI (f i j)).map XV.d, 1⟩ : VObj) := by
    simp [freezeAll, gP, doneG, Function.comp_def, rowC, updL_full, rowF]
  have hpl : (freezeAll pre).length = L := by simp [freezeAll, h]
  have hfa : freezeAll (pre ++ gP L N f N) = freezeAll pre ++ freezeAll (gP L N f N) := by simp [freezeAll]
  have hlen : (updL N (oslL L N) (.d Dnil) N).length = N := updL_len
  rw [hfa, hf, deepen_osl (ob := ⟨updL N (oslL L N) (.d Dnil) N, 1⟩) (by rw [List.getElem?_append_right (by omega), hpl]; simp) rfl (by simp [hlen])]
  have h2 : ((updL N (oslL L N) (.d Dnil) N).drop 0).take (N * 1) = (List.range N).map (oslL L N) := by rw [List.drop_zero, Nat.mul_one, List.take_of_length_le (by omega), updL_full (Nat.le_refl _)]
  rw [show ((⟨updL N (oslL L N) (.d Dnil) N, 1⟩ : VObj).cells.drop 0).take (N * 1) = (List.range N).map (oslL L N) from h2]
  have hall : ∀ (l : List Nat), (∀ i ∈ l, i < N) → (l.map (oslL L N)).mapM (deepen (freezeAll pre ++ (⟨updL N (oslL L N) (.d Dnil) N, 1⟩ :: (List.range N).map fun i => (⟨((List.range N).map fun j => DI (f i j)).map XV.d, 1⟩ : VObj))) 4) = some (l.map fun k => rowG N (f k)) := by
    intro l
    induction l with
    | nil => intro _; rfl
    | cons i l ih =>
      intro hl
      have hi := hl i (by simp)
      rw [List.map_cons, List.mapM_cons, ih (fun k hk => hl k (by simp [hk]))]
      rw [show oslL L N i = .osl (L + i + 1) 0 N 1 N true from rfl, deepen_cells (k := 2) (R := N) (ds := (List.range N).map fun j => DI (f i j)) (by
        rw [List.getElem?_append_right (by omega), hpl, show L + i + 1 - L = i + 1 by omega]; simp [hi]) rfl (by simp)]
      rfl
  rw [hall (List.range N) (fun i hi => by simpa using hi)]; rfl
theorem keeps_pre {pre2 τ : List VObj} (h : pre.length = L) (h2 : pre2.length = L) : KeepsZ (fun id => id < L) (pre ++ τ) (pre2 ++ τ) := fun id ob hz ho => by
  simp only [Nat.not_lt] at hz
  refine ⟨ob, ?_, rfl, Iff.rfl⟩
  rw [List.getElem?_append_right (by omega)] at ho ⊢
  rw [h2, ← h]; exact ho
end
end Go.Vm
namespace Go.Vm
/-- Cells of which the first k have turned. -/
def mixL (n : Nat) (f old : Nat → XV) (k : Nat) : List XV := (List.range n).map fun q => if q < k then f q else old q
theorem mixL_len {n : Nat} {f old : Nat → XV} {k : Nat} : (mixL n f old k).length = n := by simp [mixL]
theorem mixL_zero {n : Nat} {f old : Nat → XV} : mixL n f old 0 = (List.range n).map old := by simp [mixL]
theorem mixL_full {n : Nat} {f old : Nat → XV} : mixL n f old n = (List.range n).map f := by
  refine List.map_congr_left fun q hq => ?_
  rw [if_pos (by simpa using hq)]
theorem mixL_set {n : Nat} {f old : Nat → XV} {k : Nat} (_ : k < n) : (mixL n f old k).set (0 + k) (f k) = mixL n f old (k + 1) := by
  refine List.ext_getElem (by simp [mixL]) fun i h1 h2 => ?_
  simp only [mixL, Nat.zero_add, List.getElem_set, List.getElem_map, List.getElem_range]
  by_cases e : k = i
  · subst e; simp
  · rw [if_neg e]
    by_cases h : i < k
    · rw [if_pos h, if_pos (by omega)]
    · rw [if_neg h, if_neg (by omega)]
end Go.Vm
namespace Go.Vm
section
variable {P : Program} {σ : List VObj} {kn : Kn} {dst : Option Tmp} {ty : TypeId} {pos : String} {af : Array Edge} {g : Option (Nat × Bool)}
/-- A function value that brings variables. -/
theorem K.makeF {fn : Fn} {caps : Array Operand} {xs : List XV} {x : Operand} {v : XV} {m : Nat} (ha : caps.toList.mapM (evK kn) = some xs) (hx : caps[m]? = some x) (hv : evK kn x = some v) (hl : litOf v = none) :
    KEv P ⟨dst, .makeFunc fn #[] caps, ty, pos, af, g⟩ σ kn (.fn fn [] xs) σ 0 := ev_op fun env he => by
  have e1 := evK_evalX he hv
  unfold evalOp
  rw [litOp_none (x := x) (by simpa [Op.operands] using Array.mem_of_getElem? hx) (by rw [e1]; exact hl)]
  have := mapM_evK he ha
  simp [this]
end
end Go.Vm
namespace Go.Vm
theorem mixL_put {n : Nat} {f old : Nat → XV} {k : Nat} {v : XV} (_ : k < n) : (mixL n f old k).set (0 + k) v = mixL n f (fun q => if q = k then v else old q) k := by
  refine List.ext_getElem (by simp [mixL]) fun i h1 h2 => ?_
  simp only [mixL, Nat.zero_add, List.getElem_set, List.getElem_map, List.getElem_range]
  by_cases e : k = i
  · subst e; simp
  · rw [if_neg e]
    by_cases h : i < k
    · rw [if_pos h, if_pos h]
    · rw [if_neg h, if_neg h, if_neg (fun e' => e e'.symm)]
theorem mixL_put2 {n : Nat} {f old : Nat → XV} {k : Nat} {v w : XV} (hk : k < n) : (mixL n f (fun q => if q = k then v else old q) k).set (0 + k) w = mixL n f (fun q => if q = k then w else old q) k := by
  rw [mixL_put hk]; congr 1; funext q; split <;> rfl
theorem mixL_done {n : Nat} {f old : Nat → XV} {k : Nat} (hk : k < n) : mixL n f (fun q => if q = k then f k else old q) k = mixL n f old (k + 1) := by
  rw [← mixL_put hk, mixL_set hk]
theorem mixL_get {n : Nat} {f old : Nat → XV} {k : Nat} {v : XV} (hk : k < n) : (mixL n f (fun q => if q = k then v else old q) k)[0 + k]? = some v := by
  simp [mixL, hk]
theorem set_last (σ : List VObj) (a b : VObj) : (σ ++ [a]).set σ.length b = σ ++ [b] := by
  rw [List.set_append_right _ _ (Nat.le_refl _), Nat.sub_self]; rfl
theorem mixL_rep {n : Nat} {f : Nat → XV} {v : XV} : List.replicate n v = mixL n f (fun _ => v) 0 := by
  rw [mixL_zero, List.map_const', List.length_range]
end Go.Vm
namespace Go.Cy
theorem gre_ge (l : List Int) : Nv ≤ gre l := by
  have key : ∀ (l : List Int) (z : Int), Nv ≤ z → Nv ≤ l.foldl max z := by
    intro l
    induction l with
    | nil => intro z hz; exact hz
    | cons x l ih => intro z hz; exact ih _ (by omega)
  exact key l Nv (Int.le_refl _)
/-- The greatest of the first k values. -/
def greR (k : Nat) (f : Nat → Int) : Int := gre ((List.range k).map f)
theorem greR_succ (k : Nat) (f : Nat → Int) : greR (k + 1) f = max (greR k f) (f k) := by
  unfold greR
  rw [List.range_succ, List.map_append]
  exact foldl_snoc _ _ _
theorem greR_nv {k : Nat} {f : Nat → Int} (h : f k = Nv) : greR (k + 1) f = greR k f := by
  rw [greR_succ, h]; have := gre_ge ((List.range k).map f); unfold greR; omega
theorem prodI_greR (n : Nat) (a b : Nat → Nat → Int) (i j : Nat) : prodI n a b i j = greR n fun k => aft (a i k) (b k j) := rfl
/-- The first eight rows and columns. -/
def fewM (m : List (List Int)) : List (List Int) := (m.take 8).map (List.take 8)
theorem few_valid {L : Int} {m : List (List Int)} (h : validB L m = true) : fewM m = m := by
  unfold validB at h
  simp only [Bool.and_eq_true, decide_eq_true_eq, List.all_eq_true] at h
  obtain ⟨⟨h1, h2⟩, h3⟩ := h
  unfold fewM
  rw [List.take_of_length_le (by omega)]
  refine List.ext_getElem (by simp) fun i h5 h6 => ?_
  rw [List.getElem_map]
  have := h3 m[i] (List.getElem_mem h6)
  unfold okRow at this
  simp only [Bool.and_eq_true, decide_eq_true_eq] at this
  exact List.take_of_length_le (by omega)
theorem few_validB (L : Int) (m : List (List Int)) : validB L (fewM m) = validB L m := by
  cases h : validB L m with
  | true => rw [few_valid h, h]
  | false =>
    cases h2 : validB L (fewM m) with
    | false => rfl
    | true =>
      exfalso
      have e : fewM m = m := by
        unfold validB at h2
        simp only [Bool.and_eq_true, decide_eq_true_eq, List.all_eq_true] at h2
        obtain ⟨⟨h1, h3⟩, h4⟩ := h2
        have hl : (fewM m).length = min 8 m.length := by simp [fewM]
        rw [hl] at h1 h3 h4
        have hm : m.take 8 = m := List.take_of_length_le (by omega)
        unfold fewM at h4 ⊢
        rw [hm] at h4 ⊢
        refine List.ext_getElem (by simp) fun i h5 h6 => ?_
        rw [List.getElem_map]
        have := h4 (m[i].take 8) (List.mem_map.2 ⟨m[i], List.getElem_mem h6, rfl⟩)
        unfold okRow at this
        simp only [Bool.and_eq_true, decide_eq_true_eq, List.length_take] at this
        exact List.take_of_length_le (by omega)
      rw [e, h] at h2; cases h2
end Go.Cy

end
section
/-
  CYCLES that are given, and potentials.
-/
namespace Go.Cy

def nx (c : List Int) (k : Nat) : Int := c.getD ((k + 1) % c.length) 0
def arcI (a : Nat → Nat → Int) (c : List Int) (k : Nat) : Int := a (c.getD k 0).toNat (nx c k).toNat
def inN (n : Nat) (x : Int) : Prop := 0 ≤ x ∧ x < n
def difK (c : List Int) (k : Nat) : Prop := ∀ q, q < k → c.getD q 0 ≠ c.getD k 0
def okK (n : Nat) (a : Nat → Nat → Int) (c : List Int) (k : Nat) : Prop := inN n (c.getD k 0) ∧ inN n (nx c k) ∧ difK c k ∧ arcI a c k ≠ Nv
def cycP (n : Nat) (a : Nat → Nat → Int) (c : List Int) : Prop := ∀ k, k < c.length → okK n a c k
def wtS (a : Nat → Nat → Int) (c : List Int) : Nat → Int
  | 0 => 0
  | k + 1 => wtS a c k + arcI a c k
/-- Different nodes are no more than there are. -/
theorem dif_le {n : Nat} {c : List Int} {k : Nat} (h : ∀ q, q < k → inN n (c.getD q 0) ∧ difK c q) : k ≤ n := by
  refine Nat.le_of_not_lt fun hk => ?_
  obtain ⟨s, t, h1, h2, h3⟩ := pigeon n (fun m => (c.getD m 0).toNat) fun m hm => by
    have := (h m (by omega)).1; unfold inN at this; omega
  have a1 := (h s (by omega)).1
  have a2 := h t (by omega)
  unfold inN at a1 a2
  exact a2.2 s h1 (by omega)
theorem wtS_bd {a : Nat → Nat → Int} {b : Int} (hb : GoodM b a) {c : List Int} (h0 : 0 ≤ b) : ∀ {k : Nat}, (∀ q, q < k → arcI a c q ≠ Nv) → -(b * k) ≤ wtS a c k ∧ wtS a c k ≤ b * k
  | 0, _ => by simp [wtS]
  | k + 1, h => by
    have h1 := wtS_bd hb h0 (k := k) fun q hq => h q (by omega)
    have h2 : Good b (arcI a c k) := hb _ _
    have h3 := h2.resolve_left (h k (by omega))
    have : b * ((k + 1 : Nat) : Int) = b * k + b := by rw [Int.natCast_add, Int.mul_add]; simp
    simp only [wtS]
    omega

noncomputable def cycB (n : Nat) (a : Nat → Nat → Int) (c : List Int) : Bool := @decide (cycP n a c ∧ 0 < c.length) (Classical.propDecidable _)
theorem cycB_true {n : Nat} {a : Nat → Nat → Int} {c : List Int} (h : cycP n a c) (h0 : 0 < c.length) : cycB n a c = true := @decide_eq_true _ (Classical.propDecidable _) ⟨h, h0⟩
theorem cycB_false {n : Nat} {a : Nat → Nat → Int} {c : List Int} (h : ¬ (cycP n a c ∧ 0 < c.length)) : cycB n a c = false := @decide_eq_false _ (Classical.propDecidable _) h
theorem cycB_iff {n : Nat} {a : Nat → Nat → Int} {c : List Int} : cycB n a c = true ↔ cycP n a c ∧ 0 < c.length := ⟨fun h => @of_decide_eq_true _ (Classical.propDecidable _) h, fun h => cycB_true h.1 h.2⟩

theorem getD_get {l : List Int} {i : Nat} (h : i < l.length) : l.getD i 0 = l[i] := by simp [h]
theorem mul_bd {a b x y : Int} (hx : -a ≤ x ∧ x ≤ a) (hy : -b ≤ y ∧ y ≤ b) (ha : 0 ≤ a) (hb : 0 ≤ b) : -(a * b) ≤ x * y ∧ x * y ≤ a * b := by
  have h1 : (x * y).natAbs ≤ a.natAbs * b.natAbs := by rw [Int.natAbs_mul]; exact Nat.mul_le_mul (by omega) (by omega)
  have h2 : ((a.natAbs * b.natAbs : Nat) : Int) = a * b := by rw [Int.natCast_mul]; congr 1 <;> omega
  omega
end Go.Cy

end
section
/-
  GAINS OVER A MEAN, WAYS, and how large they are.
-/
namespace Go.Cy
open Go.Vm

def gainI (a : Nat → Nat → Int) (p q : Int) (i j : Nat) : Int := if a i j = Nv then Nv else q * a i j - p
def stayI (n : Nat) (a : Nat → Nat → Int) (i j : Nat) : Int := gre [oneI n i j, a i j]
def waysI (n : Nat) (a : Nat → Nat → Int) : Nat → Nat → Int := pwI n (stayI n a) (n - 1)

theorem mul_bd' {x y b c : Int} (hx : -b ≤ x ∧ x ≤ b) (hy : 0 ≤ y ∧ y ≤ c) (hb : 0 ≤ b) : -(b * c) ≤ y * x ∧ y * x ≤ b * c := by
  have := mul_bd (a := b) (b := c) hx (y := y) (by omega) hb (by omega)
  rw [Int.mul_comm y x]; exact this
theorem gain_good {a : Nat → Nat → Int} {b c : Int} {p q : Int} (ha : GoodM b a) (hb : 0 ≤ b) (hq : 0 < q ∧ q ≤ c) (hp : -(b * q) ≤ p ∧ p ≤ b * q) : GoodM (2 * (b * c)) (gainI a p q) := fun i j => by
  unfold gainI
  split
  · exact .inl rfl
  · rename_i h
    have h1 := (ha i j).resolve_left h
    have h2 := mul_bd' h1 (y := q) (c := c) ⟨by omega, hq.2⟩ hb
    have h3 : b * q ≤ b * c := Int.mul_le_mul_of_nonneg_left hq.2 hb
    exact .inr (by omega)
theorem gain_dec {a : Nat → Nat → Int} {b c : Int} {p q : Int} (ha : GoodM b a) (hb : 0 ≤ b) (hq : 0 < q ∧ q ≤ c) (hp : -(b * q) ≤ p ∧ p ≤ b * q) (hB : 2 * (b * c) ≤ 1000000000000) : DM (gainI a p q) = gain (DM a) p q := by
  funext i j
  have hg := gain_good ha hb hq hp i j
  show dec (gainI a p q i j) = (dec (a i j)).map _
  unfold gainI at hg ⊢
  split
  · rename_i h; rw [h, dec_nv]; rfl
  · rename_i h
    rw [if_neg h] at hg
    rw [dec_some h]
    have h1 := (ha i j).resolve_left h
    have h2 := mul_bd' h1 (y := q) (c := c) ⟨by omega, hq.2⟩ hb
    have h3 : b * q ≤ b * c := Int.mul_le_mul_of_nonneg_left hq.2 hb
    rw [dec_some (by unfold Nv; omega)]; rfl

theorem gre_two {x y : Int} (hx : Nv ≤ x) (_ : Nv ≤ y) : gre [x, y] = max x y := by
  show max (max Nv x) y = _
  rw [Int.max_eq_right hx]
theorem stay_good {n : Nat} {a : Nat → Nat → Int} {b : Int} (ha : GoodM b a) (hb : 0 ≤ b) : GoodM b (stayI n a) := fun i j => gre_good fun x hx => by
  simp only [List.mem_cons, List.not_mem_nil, or_false] at hx
  rcases hx with rfl | rfl
  · exact one_good n hb i j
  · exact ha i j
theorem stay_dec {n : Nat} {a : Nat → Nat → Int} {b : Int} (ha : GoodM b a) (hb : 0 ≤ b) (hB : b ≤ 1000000000000) : DM (stayI n a) = tmx (tone n) (DM a) := by
  funext i j
  show dec (gre _) = omax (tone n i j) (dec (a i j))
  have h1 := (one_good n hb i j).ge hB
  have h2 := (ha i j).ge hB
  rw [gre_two h1 h2, max_dec h1 h2]
  congr 1
  exact congrFun (congrFun (one_dec n) i) j
theorem ways_good {n : Nat} {a : Nat → Nat → Int} {b : Int} (ha : GoodM b a) (hb : 0 ≤ b) : GoodM (((n - 1 : Nat) : Int) * b) (waysI n a) := pw_good (stay_good ha hb) hb (n - 1)
theorem ways_dec {n : Nat} {a : Nat → Nat → Int} {b : Int} (ha : GoodM b a) (hb : 0 ≤ b) (hs : Sup n (DM a)) (hB : b ≤ 1000000000000) (hB2 : ((n - 1 : Nat) : Int) * b ≤ 1000000000000) : DM (waysI n a) = star n (DM a) := by
  unfold waysI star
  rw [pw_dec (stay_good ha hb) hb hB2, stay_dec ha hb hB, tsum_pow hs]
theorem stay_sup {n : Nat} {a : Nat → Nat → Int} {b : Int} (ha : GoodM b a) (hb : 0 ≤ b) (hs : Sup n (DM a)) (hB : b ≤ 1000000000000) : Sup n (DM (stayI n a)) := by
  rw [stay_dec ha hb hB]; exact tmx_sup (tone_sup n) hs

/-- How large a mean can be. -/
theorem pow_bd {n : Nat} {a : Nat → Nat → Int} {b : Int} (ha : GoodM b a) (hb : 0 ≤ b) : ∀ (k : Nat) {i j : Nat} {w : Int}, tpow n (DM a) k i j = some w → -((k : Int) * b) ≤ w ∧ w ≤ (k : Int) * b
  | 0, i, j, w, h => by
    have h' : tone n i j = some w := h
    unfold tone at h'
    split at h'
    · cases h'; simp
    · cases h'
  | k + 1, i, j, w, h => by
    obtain ⟨l, x, y, _, hx, hy, rfl⟩ := mul_some h
    have h1 := pow_bd ha hb k hx
    have hy' : dec (a l j) = some y := hy
    unfold dec at hy'
    split at hy'
    · cases hy'
    · rename_i hne
      cases hy'
      have h2 := (ha l j).resolve_left hne
      rw [Int.natCast_add, Int.add_mul]
      simp; omega
theorem mean_bd {n : Nat} {a : Nat → Nat → Int} {b p q : Int} (ha : GoodM b a) (hb : 0 ≤ b) (h : MeanOf n (DM a) p q) : -(b * q) ≤ p ∧ p ≤ b * q := by
  obtain ⟨k, c, w, h1, h2, h3⟩ := h.eq
  have h4 := pow_bd ha hb k h2
  have hq := h.pos
  have hk : (0 : Int) < k := by omega
  have e1 : q * w ≤ q * ((k : Int) * b) := Int.mul_le_mul_of_nonneg_left h4.2 (by omega)
  have e2 : q * -((k : Int) * b) ≤ q * w := Int.mul_le_mul_of_nonneg_left h4.1 (by omega)
  have a1 : q * ((k : Int) * b) = (k : Int) * (b * q) := by simp only [Int.mul_comm, Int.mul_left_comm, Int.mul_assoc]
  have a2 : q * -((k : Int) * b) = (k : Int) * -(b * q) := by rw [Int.mul_neg, a1, Int.mul_neg]
  constructor
  · refine Int.le_of_mul_le_mul_left (a := (k : Int)) ?_ hk
    rw [Int.mul_comm (k : Int) p]; omega
  · refine Int.le_of_mul_le_mul_left (a := (k : Int)) ?_ hk
    rw [Int.mul_comm (k : Int) p]; omega
theorem mean_den {n : Nat} {a : Nat → Nat → Int} (hn : 0 < n) {m : Int × Int} (h : meanI n a = some m) : 0 < m.2 ∧ m.2 ≤ n := by
  unfold meanI at h
  cases ht : topI n a n with
  | none => rw [ht] at h; cases h
  | some r =>
    rw [ht] at h
    cases h
    obtain ⟨⟨i, h1, h2, h3⟩, _⟩ := (top_spec hn).2 r ht
    obtain ⟨⟨k0, s1, s2⟩, _⟩ := rate_spec (a := a) (j := i) hn (Nat.le_refl n)
    have hr2 : 0 < r.2 ∧ r.2 ≤ n := by rw [h3, s2]; simp only; omega
    have := (low_spec hr2.1).1
    refine ⟨this, ?_⟩
    have hle : (lowI r).2 ≤ r.2 := by
      show r.2.tdiv _ ≤ _
      rw [Int.tdiv_eq_ediv_of_nonneg (by omega)]
      exact Int.ediv_le_self _ (by omega)
    omega
/-- What is known of the mean of a small matrix. -/
structure Small (n : Nat) (a : Nat → Nat → Int) : Prop where
  n1 : 1 ≤ n
  n6 : n ≤ 6
  ga : GoodM 1000 a
  sup : Sup n (DM a)
theorem Small.of {m : List (List Int)} (h : validB 1000 m = true) : Small m.length (mf m) ∧ m = genM m.length m.length (mf m) := by
  obtain ⟨h1, h2, h3, h4, h5⟩ := valid_of h
  exact ⟨⟨h1, h2, h4, h5⟩, h3⟩
theorem Small.mean {n : Nat} {a : Nat → Nat → Int} (h : Small n a) {p q : Int} (hm : meanI n a = some (p, q)) : MeanOf n (DM a) p q ∧ Int.gcd p q = 1 ∧ (0 < q ∧ q ≤ 6) ∧ (-(1000 * q) ≤ p ∧ p ≤ 1000 * q) ∧ GoodM 12000 (gainI a p q) ∧ DM (gainI a p q) = gain (DM a) p q ∧ Sup n (DM (gainI a p q)) := by
  have n1 := h.n1
  have n6 := h.n6
  obtain ⟨h1, h2⟩ := mean_some (by omega) h.ga (by omega) h.sup (by omega) hm
  have h3 := mean_den (by omega) hm
  have h4 := mean_bd h.ga (by omega) h1
  simp only at h1 h2 h3 h4
  have e := gain_dec h.ga (by omega) (q := q) (c := 6) ⟨h3.1, by omega⟩ h4 (by omega)
  exact ⟨h1, h2, ⟨h3.1, by omega⟩, h4, gain_good h.ga (by omega) (c := 6) ⟨h3.1, by omega⟩ h4, e, by rw [e]; exact gain_sup h.sup _ _⟩
theorem Small.none {n : Nat} {a : Nat → Nat → Int} (h : Small n a) (hm : meanI n a = none) : ∀ k c, 0 < k → tpow n (DM a) k c c = none :=
  mean_none (by have := h.n1; omega) h.ga (by omega) h.sup (by have := h.n6; omega) hm
end Go.Cy

end
section
/-
  EIGENVECTORS: a critical node, and the equation.
-/
namespace Go.Cy
open Go.Vm

theorem tpow_left {n : Nat} {A : TM} (hs : Sup n A) (k : Nat) : tpow n A (k + 1) = tmul n A (tpow n A k) := by
  rw [Nat.add_comm, tpow_add hs 1 k, tpow_one hs]
theorem star_zero {n : Nat} {A : TM} (hs : Sup n A) (hp : NP n A) {c : Nat} (hc : c < n) : star n A c c = some 0 := by
  obtain ⟨w, h1, h2⟩ := star_ge hs hp (k := 0) (i := c) (j := c) (w := 0) (by show tone n c c = _; unfold tone; rw [if_pos ⟨rfl, hc⟩])
  obtain ⟨k, hk⟩ := star_some h1
  by_cases h0 : k = 0
  · subst h0
    have hk' : tone n c c = some w := hk
    unfold tone at hk'
    rw [if_pos ⟨rfl, hc⟩] at hk'
    rw [h1, hk']
  · have := hp k c (by omega) w hk
    rw [h1, show w = 0 by omega]
/-- A node on a closed path of weight 0. -/
def Crit (n : Nat) (A : TM) (c : Nat) : Prop := tmul n A (star n A) c c = some 0
theorem crit_of {n : Nat} {A : TM} (hs : Sup n A) (hp : NP n A) {L c : Nat} (hL : 0 < L) (h : tpow n A L c c = some 0) : Crit n A c := by
  obtain ⟨k, rfl⟩ : ∃ k, L = k + 1 := ⟨L - 1, by omega⟩
  rw [tpow_left hs] at h
  obtain ⟨l, x, y, hl, hx, hy, e⟩ := mul_some h
  obtain ⟨y', h1, h2⟩ := star_ge hs hp hy
  obtain ⟨w, h3, h4⟩ := mul_ge (B := star n A) hl hx h1
  have h5 : w ≤ 0 := by
    obtain ⟨l2, x2, y2, hl2, hx2, hy2, rfl⟩ := mul_some h3
    obtain ⟨k2, hk2⟩ := star_some hy2
    obtain ⟨w2, g1, g2⟩ := mul_ge (n := n) (B := tpow n A k2) hl2 hx2 hk2
    rw [← tpow_left hs] at g1
    have := hp (k2 + 1) c (by omega) w2 g1; omega
  show tmul n A (star n A) c c = some 0
  rw [h3, show w = 0 by omega]
/-- THE EIGENVECTOR: the best ways to a critical node solve the equation. -/
theorem eig_eq {n : Nat} {A : TM} (hs : Sup n A) (hp : NP n A) {c : Nat} (hc : c < n) (hcr : Crit n A c) (i : Nat) : tmul n A (star n A) i c = star n A i c := by
  have hle : ∀ w, tmul n A (star n A) i c = some w → ∃ w', star n A i c = some w' ∧ w ≤ w' := by
    intro w hw
    obtain ⟨l, x, y, hl, hx, hy, rfl⟩ := mul_some hw
    obtain ⟨k, hk⟩ := star_some hy
    obtain ⟨w2, g1, g2⟩ := mul_ge (n := n) (B := tpow n A k) hl hx hk
    rw [← tpow_left hs] at g1
    obtain ⟨w3, g3, g4⟩ := star_ge hs hp g1
    exact ⟨w3, g3, by omega⟩
  have hge : ∀ w, star n A i c = some w → ∃ w', tmul n A (star n A) i c = some w' ∧ w ≤ w' := by
    intro w hw
    by_cases e : i = c
    · subst e
      rw [star_zero hs hp hc] at hw
      cases hw
      exact ⟨0, hcr, Int.le_refl _⟩
    · obtain ⟨k, hk⟩ := star_some hw
      cases k with
      | zero =>
        have hk' : tone n i c = some w := hk
        unfold tone at hk'
        rw [if_neg (fun h => e h.1)] at hk'; cases hk'
      | succ k =>
        rw [tpow_left hs] at hk
        obtain ⟨l, x, y, hl, hx, hy, rfl⟩ := mul_some hk
        obtain ⟨y', h1, h2⟩ := star_ge hs hp hy
        obtain ⟨w', h3, h4⟩ := mul_ge (B := star n A) hl hx h1
        exact ⟨w', h3, by omega⟩
  cases h1 : tmul n A (star n A) i c with
  | none =>
    cases h2 : star n A i c with
    | none => rfl
    | some w => obtain ⟨w', h3, _⟩ := hge w h2; rw [h1] at h3; cases h3
  | some w =>
    obtain ⟨w', h3, h4⟩ := hle w h1
    obtain ⟨w2, h5, h6⟩ := hge w' h3
    rw [h1] at h5; cases h5
    rw [h3, show w = w' by omega]

/-- The first node whose element of the diagonal is 0. -/
def firstZ (P : Nat → Nat → Int) (n : Nat) : Nat → Nat
  | 0 => 0
  | k + 1 => if P (n - (k + 1)) (n - (k + 1)) = 0 then n - (k + 1) else firstZ P n k
def leastC (P : Nat → Nat → Int) (n : Nat) : Nat := firstZ P n n
theorem firstZ_spec {P : Nat → Nat → Int} {n : Nat} : ∀ {k : Nat}, k ≤ n → (∃ i, n - k ≤ i ∧ i < n ∧ P i i = 0) → firstZ P n k < n ∧ P (firstZ P n k) (firstZ P n k) = 0
  | 0, _, h => by obtain ⟨i, h1, h2, _⟩ := h; omega
  | k + 1, hk, h => by
    unfold firstZ
    split
    · rename_i hz; exact ⟨by omega, hz⟩
    · rename_i hz
      obtain ⟨i, h1, h2, h3⟩ := h
      refine firstZ_spec (by omega) ⟨i, ?_, h2, h3⟩
      by_cases e : i = n - (k + 1)
      · subst e; exact absurd h3 hz
      · omega
theorem leastC_yes {P : Nat → Nat → Int} {n i : Nat} (hi : i < n) (h : ∀ j, j < i → P j j ≠ 0) (h0 : P i i = 0) : leastC P n = i := by
  have key : ∀ k, k ≤ n → n - k ≤ i → firstZ P n k = i := by
    intro k
    induction k with
    | zero => intro _ h; omega
    | succ k ih =>
      intro hk hi'
      unfold firstZ
      by_cases e : n - (k + 1) = i
      · rw [e, if_pos h0]
      · rw [if_neg (h _ (by omega))]
        exact ih (by omega) (by omega)
  exact key n (Nat.le_refl _) (by omega)
theorem leastC_no {P : Nat → Nat → Int} {n : Nat} (h : ∀ j, j < n → P j j ≠ 0) : leastC P n = 0 := by
  have key : ∀ k, k ≤ n → firstZ P n k = 0 := by
    intro k
    induction k with
    | zero => intro _; rfl
    | succ k ih =>
      intro hk
      unfold firstZ
      rw [if_neg (h _ (by omega))]
      exact ih (by omega)
  exact key n (Nat.le_refl _)

/-- Where x is first. -/
def idxI : List Int → Int → Int → Int
  | [], _, _ => -1
  | y :: l, x, i => if x = y then i else idxI l x (i + 1)
theorem idxI_drop {l : List Int} {i : Nat} (hi : i < l.length) (x j : Int) : idxI (l.drop i) x j = if x = l[i] then j else idxI (l.drop (i + 1)) x (j + 1) := by
  rw [List.drop_eq_getElem_cons hi]; rfl
theorem idxI_mem : ∀ (l : List Int) (x i : Int), 0 ≤ i → (0 ≤ idxI l x i ↔ x ∈ l)
  | [], x, i, _ => by simp [idxI]
  | y :: l, x, i, h => by
    unfold idxI
    split
    · rename_i e; subst e; simp [h]
    · rename_i e
      rw [idxI_mem l x (i + 1) (by omega)]; simp [e]

/-- What is known of a gain matrix. -/
structure GSt (n : Nat) (g : Nat → Nat → Int) : Prop where
  n1 : 1 ≤ n
  n6 : n ≤ 6
  gd : GoodM 12000 g
  sup : Sup n (DM g)
  np : NP n (DM g)
  zero : ∃ L c, 0 < L ∧ tpow n (DM g) L c c = some 0
theorem Small.gst {n : Nat} {a : Nat → Nat → Int} (h : Small n a) {p q : Int} (hm : meanI n a = some (p, q)) : GSt n (gainI a p q) := by
  obtain ⟨h1, _, _, _, h5, h6, h7⟩ := h.mean hm
  exact ⟨h.n1, h.n6, h5, h7, by rw [h6]; exact h1.np, by rw [h6]; exact h1.zero⟩
theorem GSt.ways {n : Nat} {g : Nat → Nat → Int} (h : GSt n g) : DM (waysI n g) = star n (DM g) := ways_dec h.gd (by omega) h.sup (by omega) (by have := h.n6; omega)
theorem GSt.wgood {n : Nat} {g : Nat → Nat → Int} (h : GSt n g) : GoodM 60000 (waysI n g) := fun i j => (ways_good h.gd (by omega) i j).mono (by have := h.n6; omega)
theorem GSt.prod {n : Nat} {g : Nat → Nat → Int} (h : GSt n g) : DM (prodI n g (waysI n g)) = tmul n (DM g) (star n (DM g)) := by
  rw [prod_dec h.gd h.wgood (by omega), h.ways]
theorem GSt.crit {n : Nat} {g : Nat → Nat → Int} (h : GSt n g) : leastC (prodI n g (waysI n g)) n < n ∧ Crit n (DM g) (leastC (prodI n g (waysI n g)) n) := by
  obtain ⟨L, c, hL, hc⟩ := h.zero
  have hcn : c < n := Classical.byContradiction fun hn => by rw [tpow_sup h.sup L c c fun h => hn h.1] at hc; cases hc
  have key : ∀ i, Crit n (DM g) i ↔ prodI n g (waysI n g) i i = 0 := by
    intro i
    unfold Crit
    rw [← h.prod]
    show dec _ = some 0 ↔ _
    constructor
    · intro e
      unfold dec at e
      split at e
      · cases e
      · simpa using e
    · intro e; rw [e]; exact dec_some (by decide)
  have h1 := (key c).1 (crit_of h.sup h.np hL hc)
  obtain ⟨h2, h3⟩ := firstZ_spec (P := prodI n g (waysI n g)) (n := n) (k := n) (Nat.le_refl _) ⟨c, by omega, hcn, h1⟩
  exact ⟨h2, (key _).2 h3⟩
/-- .. in numbers. -/
theorem GSt.eq {n : Nat} {g : Nat → Nat → Int} (h : GSt n g) {c : Nat} (hc : c < n) (hcr : Crit n (DM g) c) (hcon : ∀ i, i < n → waysI n g i c ≠ Nv) {i : Nat} (hi : i < n) :
    (∀ j, j < n → g i j ≠ Nv → g i j + waysI n g j c ≤ waysI n g i c) ∧ ∃ j, j < n ∧ g i j ≠ Nv ∧ g i j + waysI n g j c = waysI n g i c := by
  have e := eig_eq h.sup h.np hc hcr i
  have hS : ∀ j, j < n → star n (DM g) j c = some (waysI n g j c) := fun j hj => by
    rw [← h.ways]; exact dec_some (hcon j hj)
  rw [hS i hi] at e
  constructor
  · intro j hj hne
    obtain ⟨w, h1, h2⟩ := mul_ge (n := n) (A := DM g) (i := i) hj (dec_some hne) (hS j hj)
    rw [e] at h1; cases h1; exact h2
  · obtain ⟨l, x, y, hl, hx, hy, he⟩ := mul_some e
    rw [hS l hl] at hy
    cases hy
    have hx' : dec (g i l) = some x := hx
    unfold dec at hx'
    split at hx'
    · cases hx'
    · rename_i hne
      cases hx'
      exact ⟨l, hl, hne, by omega⟩
end Go.Cy
namespace Go.Cy
open Go.Vm

theorem GSt.pow {n : Nat} {g : Nat → Nat → Int} (h : GSt n g) {k : Nat} (hk : k ≤ 1000) : DM (pwI n g k) = tpow n (DM g) k := pw_dec h.gd (by omega) (by omega)
end Go.Cy

end
section
/-
  THE FIRST CRITICAL CYCLE, and what a cycle with a potential proves.
-/
namespace Go.Cy
open Go.Vm

def pathL (A : TM) : Nat → List Nat → O
  | _, [] => some 0
  | x, y :: r => oadd (A x y) (pathL A y r)
theorem pathL_wt (A : TM) : ∀ (r : List Nat) (x : Nat), wt A (fun t => (x :: r).getD t 0) r.length = pathL A x r
  | [], _ => rfl
  | y :: r, x => by
    show wt A _ (r.length + 1) = oadd (A x y) (pathL A y r)
    rw [Nat.add_comm, wt_add, ← pathL_wt A r y]
    have h1 : wt A (fun t => (x :: y :: r).getD t 0) 1 = A x y := zero_add _
    rw [h1]
    congr 1
    exact wt_congr fun m _ => by simp [Nat.add_comm 1 m]

/-- The next node of the first best way. -/
def nextI (n : Nat) (g : Nat → Nat → Int) (first l at_ : Nat) : Nat :=
  ((List.range n).find? fun x => decide (aft (pwI n g 1 at_ x) (pwI n g (l + 1) x first) = pwI n g (l + 2) at_ first)).getD at_
def trc (n : Nat) (g : Nat → Nat → Int) (first : Nat) : Nat → Nat → List Nat
  | 0, _ => []
  | l + 1, at_ => nextI n g first l at_ :: trc n g first l (nextI n g first l at_)
theorem trc_len (n : Nat) (g : Nat → Nat → Int) (first : Nat) : ∀ l at_, (trc n g first l at_).length = l
  | 0, _ => rfl
  | l + 1, at_ => by simp [trc, trc_len n g first l]
def hasZ (n : Nat) (g : Nat → Nat → Int) (k : Nat) : Bool := decide (pwI n g (k + 1) (leastC (pwI n g (k + 1)) n) (leastC (pwI n g (k + 1)) n) = 0)
def critL (n : Nat) (g : Nat → Nat → Int) (k : Nat) : List Nat := leastC (pwI n g (k + 1)) n :: trc n g (leastC (pwI n g (k + 1)) n) k (leastC (pwI n g (k + 1)) n)
def critI (n : Nat) (g : Nat → Nat → Int) : List Int := match (List.range n).find? (hasZ n g) with
  | none => []
  | some k => (critL n g k).map fun x => ((x : Nat) : Int)

theorem hasZ_of {n : Nat} {g : Nat → Nat → Int} {k i : Nat} (hi : i < n) (h : pwI n g (k + 1) i i = 0) : hasZ n g k = true := by
  obtain ⟨_, h2⟩ := firstZ_spec (P := pwI n g (k + 1)) (n := n) (k := n) (Nat.le_refl _) ⟨i, by omega, hi, h⟩
  exact decide_eq_true h2
theorem GSt.cell {n : Nat} {g : Nat → Nat → Int} (h : GSt n g) {k i j : Nat} {w : Int} (hk : k ≤ 1000) : tpow n (DM g) k i j = some w ↔ pwI n g k i j = w ∧ w ≠ Nv := by
  rw [← h.pow hk]
  show dec _ = some w ↔ _
  unfold dec
  split
  · rename_i e
    exact ⟨fun h => (by cases h), fun ⟨h1, h2⟩ => absurd (h1.symm.trans e) h2⟩
  · rename_i e
    constructor
    · intro h; cases h; exact ⟨rfl, e⟩
    · intro ⟨h1, _⟩; rw [h1]
/-- There is a closed path of weight 0 with at most n arcs. -/
theorem short_zero {n : Nat} {A : TM} (hs : Sup n A) (hp : NP n A) : ∀ (L c : Nat), 0 < L → tpow n A L c c = some 0 → ∃ k i, 0 < k ∧ k ≤ n ∧ tpow n A k i i = some 0 := by
  intro L
  induction L using Nat.strongRecOn with
  | _ L ih =>
    intro c hL hc
    by_cases hn : L ≤ n
    · exact ⟨L, c, hL, hn, hc⟩
    · obtain ⟨p, h1, h2, h3, h4⟩ := pow_wt hs hc
      obtain ⟨s, t, a1, a2, a3⟩ := pigeon n p fun m hm => h4 m (by omega)
      obtain ⟨w1, w2, c1, c2, b1, _, _, b4, b5⟩ := cut_path hs a1 (by omega) a3 h3 h4
      have u1 := hp (t - s) (p s) (by omega) c1 b4
      rw [h1, h2] at b5
      have u2 := hp (L - (t - s)) c (by omega) c2 b5
      exact ⟨t - s, p s, by omega, by omega, by rw [b4, show c1 = 0 by omega]⟩

theorem next_spec {n : Nat} {g : Nat → Nat → Int} (h : GSt n g) {first l at_ : Nat} {w : Int} (hl : l ≤ 100) (hw : tpow n (DM g) (l + 2) at_ first = some w) :
    ∃ x y, DM g at_ (nextI n g first l at_) = some x ∧ tpow n (DM g) (l + 1) (nextI n g first l at_) first = some y ∧ w = x + y := by
  have h0 := (h.cell (by omega)).1 hw
  have hw' := hw
  rw [tpow_left h.sup] at hw'
  obtain ⟨q, x, y, hq, hx, hy, e⟩ := mul_some hw'
  have hx1 : tpow n (DM g) 1 at_ q = some x := by rw [tpow_one h.sup]; exact hx
  have hx2 := (h.cell (by omega)).1 hx1
  have hy2 := (h.cell (by omega)).1 hy
  have hq2 : (fun z => decide (aft (pwI n g 1 at_ z) (pwI n g (l + 1) z first) = pwI n g (l + 2) at_ first)) q = true := by
    simp only [decide_eq_true_eq]
    rw [hx2.1, hy2.1, h0.1]
    unfold aft
    rw [if_neg (by rintro (k | k); exact hx2.2 k; exact hy2.2 k), e]
  cases hf : (List.range n).find? fun z => decide (aft (pwI n g 1 at_ z) (pwI n g (l + 1) z first) = pwI n g (l + 2) at_ first) with
  | none =>
    have := List.find?_eq_none.1 hf q (List.mem_range.2 hq)
    exact absurd hq2 this
  | some r =>
    have hr : nextI n g first l at_ = r := by unfold nextI; rw [hf]; rfl
    have hr2 := List.find?_some hf
    simp only [decide_eq_true_eq] at hr2
    rw [h0.1] at hr2
    rw [hr]
    have n1 : pwI n g 1 at_ r ≠ Nv := fun k => by unfold aft at hr2; rw [if_pos (.inl k)] at hr2; exact h0.2 hr2.symm
    have n2 : pwI n g (l + 1) r first ≠ Nv := fun k => by unfold aft at hr2; rw [if_pos (.inr k)] at hr2; exact h0.2 hr2.symm
    refine ⟨pwI n g 1 at_ r, pwI n g (l + 1) r first, ?_, (h.cell (by omega)).2 ⟨rfl, n2⟩, ?_⟩
    · have := (h.cell (k := 1) (by omega)).2 ⟨rfl, n1⟩
      rwa [tpow_one h.sup] at this
    · unfold aft at hr2
      rw [if_neg (by rintro (k | k); exact n1 k; exact n2 k)] at hr2
      exact hr2.symm
theorem trc_path {n : Nat} {g : Nat → Nat → Int} (h : GSt n g) (first : Nat) : ∀ (l at_ : Nat) (w : Int), l ≤ 100 → tpow n (DM g) (l + 1) at_ first = some w → pathL (DM g) at_ (trc n g first l at_ ++ [first]) = some w
  | 0, at_, w, _, hw => by
    rw [tpow_one h.sup] at hw
    show oadd (DM g at_ first) (some 0) = some w
    rw [add_zero]; exact hw
  | l + 1, at_, w, hl, hw => by
    obtain ⟨x, y, h1, h2, e⟩ := next_spec h (by omega) hw
    show oadd (DM g at_ (nextI n g first l at_)) (pathL (DM g) _ (trc n g first l _ ++ [first])) = some w
    rw [h1, trc_path h first l _ y (by omega) h2, e]; rfl

/-- THE FIRST CRITICAL CYCLE is a cycle with the mean. -/
theorem Small.crit {n : Nat} {a : Nat → Nat → Int} (h : Small n a) {p q : Int} (hm : meanI n a = some (p, q)) : cycP n a (critI n (gainI a p q)) ∧ 0 < (critI n (gainI a p q)).length ∧ wtS a (critI n (gainI a p q)) (critI n (gainI a p q)).length * q = p * ((critI n (gainI a p q)).length : Nat) := by
  have hg := h.gst hm
  have n6 := h.n6
  obtain ⟨_, _, m3, m4, _, _, _⟩ := h.mean hm
  generalize hG : gainI a p q = g at hg
  obtain ⟨L0, c0, z1, z2⟩ := hg.zero
  obtain ⟨k1, i1, z3, z4, z5⟩ := short_zero hg.sup hg.np L0 c0 z1 z2
  have hi1 : i1 < n := Classical.byContradiction fun hn => by rw [tpow_sup hg.sup _ _ _ fun e => hn e.1] at z5; cases z5
  have hz1 : hasZ n g (k1 - 1) = true := hasZ_of hi1 (by rw [show k1 - 1 + 1 = k1 by omega]; exact ((hg.cell (by omega)).1 z5).1)
  cases hf : (List.range n).find? (hasZ n g) with
  | none => exact absurd hz1 (List.find?_eq_none.1 hf _ (List.mem_range.2 (by omega)))
  | some k =>
    have hk := List.mem_range.1 (List.mem_of_find?_eq_some hf)
    have hmin : ∀ j, j < k → hasZ n g j = false := by
      have := (List.find?_range_eq_some.1 hf).2.2
      intro j hj; simpa using this j hj
    have hkz := List.find?_some hf
    have hC : critI n g = (critL n g k).map fun x => ((x : Nat) : Int) := by unfold critI; rw [hf]
    generalize hi : leastC (pwI n g (k + 1)) n = i at *
    have hii : tpow n (DM g) (k + 1) i i = some 0 := (hg.cell (by omega)).2 ⟨by have := of_decide_eq_true hkz; rwa [hi] at this, by decide⟩
    have hpath := trc_path hg i k i 0 (by omega) hii
    rw [← pathL_wt] at hpath
    have hlen : (trc n g i k i ++ [i]).length = k + 1 := by simp [trc_len]
    rw [hlen] at hpath
    let P : Nat → Nat := fun t => (i :: (trc n g i k i ++ [i])).getD t 0
    have hP : wt (DM g) P (k + 1) = some 0 := hpath
    have hcl : critL n g k = i :: trc n g i k i := by unfold critL; rw [hi]
    have hPc : ∀ t, t ≤ k → (critL n g k).getD t 0 = P t := by
      intro t ht
      rw [hcl]
      show (i :: trc n g i k i).getD t 0 = (i :: (trc n g i k i ++ [i])).getD t 0
      cases t with
      | zero => rfl
      | succ t =>
        simp only [List.getD_eq_getElem?_getD, List.getElem?_cons_succ]
        rw [List.getElem?_append_left (by rw [trc_len]; omega)]
    have hP0 : P 0 = i := rfl
    have hPk : P (k + 1) = i := by
      show (i :: (trc n g i k i ++ [i])).getD (k + 1) 0 = i
      simp only [List.getD_eq_getElem?_getD, List.getElem?_cons_succ]
      rw [List.getElem?_append_right (by rw [trc_len]; omega), trc_len]; simp
    -- every arc is one
    have harc : ∀ t, t ≤ k → ∃ x, DM g (P t) (P (t + 1)) = some x := by
      intro t ht
      have e : wt (DM g) P (k + 1) = oadd (wt (DM g) P (t + 1)) (wt (DM g) (fun m => P (t + 1 + m)) (k - t)) := by rw [← wt_add]; congr 1; omega
      rw [hP] at e
      obtain ⟨x, _, h1, _, _⟩ := add_some.1 e.symm
      obtain ⟨_, y, _, h3, _⟩ := add_some.1 (show oadd (wt (DM g) P t) (DM g (P t) (P (t + 1))) = some x from h1)
      exact ⟨y, h3⟩
    have hPn : ∀ t, t ≤ k + 1 → P t < n := by
      intro t ht
      by_cases e : t = k + 1
      · subst e
        obtain ⟨x, hx⟩ := harc k (Nat.le_refl _)
        exact Classical.byContradiction fun hn => by rw [hg.sup _ _ fun e => hn e.2] at hx; cases hx
      · obtain ⟨x, hx⟩ := harc t (by omega)
        exact Classical.byContradiction fun hn => by rw [hg.sup _ _ fun e => hn e.1] at hx; cases hx
    have hdif : ∀ s t, s < t → t ≤ k → P s ≠ P t := by
      intro s t hst htk he
      obtain ⟨w1, w2, c1, c2, b1, _, _, b4, b5⟩ := cut_path hg.sup hst (show t ≤ k + 1 by omega) he hP hPn
      have u1 := hg.np (t - s) (P s) (by omega) c1 b4
      rw [hP0, hPk] at b5
      have u2 := hg.np (k + 1 - (t - s)) i (by omega) c2 b5
      have hz : tpow n (DM g) (t - s) (P s) (P s) = some 0 := by rw [b4, show c1 = 0 by omega]
      have h1 := hasZ_of (k := t - s - 1) (hPn s (by omega)) (by rw [show t - s - 1 + 1 = t - s by omega]; exact ((hg.cell (by omega)).1 hz).1)
      rw [hmin (t - s - 1) (by omega)] at h1; cases h1
    have hga : ∀ x y z, DM g x y = some z → a x y ≠ Nv ∧ z = q * a x y - p := by
      intro x y z hz
      rw [← hG] at hz
      have hz' : dec (gainI a p q x y) = some z := hz
      unfold gainI dec at hz'
      by_cases e : a x y = Nv
      · rw [if_pos e, if_pos rfl] at hz'; cases hz'
      · rw [if_neg e] at hz'
        refine ⟨e, ?_⟩
        split at hz'
        · cases hz'
        · cases hz'; rfl
    have hlenC : (critI n g).length = k + 1 := by rw [hC, List.length_map, hcl]; simp [trc_len]
    have hget : ∀ t, t ≤ k → (critI n g).getD t 0 = (P t : Int) := by
      intro t ht
      rw [hC]
      have := hPc t ht
      rw [List.getD_eq_getElem?_getD, List.getElem?_map]
      rw [List.getD_eq_getElem?_getD] at this
      have hl : t < (critL n g k).length := by rw [hcl]; simp [trc_len]; omega
      rw [List.getElem?_eq_getElem hl] at this ⊢
      simp only [Option.map_some, Option.getD_some] at this ⊢
      rw [this]
    have hnx : ∀ t, t ≤ k → nx (critI n g) t = (P (t + 1) : Int) := by
      intro t ht
      unfold nx
      rw [hlenC]
      by_cases e : t = k
      · subst e; rw [Nat.mod_self, hget 0 (by omega), hPk]; rfl
      · rw [Nat.mod_eq_of_lt (by omega), hget (t + 1) (by omega)]
    have harcI : ∀ t, t ≤ k → arcI a (critI n g) t = a (P t) (P (t + 1)) := by
      intro t ht; unfold arcI; rw [hget t ht, hnx t ht]; simp
    have hsum : ∀ t, t ≤ k + 1 → wt (DM g) P t = some (q * wtS a (critI n g) t - p * (t : Int)) := by
      intro t
      induction t with
      | zero => intro _; simp [wt, wtS]
      | succ t ih =>
        intro ht
        show oadd (wt (DM g) P t) (DM g (P t) (P (t + 1))) = _
        obtain ⟨x, hx⟩ := harc t (by omega)
        obtain ⟨_, e2⟩ := hga _ _ x hx
        rw [ih (by omega), hx, e2]
        simp only [oadd, wtS, harcI t (by omega), Int.mul_add, Int.natCast_add, Option.some.injEq]
        simp; omega
    refine ⟨fun t ht => ⟨?_, ?_, ?_, ?_⟩, by omega, ?_⟩
    · rw [hget t (by omega)]; have := hPn t (by omega); exact ⟨by omega, by omega⟩
    · rw [hnx t (by omega)]; have := hPn (t + 1) (by omega); exact ⟨by omega, by omega⟩
    · intro s hs
      rw [hget s (by omega), hget t (by omega)]
      have := hdif s t hs (by omega); omega
    · rw [harcI t (by omega)]
      obtain ⟨x, hx⟩ := harc t (by omega)
      exact (hga _ _ x hx).1
    · have := hsum (k + 1) (Nat.le_refl _)
      rw [hP] at this
      rw [hlenC]
      have h2 : (0 : Int) = q * wtS a (critI n g) (k + 1) - p * ((k + 1 : Nat) : Int) := by simpa using this
      rw [Int.mul_comm]; omega

/-- A cycle is a closed path. -/
theorem cyc_path {n : Nat} {a : Nat → Nat → Int} {c : List Int} (hs : Sup n (DM a)) (h : cycP n a c) (h0 : 0 < c.length) : ∃ i w, tpow n (DM a) c.length i i = some w ∧ wtS a c c.length ≤ w := by
  let P : Nat → Nat := fun t => (c.getD (t % c.length) 0).toNat
  have hP : ∀ t, t < c.length → P t = (c.getD t 0).toNat ∧ P (t + 1) = (nx c t).toNat := fun t ht => by
    refine ⟨?_, rfl⟩
    show (c.getD (t % c.length) 0).toNat = _
    rw [Nat.mod_eq_of_lt ht]
  have hw : ∀ t, t ≤ c.length → wt (DM a) P t = some (wtS a c t) := by
    intro t
    induction t with
    | zero => intro _; rfl
    | succ t ih =>
      intro ht
      show oadd (wt (DM a) P t) (DM a (P t) (P (t + 1))) = _
      obtain ⟨_, _, _, h4⟩ := h t (by omega)
      rw [ih (by omega), (hP t (by omega)).1, (hP t (by omega)).2]
      have : DM a (c.getD t 0).toNat (nx c t).toNat = some (arcI a c t) := dec_some h4
      rw [this]; rfl
  have hn : P 0 < n := by
    have := (h 0 h0).1
    rw [(hP 0 h0).1]; unfold inN at this; omega
  obtain ⟨w, h1, h2⟩ := wt_pow (n := n) hs hn (hw c.length (Nat.le_refl _))
  have hc : P c.length = P 0 := by show (c.getD (c.length % c.length) 0).toNat = (c.getD (0 % c.length) 0).toNat; rw [Nat.mod_self, Nat.zero_mod]
  rw [hc] at h1
  exact ⟨P 0, w, h1, h2⟩
end Go.Cy

end
section
/-
  THE CYCLES IN THEIR ORDER: shorter ones first, then by their nodes; each begins with its least node.
-/
namespace Go.Cy
open Go.Vm

/-- The ways of so many different nodes below n, each beginning with its least one. -/
def extN (n : Nat) : Nat → List (List Nat)
  | 0 => []
  | 1 => (List.range n).map fun i => [i]
  | s + 2 => (extN n (s + 1)).flatMap fun w => ((List.range' (w.headD 0 + 1) (n - (w.headD 0 + 1))).filter fun j => !w.contains j).map fun j => w ++ [j]

theorem mem_extN {n : Nat} : ∀ (s : Nat) (c : List Nat), c ∈ extN n (s + 1) ↔ c.length = s + 1 ∧ c.Nodup ∧ (∀ x, x ∈ c → x < n) ∧ ∀ x, x ∈ c.tail → c.headD 0 < x
  | 0, c => by
    show c ∈ (List.range n).map _ ↔ _
    rw [List.mem_map]
    constructor
    · rintro ⟨i, hi, rfl⟩
      have := List.mem_range.1 hi
      exact ⟨rfl, by simp, fun x hx => by simp at hx; omega, fun x hx => by simp at hx⟩
    · rintro ⟨h1, _, h3, _⟩
      obtain ⟨x, rfl⟩ := List.length_eq_one_iff.1 h1
      exact ⟨x, List.mem_range.2 (h3 x (by simp)), rfl⟩
  | s + 1, c => by
    show c ∈ (extN n (s + 1)).flatMap _ ↔ _
    rw [List.mem_flatMap]
    constructor
    · rintro ⟨w, hw, hc⟩
      obtain ⟨h1, h2, h3, h4⟩ := (mem_extN s w).1 hw
      obtain ⟨j, hj, rfl⟩ := List.mem_map.1 hc
      obtain ⟨hj1, hj2⟩ := List.mem_filter.1 hj
      obtain ⟨r1, r2⟩ := List.mem_range'_1.1 hj1
      have hj3 : j ∉ w := by simpa using hj2
      obtain ⟨y, r, rfl⟩ : ∃ y r, w = y :: r := by
        cases w with
        | nil => cases h1
        | cons y r => exact ⟨y, r, rfl⟩
      simp only [List.headD_cons] at r1 r2 h4
      refine ⟨by rw [List.length_append, h1]; rfl, ?_, ?_, ?_⟩
      · rw [List.nodup_append]
        exact ⟨h2, by simp, fun a ha b hb => by simp at hb; subst hb; exact fun e => hj3 (e ▸ ha)⟩
      · intro x hx
        rcases List.mem_append.1 hx with hx | hx
        · exact h3 x hx
        · simp at hx; omega
      · intro x hx
        show y < x
        rcases List.mem_append.1 (show x ∈ r ++ [j] from hx) with hx | hx
        · exact h4 x hx
        · simp at hx; omega
    · rintro ⟨h1, h2, h3, h4⟩
      have hne : c ≠ [] := fun e => by rw [e] at h1; cases h1
      have hsplit : c.dropLast ++ [c.getLast hne] = c := List.dropLast_concat_getLast hne
      have hl : c.dropLast.length = s + 1 := by rw [List.length_dropLast]; omega
      generalize hw : c.dropLast = w at *
      generalize hj : c.getLast hne = j at *
      clear hw hj
      subst hsplit
      obtain ⟨y, r, rfl⟩ : ∃ y r, w = y :: r := by
        cases w with
        | nil => cases hl
        | cons y r => exact ⟨y, r, rfl⟩
      rw [List.nodup_append] at h2
      have hjw : j ∉ y :: r := fun e => h2.2.2 j e j (by simp) rfl
      have hyj : y < j := h4 j (by simp)
      have hjn : j < n := h3 j (by simp)
      refine ⟨y :: r, (mem_extN s _).2 ⟨hl, h2.1, fun x hx => h3 x (List.mem_append_left _ hx), fun x hx => h4 x (List.mem_append_left _ hx)⟩, List.mem_map.2 ⟨j, List.mem_filter.2 ⟨List.mem_range'_1.2 ⟨by simp; omega, by simp; omega⟩, by simpa using hjw⟩, rfl⟩⟩

/-- The first node in which two ways differ is smaller in the one. -/
def Lx (c d : List Nat) : Prop := ∃ k, k < c.length ∧ k < d.length ∧ (∀ j, j < k → c.getD j 0 = d.getD j 0) ∧ c.getD k 0 < d.getD k 0
theorem Lx.asymm {c d : List Nat} (h : Lx c d) (h' : Lx d c) : False := by
  obtain ⟨k, _, _, a1, a2⟩ := h
  obtain ⟨l, _, _, b1, b2⟩ := h'
  rcases Nat.lt_trichotomy k l with h | h | h
  · have := b1 k h; omega
  · subst h; omega
  · have := a1 l h; omega
theorem Lx.append {c d : List Nat} (h : Lx c d) (x y : List Nat) : Lx (c ++ x) (d ++ y) := by
  obtain ⟨k, k1, k2, a1, a2⟩ := h
  have e : ∀ (l z : List Nat) (j : Nat), j < l.length → (l ++ z).getD j 0 = l.getD j 0 := fun l z j hj => by
    simp only [List.getD_eq_getElem?_getD]; rw [List.getElem?_append_left hj]
  exact ⟨k, by simp; omega, by simp; omega, fun j hj => by rw [e _ _ _ (by omega), e _ _ _ (by omega)]; exact a1 j hj, by rw [e _ _ _ k1, e _ _ _ k2]; exact a2⟩
theorem Lx.last (w : List Nat) {x y : Nat} (h : x < y) : Lx (w ++ [x]) (w ++ [y]) :=
  ⟨w.length, by simp, by simp, fun j hj => by simp only [List.getD_eq_getElem?_getD]; rw [List.getElem?_append_left hj, List.getElem?_append_left hj], by simpa using h⟩

theorem extN_sorted {n : Nat} : ∀ s, (extN n (s + 1)).Pairwise Lx
  | 0 => by
    show ((List.range n).map _).Pairwise Lx
    rw [List.pairwise_map]
    exact List.pairwise_lt_range.imp fun h => Lx.last [] h
  | s + 1 => by
    show ((extN n (s + 1)).flatMap _).Pairwise Lx
    rw [List.pairwise_flatMap]
    refine ⟨fun w _ => ?_, (extN_sorted s).imp fun {a b} h x hx y hy => ?_⟩
    · rw [List.pairwise_map]
      exact ((List.pairwise_lt_range' (s := _) (n := _) (step := 1) (by omega)).filter _).imp fun h => Lx.last w h
    · obtain ⟨j, _, rfl⟩ := List.mem_map.1 hx
      obtain ⟨k, _, rfl⟩ := List.mem_map.1 hy
      exact h.append _ _

/-- What comes before all others that are fit is what is found. -/
theorem find_first {α : Type} {R : α → α → Prop} (hR : ∀ a b, R a b → R b a → False) {p : α → Bool} {l : List α} (hl : l.Pairwise R) {c : α} (hc : c ∈ l) (hp : p c = true) (hmin : ∀ d, d ∈ l → p d = true → d = c ∨ R c d) : l.find? p = some c := by
  induction l with
  | nil => cases hc
  | cons a l ih =>
    rw [List.pairwise_cons] at hl
    rw [List.find?_cons]
    cases ha : p a with
    | true =>
      rcases hmin a (by simp) ha with e | e
      · rw [e]
      · rcases List.mem_cons.1 hc with e2 | e2
        · rw [e2]
        · exact absurd (hl.1 c e2) fun h => hR _ _ h e
    | false =>
      have : c ∈ l := by
        rcases List.mem_cons.1 hc with e2 | e2
        · rw [e2] at hp; rw [hp] at ha; cases ha
        · exact e2
      exact ih hl.2 this fun d hd => hmin d (by simp [hd])
end Go.Cy

end
section
/-
  THE FIRST CRITICAL CYCLE comes first among the critical cycles in their order.
-/
namespace Go.Cy
open Go.Vm

theorem pathL_pow {n : Nat} {A : TM} (hs : Sup n A) {x : Nat} (hx : x < n) {r : List Nat} {f : Nat} {w : Int} (h : pathL A x (r ++ [f]) = some w) : ∃ w', tpow n A (r.length + 1) x f = some w' ∧ w ≤ w' := by
  rw [← pathL_wt] at h
  have e : (r ++ [f]).length = r.length + 1 := by simp
  rw [e] at h
  obtain ⟨w', h1, h2⟩ := wt_pow (n := n) (p := fun t => (x :: (r ++ [f])).getD t 0) hs hx h
  have e2 : (x :: (r ++ [f])).getD (r.length + 1) 0 = f := by simp
  have e1 : (x :: (r ++ [f])).getD 0 0 = x := rfl
  rw [e2, e1] at h1
  exact ⟨w', h1, h2⟩
theorem Lx.cons {c d : List Nat} (x : Nat) (h : Lx c d) : Lx (x :: c) (x :: d) := by
  obtain ⟨k, k1, k2, a1, a2⟩ := h
  exact ⟨k + 1, by simp; omega, by simp; omega, fun j hj => by
    cases j with
    | zero => rfl
    | succ j => exact a1 j (by omega), a2⟩
theorem Lx.head {c d : List Nat} {x y : Nat} (h : x < y) : Lx (x :: c) (y :: d) := ⟨0, by simp, by simp, fun j hj => by omega, h⟩

/-- No best way comes before the one that is traced. -/
theorem trc_lex {n : Nat} {g : Nat → Nat → Int} (h : GSt n g) (first : Nat) : ∀ (l at_ : Nat) (w : Int) (r : List Nat), l ≤ 100 → at_ < n → tpow n (DM g) (l + 1) at_ first = some w → r.length = l → pathL (DM g) at_ (r ++ [first]) = some w → r = trc n g first l at_ ∨ Lx (trc n g first l at_) r
  | 0, at_, w, r, _, _, _, hr, _ => by
    left; rw [List.length_eq_zero_iff.1 hr]; rfl
  | l + 1, at_, w, [], _, _, _, hr, _ => by cases hr
  | l + 1, at_, w, y :: r, hl, hat, hw, hr, hp => by
    have hr' : r.length = l := by simpa using hr
    obtain ⟨x, z, h1, h2, e⟩ := add_some.1 (show oadd (DM g at_ y) (pathL (DM g) y (r ++ [first])) = some w from hp)
    have hyn : y < n := Classical.byContradiction fun hn => by rw [h.sup _ _ fun e => hn e.2] at h1; cases h1
    obtain ⟨z', h3, h4⟩ := pathL_pow h.sup hyn h2
    rw [hr'] at h3
    have hsum : ∃ w', tpow n (DM g) (l + 2) at_ first = some w' ∧ x + z' ≤ w' := by
      have hx1 : tpow n (DM g) 1 at_ y = some x := by rw [tpow_one h.sup]; exact h1
      rw [tpow_left h.sup]
      exact mul_ge hyn h1 h3
    obtain ⟨w', h5, h6⟩ := hsum
    rw [hw] at h5; cases h5
    have hz : z' = z := by omega
    subst hz
    have h0 := (h.cell (by omega)).1 hw
    have hx1 : tpow n (DM g) 1 at_ y = some x := by rw [tpow_one h.sup]; exact h1
    have hx2 := (h.cell (by omega)).1 hx1
    have hy2 := (h.cell (by omega)).1 h3
    have hq2 : (fun z => decide (aft (pwI n g 1 at_ z) (pwI n g (l + 1) z first) = pwI n g (l + 2) at_ first)) y = true := by
      simp only [decide_eq_true_eq]
      rw [hx2.1, hy2.1, h0.1]
      unfold aft
      rw [if_neg (by rintro (k | k); exact hx2.2 k; exact hy2.2 k), e]
    cases hf : (List.range n).find? fun z => decide (aft (pwI n g 1 at_ z) (pwI n g (l + 1) z first) = pwI n g (l + 2) at_ first) with
    | none => exact absurd hq2 (List.find?_eq_none.1 hf y (List.mem_range.2 hyn))
    | some q =>
      have hr0 : nextI n g first l at_ = q := by unfold nextI; rw [hf]; rfl
      have hle : q ≤ y := Classical.byContradiction fun hn => by
        have := (List.find?_range_eq_some.1 hf).2.2 y (by omega)
        simp only [Bool.not_eq_true'] at this
        exact absurd (hq2.symm.trans this) (by decide)
      show y :: r = nextI n g first l at_ :: trc n g first l (nextI n g first l at_) ∨ Lx (nextI n g first l at_ :: trc n g first l (nextI n g first l at_)) (y :: r)
      rw [hr0]
      by_cases hqy : q = y
      · subst hqy
        rcases trc_lex h first l q z' r (by omega) hyn h3 hr' h2 with k | k
        · left; rw [← k]
        · right; exact k.cons q
      · right; exact Lx.head (by omega)

theorem leastC_le {P : Nat → Nat → Int} {n : Nat} : ∀ i, i < n → P i i = 0 → leastC P n ≤ i := by
  intro i
  induction i using Nat.strongRecOn with
  | _ i ih =>
    intro hi h0
    by_cases he : ∃ j, j < i ∧ P j j = 0
    · obtain ⟨j, h1, h2⟩ := he
      have := ih j h1 (by omega) h2
      omega
    · rw [leastC_yes hi (fun j hj k => he ⟨j, hj, k⟩) h0]; exact Nat.le_refl _

def cI (c : List Nat) : List Int := c.map fun x => ((x : Nat) : Int)
theorem cI_len (c : List Nat) : (cI c).length = c.length := List.length_map ..
theorem cI_get {c : List Nat} {t : Nat} (h : t < c.length) : (cI c).getD t 0 = ((c.getD t 0 : Nat) : Int) := by
  unfold cI
  simp only [List.getD_eq_getElem?_getD, List.getElem?_map, List.getElem?_eq_getElem h, Option.map_some, Option.getD_some]
/-- A critical cycle. -/
def CritP (n : Nat) (a : Nat → Nat → Int) (p q : Int) (d : List Nat) : Prop := cycP n a (cI d) ∧ wtS a (cI d) d.length * q = p * (d.length : Int)

theorem crit_closed {n : Nat} {a : Nat → Nat → Int} (h : Small n a) {p q : Int} (hq : 0 < q ∧ q ≤ 6) (hp : -(1000 * q) ≤ p ∧ p ≤ 1000 * q) {x : Nat} {r : List Nat} (hc : CritP n a p q (x :: r)) : pathL (DM (gainI a p q)) x (r ++ [x]) = some 0 := by
  obtain ⟨hcy, hw⟩ := hc
  rw [← pathL_wt]
  let P : Nat → Nat := fun t => (x :: (r ++ [x])).getD t 0
  have hlen : (cI (x :: r)).length = r.length + 1 := by rw [cI_len]; rfl
  have hP : ∀ t, t < r.length + 1 → (cI (x :: r)).getD t 0 = ((P t : Nat) : Int) := fun t ht => by
    rw [cI_get (by simpa using ht)]
    congr 1
    show (x :: r).getD t 0 = (x :: (r ++ [x])).getD t 0
    rw [← List.cons_append]
    simp only [List.getD_eq_getElem?_getD]
    rw [List.getElem?_append_left (by simpa using ht)]
  have hP1 : P (r.length + 1) = x := by
    show (x :: (r ++ [x])).getD (r.length + 1) 0 = x
    simp
  have hN : ∀ t, t < r.length + 1 → nx (cI (x :: r)) t = ((P (t + 1) : Nat) : Int) := fun t ht => by
    unfold nx
    rw [hlen]
    by_cases e : t = r.length
    · subst e
      rw [Nat.mod_self, hP 0 (by omega), hP1]; rfl
    · rw [Nat.mod_eq_of_lt (by omega)]; exact hP (t + 1) (by omega)
  have hsum : ∀ t, t ≤ r.length + 1 → wt (DM (gainI a p q)) P t = some (q * wtS a (cI (x :: r)) t - p * (t : Int)) := by
    intro t
    induction t with
    | zero => intro _; simp [wt, wtS]
    | succ t ih =>
      intro ht
      have hk := hcy t (by rw [hlen]; omega)
      obtain ⟨_, _, _, k4⟩ := hk
      have e : arcI a (cI (x :: r)) t = a (P t) (P (t + 1)) := by unfold arcI; rw [hP t (by omega), hN t (by omega)]; simp
      have hg := (h.ga (P t) (P (t + 1))).resolve_left (by rw [← e]; exact k4)
      have hb := mul_bd (a := 6) (b := 1000) (x := q) (y := a (P t) (P (t + 1))) (by omega) hg (by omega) (by omega)
      have hd : DM (gainI a p q) (P t) (P (t + 1)) = some (q * arcI a (cI (x :: r)) t - p) := by
        show dec (gainI a p q (P t) (P (t + 1))) = _
        have e2 : gainI a p q (P t) (P (t + 1)) = q * a (P t) (P (t + 1)) - p := by unfold gainI; rw [if_neg (by rw [← e]; exact k4)]
        rw [e2, e]
        have : Nv = -1099511627776 := rfl
        exact dec_some (by omega)
      show oadd (wt (DM (gainI a p q)) P t) (DM (gainI a p q) (P t) (P (t + 1))) = _
      rw [ih (by omega), hd]
      simp only [oadd, wtS, Int.mul_add, Int.natCast_add, Option.some.injEq]
      simp; omega
  have hl2 : (r ++ [x]).length = r.length + 1 := by simp
  rw [hl2]
  have := hsum (r.length + 1) (Nat.le_refl _)
  rw [show wt (DM (gainI a p q)) (fun t => (x :: (r ++ [x])).getD t 0) (r.length + 1) = _ from this]
  have hw2 : wtS a (cI (x :: r)) (r.length + 1) * q = p * ((r.length + 1 : Nat) : Int) := hw
  rw [Int.mul_comm] at hw2
  rw [hw2, Int.sub_self]
end Go.Cy

end
section
/-
  THE FIRST CRITICAL CYCLE is the first of the critical cycles in their order.
-/
namespace Go.Cy
open Go.Vm

/-- A closed path of weight 0 can begin at each of its nodes. -/
theorem turn_zero {n : Nat} {A : TM} (hs : Sup n A) (hp : NP n A) {P : Nat → Nat} {L t : Nat} (hL : 0 < L) (ht : t ≤ L) (h0 : P 0 < n) (ht0 : P t < n) (hc : P L = P 0) (hw : wt A P L = some 0) : tpow n A L (P t) (P t) = some 0 := by
  have e : wt A P L = oadd (wt A P t) (wt A (fun m => P (t + m)) (L - t)) := by rw [← wt_add]; congr 1; omega
  rw [hw] at e
  obtain ⟨x, y, h1, h2, h3⟩ := add_some.1 e.symm
  obtain ⟨x', a1, a2⟩ := wt_pow (n := n) hs h0 h1
  obtain ⟨y', b1, b2⟩ := wt_pow (n := n) (p := fun m => P (t + m)) hs ht0 h2
  simp only [Nat.add_zero] at b1
  rw [show t + (L - t) = L by omega, hc] at b1
  obtain ⟨w, c1, c2⟩ : ∃ w, tpow n A L (P t) (P t) = some w ∧ y' + x' ≤ w := by
    have := tpow_add (n := n) (A := A) hs (L - t) t
    rw [show L - t + t = L by omega] at this
    rw [this]
    exact mul_ge h0 b1 a1
  have := hp L (P t) hL w c1
  rw [c1, show w = 0 by omega]

theorem Small.first {n : Nat} {a : Nat → Nat → Int} (h : Small n a) {p q : Int} (hm : meanI n a = some (p, q)) : ∃ k c, k < n ∧ critI n (gainI a p q) = cI c ∧ c ∈ extN n (k + 1) ∧ CritP n a p q c ∧ (∀ s d, s < k → d ∈ extN n (s + 1) → ¬ CritP n a p q d) ∧ ∀ d, d ∈ extN n (k + 1) → CritP n a p q d → d = c ∨ Lx c d := by
  have hg := h.gst hm
  have n6 := h.n6
  obtain ⟨_, _, m3, m4, _, _, _⟩ := h.mean hm
  obtain ⟨r1, r2, r3⟩ := h.crit hm
  have hclosed : ∀ x r, CritP n a p q (x :: r) → pathL (DM (gainI a p q)) x (r ++ [x]) = some 0 := fun x r hc => crit_closed h m3 m4 hc
  have hzero : ∀ s x r, r.length = s → x < n → CritP n a p q (x :: r) → pwI n (gainI a p q) (s + 1) x x = 0 ∨ 100 < s := by
    intro s x r hr hx hc
    by_cases hs : 100 < s
    · exact .inr hs
    · obtain ⟨w', h1, h2⟩ := pathL_pow hg.sup hx (hclosed x r hc)
      rw [hr] at h1
      have := hg.np (s + 1) x (by omega) w' h1
      rw [show w' = 0 by omega] at h1
      exact .inl ((hg.cell (by omega)).1 h1).1
  cases hf : (List.range n).find? (hasZ n (gainI a p q)) with
  | none => unfold critI at r2; rw [hf] at r2; cases r2
  | some k =>
    have hk := List.mem_range.1 (List.mem_of_find?_eq_some hf)
    have hmin : ∀ j, j < k → hasZ n (gainI a p q) j = false := by
      have := (List.find?_range_eq_some.1 hf).2.2
      intro j hj; simpa using this j hj
    have hkz := List.find?_some hf
    have hC : critI n (gainI a p q) = cI (critL n (gainI a p q) k) := by unfold critI; rw [hf]; rfl
    rw [hC] at r1 r2 r3
    rw [cI_len] at r2 r3
    have hcr : CritP n a p q (critL n (gainI a p q) k) := ⟨r1, r3⟩
    have hlen : (critL n (gainI a p q) k).length = k + 1 := by unfold critL; simp [trc_len]
    have hii0 : pwI n (gainI a p q) (k + 1) (leastC (pwI n (gainI a p q) (k + 1)) n) (leastC (pwI n (gainI a p q) (k + 1)) n) = 0 := of_decide_eq_true hkz
    have hin : leastC (pwI n (gainI a p q) (k + 1)) n < n := by
      have := (r1 0 (by rw [cI_len, hlen]; omega)).1
      rw [cI_get (by rw [hlen]; omega)] at this
      have e : (critL n (gainI a p q) k).getD 0 0 = leastC (pwI n (gainI a p q) (k + 1)) n := rfl
      rw [e] at this
      unfold inN at this; omega
    have hii : tpow n (DM (gainI a p q)) (k + 1) (leastC (pwI n (gainI a p q) (k + 1)) n) (leastC (pwI n (gainI a p q) (k + 1)) n) = some 0 := (hg.cell (by omega)).2 ⟨hii0, by decide⟩
    have hgetn : ∀ t, t < k + 1 → (critL n (gainI a p q) k).getD t 0 < n := fun t ht => by
      have := (r1 t (by rw [cI_len, hlen]; omega)).1
      rw [cI_get (by rw [hlen]; omega)] at this
      unfold inN at this; omega
    have hdis : ∀ s t, s < t → t < k + 1 → (critL n (gainI a p q) k).getD s 0 ≠ (critL n (gainI a p q) k).getD t 0 := fun s t hs ht e => by
      have := (r1 t (by rw [cI_len, hlen]; omega)).2.2.1 s hs
      rw [cI_get (by rw [hlen]; omega), cI_get (by rw [hlen]; omega), e] at this
      exact this rfl
    have hmem : critL n (gainI a p q) k ∈ extN n (k + 1) := by
      refine (mem_extN k _).2 ⟨hlen, ?_, ?_, ?_⟩
      · rw [List.nodup_iff_pairwise_ne, List.pairwise_iff_getElem]
        intro i j hi hj hij e
        have := hdis i j hij (by omega)
        simp only [List.getD_eq_getElem?_getD, List.getElem?_eq_getElem hi, List.getElem?_eq_getElem hj, Option.getD_some] at this
        exact this e
      · intro x hx
        obtain ⟨i, hi, rfl⟩ := List.mem_iff_getElem.1 hx
        have := hgetn i (by omega)
        simpa [List.getD_eq_getElem?_getD, List.getElem?_eq_getElem hi] using this
      · intro x hx
        obtain ⟨i, hi, rfl⟩ := List.mem_iff_getElem.1 hx
        have hl2 : (critL n (gainI a p q) k).tail.length = k := by rw [List.length_tail, hlen]; rfl
        have h1 := hgetn (i + 1) (by omega)
        have h2 := hdis 0 (i + 1) (by omega) (by omega)
        have e1 : (critL n (gainI a p q) k).getD (i + 1) 0 = (critL n (gainI a p q) k).tail[i] := by
          unfold critL at hi ⊢
          simp only [List.tail_cons] at hi ⊢
          simp [List.getD_eq_getElem?_getD, List.getElem?_eq_getElem hi]
        have e0 : (critL n (gainI a p q) k).getD 0 0 = leastC (pwI n (gainI a p q) (k + 1)) n := rfl
        show leastC (pwI n (gainI a p q) (k + 1)) n < _
        rw [← e1]
        rw [e0] at h2
        have hpath := hclosed _ _ (show CritP n a p q (_ :: trc n (gainI a p q) (leastC (pwI n (gainI a p q) (k + 1)) n) k (leastC (pwI n (gainI a p q) (k + 1)) n)) from hcr)
        rw [← pathL_wt] at hpath
        have hl3 : (trc n (gainI a p q) (leastC (pwI n (gainI a p q) (k + 1)) n) k (leastC (pwI n (gainI a p q) (k + 1)) n) ++ [leastC (pwI n (gainI a p q) (k + 1)) n]).length = k + 1 := by simp [trc_len]
        rw [hl3] at hpath
        have eP : (fun t => (leastC (pwI n (gainI a p q) (k + 1)) n :: (trc n (gainI a p q) (leastC (pwI n (gainI a p q) (k + 1)) n) k (leastC (pwI n (gainI a p q) (k + 1)) n) ++ [leastC (pwI n (gainI a p q) (k + 1)) n])).getD t 0) (i + 1) = (critL n (gainI a p q) k).getD (i + 1) 0 := by
          show (_ :: (_ ++ _)).getD (i + 1) 0 = _
          unfold critL
          simp only [List.getD_eq_getElem?_getD, List.getElem?_cons_succ]
          rw [List.getElem?_append_left (by rw [trc_len]; omega)]
        simp only [] at eP
        have hz := turn_zero hg.sup hg.np (t := i + 1) (by omega) (by omega) hin (by rw [eP]; exact h1) (by
          show (_ :: (_ ++ _)).getD (k + 1) 0 = _
          simp only [List.getD_eq_getElem?_getD, List.getElem?_cons_succ]
          rw [List.getElem?_append_right (by rw [trc_len]; omega), trc_len]; simp) hpath
        rw [eP] at hz
        have := leastC_le _ h1 ((hg.cell (by omega)).1 hz).1
        omega
    refine ⟨k, critL n (gainI a p q) k, hk, hC, hmem, hcr, ?_, ?_⟩
    · intro s d hs hd hc
      obtain ⟨d1, _, d3, _⟩ := (mem_extN s d).1 hd
      cases d with
      | nil => cases d1
      | cons x r =>
        have hx := d3 x (by simp)
        rcases hzero s x r (by simpa using d1) hx hc with k1 | k1
        · have := hasZ_of hx k1
          rw [hmin s hs] at this; cases this
        · omega
    · intro d hd hc
      obtain ⟨d1, _, d3, _⟩ := (mem_extN k d).1 hd
      cases d with
      | nil => cases d1
      | cons x r =>
        have hx := d3 x (by simp)
        have hr : r.length = k := by simpa using d1
        rcases hzero k x r hr hx hc with k1 | k1
        · have hle := leastC_le (P := pwI n (gainI a p q) (k + 1)) x hx k1
          by_cases e : leastC (pwI n (gainI a p q) (k + 1)) n = x
          · have hp := hclosed x r hc
            unfold critL
            rw [e] at hii ⊢
            rcases trc_lex hg x k x 0 r (by omega) hx hii hr hp with k2 | k2
            · left; rw [← k2]
            · right; exact k2.cons x
          · right; exact Lx.head (by omega)
        · omega
end Go.Cy

end
section
/-
  THE GREATEST MEAN FROM ALL CYCLES: it is the mean, and the first cycle that has it is the first critical one.
-/
namespace Go.Cy
open Go.Vm

/-- All cycles in their order. -/
noncomputable def cycsN (n : Nat) (a : Nat → Nat → Int) (m : Nat) : List (List Nat) := (List.range m).flatMap fun s => (extN n (s + 1)).filter fun c => cycB n a (cI c)
theorem mem_cycs {n : Nat} {a : Nat → Nat → Int} {m : Nat} {c : List Nat} : c ∈ cycsN n a m ↔ ∃ s, s < m ∧ c ∈ extN n (s + 1) ∧ cycP n a (cI c) := by
  unfold cycsN
  rw [List.mem_flatMap]
  constructor
  · rintro ⟨s, h1, h2⟩
    obtain ⟨h3, h4⟩ := List.mem_filter.1 h2
    exact ⟨s, List.mem_range.1 h1, h3, (cycB_iff.1 h4).1⟩
  · rintro ⟨s, h1, h2, h3⟩
    exact ⟨s, List.mem_range.2 h1, List.mem_filter.2 ⟨h2, cycB_true h3 (by rw [cI_len, ((mem_extN s c).1 h2).1]; omega)⟩⟩
/-- Shorter, or as long and before. -/
def Bf (c d : List Nat) : Prop := c.length < d.length ∨ c.length = d.length ∧ Lx c d
theorem Bf.asymm (c d : List Nat) (h : Bf c d) (h' : Bf d c) : False := by
  rcases h with h | ⟨h1, h2⟩ <;> rcases h' with k | ⟨k1, k2⟩
  · omega
  · omega
  · omega
  · exact h2.asymm k2
theorem cycs_sorted (n : Nat) (a : Nat → Nat → Int) (m : Nat) : (cycsN n a m).Pairwise Bf := by
  unfold cycsN
  rw [List.pairwise_flatMap]
  refine ⟨fun s _ => ?_, List.pairwise_lt_range.imp fun {s t} hst x hx y hy => ?_⟩
  · refine List.Pairwise.filter _ ?_
    refine (extN_sorted s).imp_of_mem fun {c d} hc hd h => ?_
    exact .inr ⟨by rw [((mem_extN s c).1 hc).1, ((mem_extN s d).1 hd).1], h⟩
  · have h1 := ((mem_extN s x).1 (List.mem_filter.1 hx).1).1
    have h2 := ((mem_extN t y).1 (List.mem_filter.1 hy).1).1
    exact .inl (by omega)

/-- The fold: the first greatest mean. -/
def mStep (a : Nat → Nat → Int) (s : Int × Int × List Nat) (c : List Nat) : Int × Int × List Nat :=
  if s.2.2 = [] ∨ s.1 * (c.length : Int) < wtS a (cI c) c.length * s.2.1 then (wtS a (cI c) c.length, (c.length : Int), c) else s
def mFold (a : Nat → Nat → Int) (l : List (List Nat)) : Int × Int × List Nat := l.foldl (mStep a) (0, 1, [])

theorem lt_frac {w l num den p q : Int} (hq : 0 < q) (hl : 0 < l) (hd : 0 < den) (h1 : w * q = p * l) (h2 : num * q < p * den) : num * l < w * den := by
  refine Classical.byContradiction fun hn => ?_
  have a1 := Int.mul_le_mul_of_nonneg_right (Int.not_lt.1 hn) (Int.le_of_lt hq)
  have a2 := Int.mul_lt_mul_of_pos_right h2 hl
  have e1 : w * den * q = p * den * l := by rw [Int.mul_right_comm, h1, Int.mul_right_comm]
  have e2 : num * l * q = num * q * l := Int.mul_right_comm ..
  omega
theorem le_frac {w l num den p q : Int} (hq : 0 < q) (hl : 0 ≤ l) (hd : 0 < den) (h1 : w * q ≤ p * l) (h2 : num * q = p * den) : ¬ num * l < w * den := by
  intro hn
  have a1 := Int.mul_lt_mul_of_pos_right hn hq
  have a2 := Int.mul_le_mul_of_nonneg_right h1 (Int.le_of_lt hd)
  have e1 : w * den * q = w * q * den := Int.mul_right_comm ..
  have e2 : num * l * q = num * q * l := Int.mul_right_comm ..
  have e3 : num * q * l = p * l * den := by rw [h2, Int.mul_right_comm]
  omega
theorem fold_keep {a : Nat → Nat → Int} {p q : Int} (hq : 0 < q) : ∀ (l : List (List Nat)) (s : Int × Int × List Nat), (∀ c, c ∈ l → wtS a (cI c) c.length * q ≤ p * (c.length : Int)) → s.2.2 ≠ [] → 0 < s.2.1 → s.1 * q = p * s.2.1 → l.foldl (mStep a) s = s
  | [], _, _, _, _, _ => rfl
  | c :: l, s, hl, h1, h2, h3 => by
    have e : mStep a s c = s := by
      unfold mStep
      exact if_neg (by
        rintro (k | k)
        · exact h1 k
        · exact le_frac hq (by omega) h2 (hl c (by simp)) h3 k)
    rw [List.foldl_cons, e]
    exact fold_keep hq l s (fun c hc => hl c (by simp [hc])) h1 h2 h3
theorem fold_crit {a : Nat → Nat → Int} {p q : Int} (hq : 0 < q) {c : List Nat} : ∀ (l : List (List Nat)) (s : Int × Int × List Nat), (∀ c, c ∈ l → c ≠ [] ∧ wtS a (cI c) c.length * q ≤ p * (c.length : Int)) → (s.2.2 = [] ∨ 0 < s.2.1 ∧ s.1 * q < p * s.2.1) → l.find? (fun d => decide (wtS a (cI d) d.length * q = p * (d.length : Int))) = some c → l.foldl (mStep a) s = (wtS a (cI c) c.length, (c.length : Int), c)
  | [], _, _, _, h => by cases h
  | d :: l, s, hl, h1, h => by
    obtain ⟨d0, d1⟩ := hl d (by simp)
    have dl : 0 < d.length := List.length_pos_iff.2 d0
    rw [List.find?_cons] at h
    rw [List.foldl_cons]
    by_cases hd : wtS a (cI d) d.length * q = p * (d.length : Int)
    · rw [decide_eq_true hd] at h
      cases h
      have e : mStep a s c = (wtS a (cI c) c.length, (c.length : Int), c) := by
        unfold mStep
        refine if_pos ?_
        rcases h1 with k | ⟨k1, k2⟩
        · exact .inl k
        · exact .inr (lt_frac hq (by omega) k1 hd k2)
      rw [e]
      exact fold_keep hq l _ (fun c hc => (hl c (by simp [hc])).2) d0 (by simp only; omega) hd
    · rw [decide_eq_false hd] at h
      refine fold_crit hq l _ (fun c hc => hl c (by simp [hc])) ?_ h
      unfold mStep
      split
      · exact .inr ⟨by simp only; omega, by simp only; omega⟩
      · exact h1

theorem Small.cycs_le {n : Nat} {a : Nat → Nat → Int} (h : Small n a) {p q : Int} (hm : meanI n a = some (p, q)) {m : Nat} {c : List Nat} (hc : c ∈ cycsN n a m) : c ≠ [] ∧ wtS a (cI c) c.length * q ≤ p * (c.length : Int) := by
  obtain ⟨s, h1, h2, h3⟩ := mem_cycs.1 hc
  have hl := ((mem_extN s c).1 h2).1
  obtain ⟨hM, _, hq, _⟩ := h.mean hm
  obtain ⟨i, w, k1, k2⟩ := cyc_path h.sup h3 (by rw [cI_len]; omega)
  have k3 := hM.le _ i w (by rw [cI_len]; omega) k1
  rw [cI_len] at k2 k3
  refine ⟨(fun e => by rw [e] at hl; cases hl), ?_⟩
  have k4 := Int.mul_le_mul_of_nonneg_right k2 (Int.le_of_lt hq.1)
  rw [Int.mul_comm w q] at k4
  omega
/-- THE MEAN FROM ALL CYCLES. -/
theorem Small.fold {n : Nat} {a : Nat → Nat → Int} (h : Small n a) {p q : Int} (hm : meanI n a = some (p, q)) : ∃ c, c ≠ [] ∧ c.length ≤ n ∧ mFold a (cycsN n a n) = (wtS a (cI c) c.length, (c.length : Int), c) ∧ critI n (gainI a p q) = cI c ∧ CritP n a p q c := by
  obtain ⟨k, c, hk, e, hmem, hcr, hno, hmin⟩ := h.first hm
  obtain ⟨_, _, hq, _⟩ := h.mean hm
  have hl := ((mem_extN k c).1 hmem).1
  refine ⟨c, (fun e => by rw [e] at hl; cases hl), by omega, ?_, e, hcr⟩
  refine fold_crit hq.1 _ _ (fun d hd => h.cycs_le hm hd) (.inl rfl) ?_
  refine find_first Bf.asymm (cycs_sorted n a n) (mem_cycs.2 ⟨k, hk, hmem, hcr.1⟩) (decide_eq_true hcr.2) fun d hd hd2 => ?_
  obtain ⟨s, h1, h2, h3⟩ := mem_cycs.1 hd
  have hdl := ((mem_extN s d).1 h2).1
  have hdc : CritP n a p q d := ⟨h3, of_decide_eq_true hd2⟩
  rcases Nat.lt_trichotomy s k with hs | hs | hs
  · exact absurd hdc (hno s d hs h2)
  · subst hs
    rcases hmin d h2 hdc with k1 | k1
    · exact .inl k1
    · exact .inr (.inr ⟨by omega, k1⟩)
  · exact .inr (.inl (by omega))
theorem Small.no_cycs {n : Nat} {a : Nat → Nat → Int} (h : Small n a) (hm : meanI n a = Option.none) (m : Nat) : cycsN n a m = [] := by
  cases hc : cycsN n a m with
  | nil => rfl
  | cons c l =>
    obtain ⟨s, h1, h2, h3⟩ := mem_cycs.1 (show c ∈ cycsN n a m by rw [hc]; simp)
    have hl := ((mem_extN s c).1 h2).1
    obtain ⟨i, w, k1, _⟩ := cyc_path h.sup h3 (by rw [cI_len]; omega)
    have := mean_none (by have := h.n1; omega) h.ga (by omega) h.sup (by have := h.n6; omega) hm (cI c).length i (by rw [cI_len]; omega)
    rw [this] at k1; cases k1
end Go.Cy

end
section
/-
  VALUES WITHOUT ADDRESSES: what a cell of one's own, or a slot, stands for may be told in another way.
-/
namespace Go.Vm
open Go.RowKit

theorem Mem.recell {M : Nat → Prop} {W0 w : World} {ι : List Nat} {σ : List VObj} (hm : Mem M W0 ι σ w) {id i : Nat} {ob : VObj} {x : XV} {d : DV} (ho : σ[id]? = some ob) (h2 : ob.mode < 2) (hx : ob.cells[i]? = some x)
    (hd : ∀ v, XRep w ι (Forb M ι σ) v x → DRep w (Forb M ι σ) v d) : Mem M W0 ι (σ.set id ⟨ob.cells.set i (.d d), ob.mode⟩) w ∧ Ext M ι σ w ι (σ.set id ⟨ob.cells.set i (.d d), ob.mode⟩) w := by
  have hlt := (List.getElem?_eq_some_iff.1 ho).1
  have hback : ∀ (j : Nat) (o : VObj), (σ.set id ⟨ob.cells.set i (.d d), ob.mode⟩)[j]? = some o → ∃ o1, σ[j]? = some o1 ∧ o.mode = o1.mode ∧ o.cells.length = o1.cells.length := by
    intro j o h
    by_cases e : id = j
    · subst e
      rw [List.getElem?_set_self hlt] at h
      cases h
      exact ⟨ob, ho, rfl, by simp⟩
    · rw [List.getElem?_set_ne e] at h
      exact ⟨o, h, rfl, rfl⟩
  have hmt : ∀ c, Mut ι (σ.set id ⟨ob.cells.set i (.d d), ob.mode⟩) c → Mut ι σ c := by
    rintro c ⟨j, p, h1, h2, h3⟩
    obtain ⟨o, k1, k2, _⟩ := hback j p h1
    exact ⟨j, o, k1, h2, by rw [← k2]; exact h3⟩
  have hext : Ext M ι σ w ι (σ.set id ⟨ob.cells.set i (.d d), ob.mode⟩) w := ⟨fun _ _ h => h, fun _ _ _ => rfl, Nat.le_refl _, fun c _ h => hmt c h, fun _ _ h => h, fun _ r h => ⟨r, h⟩⟩
  refine ⟨⟨by rw [hm.len]; simp, ?_, fun j o b h1 h2' h3 => by
    by_cases e : id = j
    · subst e
      rw [List.getElem?_set_self hlt] at h1
      cases h1
      simp only at h3; omega
    · rw [List.getElem?_set_ne e] at h1
      exact (hm.spec j o b h1 h2' h3).ext hext rfl, hm.fresh, ?_, hm.below, hm.outer⟩, hext⟩
  · intro j o b h1 h2' h3
    by_cases e : id = j
    · subst e
      rw [List.getElem?_set_self hlt] at h1
      cases h1
      obtain ⟨cur, ty, q1, q2, q3⟩ := hm.objs id ob b ho h2' h2
      refine ⟨cur, ty, q1, by simpa using q2, fun m y hy => ?_⟩
      by_cases em : i = m
      · subst em
        rw [List.getElem?_set_self (List.getElem?_eq_some_iff.1 hx).1] at hy
        cases hy
        obtain ⟨v, kv, kx⟩ := q3 i x hx
        exact ⟨v, kv, (XRep.d (hd v kx)).ext hext⟩
      · rw [List.getElem?_set_ne em] at hy
        obtain ⟨v, kv, kx⟩ := q3 m y hy
        exact ⟨v, kv, kx.ext hext⟩
    · rw [List.getElem?_set_ne e] at h1
      obtain ⟨cur, ty, q1, q2, q3⟩ := hm.objs j o b h1 h2' h3
      exact ⟨cur, ty, q1, q2, fun m y hy => by
        obtain ⟨v, kv, kx⟩ := q3 m y hy
        exact ⟨v, kv, kx.ext hext⟩⟩
  · intro i' j oi oj bi bj hij h1 h2' h3 h4 h5 h6
    obtain ⟨o1, a1, a2, _⟩ := hback i' oi h1
    obtain ⟨o2, b1, b2, _⟩ := hback j oj h2'
    exact hm.apart i' j o1 o2 bi bj hij a1 b1 h3 h4 (by rw [← a2]; exact h5) (by omega)

section
variable {P : Program} {M : Nat → Prop} {W0 : World} {n : Nat} {σ : List VObj} {kn : Kn}
/-- A cell that refers to an object which is only read from here on. -/
theorem KC.ghostC {c : Code} {T : Exit → List VObj → Kn → Prop} (ids : List Nat) (m : Nat) {id i : Nat} {ob : VObj} {x : XV} {d : DV} (ho : (freezeIds σ ids)[id]? = some ob) (h2 : ob.mode < 2) (hx : ob.cells[i]? = some x) (hd : deepen (freezeIds σ ids) m x = some d)
    (h : KC P M W0 n c ((freezeIds σ ids).set id ⟨ob.cells.set i (.d d), ob.mode⟩) kn T) : KC P M W0 n c σ kn T := by
  intro env he C ι a w hF Q hQ
  obtain ⟨f1, f2⟩ := freezeIds_tamed hF.mem ids
  obtain ⟨g1, g2⟩ := f1.recell ho h2 hx fun v hv => deepen_sound f1 m v x d hv hd
  exact h env he C ι a w ⟨g1, fun s => ((hF.env s).ext f2).ext g2, hF.size, (hF.defers.ext f2).ext g2, fun l hl => let ⟨r, hr⟩ := hF.round l hl; (f2.trans g2).loops l r hr⟩ Q fun e ι' s' a' w' hT hFr hE => hQ e ι' s' a' w' hT hFr (f2.trans (g2.trans hE))
/-- A slot that is told in another way. -/
theorem KC.ghostX {c : Code} {T : Exit → List VObj → Kn → Prop} {t : Nat} {x y : XV} (hl : look kn t = some x) (hd : ∀ (w : World) (ι : List Nat) (F : Nat → Prop) (v : Value), XRep w ι F v x → XRep w ι F v y)
    (h : KC P M W0 n c σ (extK (some t) y kn) T) : KC P M W0 n c σ kn T := by
  intro env he C ι a w hF Q hQ
  refine h (putE env (some t) y) (he.ext (some t) y) C ι a w ⟨hF.mem, fun s => ?_, hF.size, hF.defers, hF.round⟩ Q hQ
  have hs := hF.env s
  simp only [putE, upd]
  split
  · rename_i e
    subst e
    have he' : env s = x := he s x hl
    simp only [he'] at hs
    exact hd _ _ _ _ hs
  · exact hs
theorem osl_loose {w : World} {ι : List Nat} {F : Nat → Prop} {v : Value} {id off len k lo : Nat} (h : XRep w ι F v (.osl id off len k lo true)) : XRep w ι F v (.osl id off len k lo false) := by
  cases h with
  | osl hb hl hlo hex hs => exact .osl hb hl hlo (fun h => by cases h) hs
end
theorem resK_tct {P : Program} {σ : List VObj} {kn : Kn} {fn : Func} {a t b c id m md : Nat} (ds : List DV) {y z : XV} (hr : fn.results = #[.tmp b, .cell a t, .tmp c]) (hl : look kn a = some (.optr id 0)) (ho : σ[id]? = some ⟨ds.map .d, md⟩) (h2 : md < 2) (ha : isAggT P t = some true) (hs : sizeT P t = some m) (hm : ds.length = m) (hy : look kn b = some y) (hz : look kn c = some z) :
    resK P fn σ kn = some (.tup [y, .d (.agg ds), z]) := by
  unfold resK
  rw [hr]
  have e : resVarK P σ kn (.cell a t) = some (.d (.agg ds)) := by
    simp only [resVarK, hl, Option.bind_some, opLoad, ho]
    rw [if_neg (fun h => h h2)]
    simp only [takeVar, ha, hs, List.drop_zero]
    rw [if_pos (by simp; omega), List.take_of_length_le (by simp; omega), aggX_d]; rfl
  have e2 : resVarK P σ kn (.tmp b) = some y := hy
  have e3 : resVarK P σ kn (.tmp c) = some z := hz
  simp [e, e2, e3]
end Go.Vm

end
section
/-
  TRANSPOSES: the mean, the powers, the ways and the period are those of the matrix.
-/
namespace Go.Cy
open Go.Vm

/-- Lowest terms are one. -/
theorem low_uniq {p q p' q' : Int} (h1 : 0 < q) (h2 : 0 < q') (g1 : Int.gcd p q = 1) (g2 : Int.gcd p' q' = 1) (e : p * q' = p' * q) : p = p' ∧ q = q' := by
  have e' : p.natAbs * q'.natAbs = p'.natAbs * q.natAbs := by rw [← Int.natAbs_mul, ← Int.natAbs_mul, e]
  have c1 : Nat.Coprime q.natAbs p.natAbs := by rw [Nat.coprime_comm]; exact g1
  have c2 : Nat.Coprime q'.natAbs p'.natAbs := by rw [Nat.coprime_comm]; exact g2
  have d1 : q.natAbs ∣ q'.natAbs := c1.dvd_of_dvd_mul_left ⟨p'.natAbs, by rw [e', Nat.mul_comm]⟩
  have d2 : q'.natAbs ∣ q.natAbs := c2.dvd_of_dvd_mul_left ⟨p.natAbs, by rw [← e', Nat.mul_comm]⟩
  have hqn := Nat.dvd_antisymm d1 d2
  have hq : q = q' := by omega
  subst hq
  exact ⟨Int.eq_of_mul_eq_mul_right (by omega) e, rfl⟩

end Go.Cy
namespace Go.Vm
open Go.RowKit Go.Cy

abbrev oslT (N id : Nat) : XV := .osl id 0 N 1 N false
structure TRows (N : Nat) (g : Nat → Nat → Int) (σ : List VObj) (x : XV) (ids : List Nat) : Prop where
  own : OwnK 1 σ x (ids.map (oslT N))
  row : ∀ k id, ids[k]? = some id → σ[id]? = some (⟨icells ((List.range N).map (g k)), 0⟩ : VObj)
  ne : ∀ id, id ∈ ids → idX x ≠ some id
def rowT (N : Nat) (g : Nat → Int) : DV := .sl ((List.range N).map fun j => DI (g j)) N none
def genT (N : Nat) (g : Nat → Nat → Int) (R : Nat) : DV := .sl ((List.range R).map fun k => rowT N (g k)) R none
section
variable {N : Nat} {g : Nat → Nat → Int} {σ σ1 : List VObj} {x x1 : XV} {ids : List Nat}
theorem TRows.zero : TRows N g σ (.d Dnil) [] := ⟨.nil, fun k id h => by simp at h, fun id h => by simp at h⟩
theorem TRows.lt (h : TRows N g σ x ids) {j : Nat} (hj : j ∈ ids ∨ idX x = some j) : j < σ.length := by
  rcases hj with hj | hj
  · obtain ⟨k, hk⟩ := List.mem_iff_getElem?.1 hj
    exact (List.getElem?_eq_some_iff.1 (h.row k j hk)).1
  · exact h.own.lt hj
theorem TRows.keep (h : TRows N g σ x ids) (hk : ∀ j, j < σ.length → (j ∈ ids ∨ idX x = some j) → σ1[j]? = σ[j]?) : TRows N g σ1 x ids :=
  ⟨h.own.keep fun j hj => hk j (h.lt (.inr hj)) (.inr hj), fun k id hid => by
    have hm := List.mem_of_getElem? hid
    rw [hk id (h.lt (.inl hm)) (.inl hm)]; exact h.row k id hid, h.ne⟩
theorem TRows.push (h : TRows N g σ x ids) {idr : Nat} {b : VObj} (hy : σ[idr]? = some ⟨icells ((List.range N).map (g ids.length)), 0⟩) (hne : idX x ≠ some idr)
    (ho : OwnK 1 σ1 x1 (ids.map (oslT N) ++ [oslT N idr])) (k1 : ∀ j, idX x ≠ some j → j < (σ ++ [b]).length → σ1[j]? = (σ ++ [b])[j]?) (w1 : ∃ j, idX x1 = some j ∧ (σ ++ [b]).length ≤ j) : TRows N g σ1 x1 (ids ++ [idr]) := by
  obtain ⟨j1, e1, l1⟩ := w1
  simp only [List.length_append, List.length_cons, List.length_nil] at l1
  have hlt := (List.getElem?_eq_some_iff.1 hy).1
  have keep : ∀ j, j < σ.length → idX x ≠ some j → σ1[j]? = σ[j]? := fun j hj hx => by
    rw [k1 j hx (by simp; omega), List.getElem?_append_left hj]
  refine ⟨by rw [List.map_append]; exact ho, fun k id hk => ?_, fun id hid => ?_⟩
  · by_cases hk2 : k < ids.length
    · rw [List.getElem?_append_left hk2] at hk
      have hm := List.mem_of_getElem? hk
      rw [keep id (h.lt (.inl hm)) (h.ne id hm)]
      exact h.row k id hk
    · rw [List.getElem?_append_right (by omega)] at hk
      have hk3 : k = ids.length := by
        by_cases e : k - ids.length = 0
        · omega
        · rw [List.getElem?_eq_none (by simp; omega)] at hk; cases hk
      subst hk3
      simp at hk
      subst hk
      rw [keep idr hlt hne]; exact hy
  · rw [e1]
    rcases List.mem_append.1 hid with h3 | h3
    · have := h.lt (.inl h3)
      intro e; cases e; omega
    · simp at h3
      subst h3
      intro e; cases e; omega
theorem TRows.fin (h : TRows N g σ x ids) (h0 : 0 < ids.length) : deepen (freezeAll σ) 5 x = some (genT N g ids.length) := by
  obtain ⟨own, row, ne⟩ := h
  generalize hc : ids.map (oslT N) = cells at own
  cases own with
  | nil => have := congrArg List.length hc; rw [List.length_map, List.length_nil] at this; omega
  | @sl id k cells ho hn =>
    subst hc
    have hk : k = ids.length := by simp at hn; omega
    subst hk
    rw [deepen_osl (ob := ⟨ids.map (oslT N), 1⟩) (by simp [freezeAll, ho]) rfl (by simp), List.drop_zero, List.take_of_length_le (by simp)]
    have key : ∀ (l : List Nat) (m : Nat), (∀ k id, l[k]? = some id → σ[id]? = some (⟨icells ((List.range N).map (g (m + k))), 0⟩ : VObj)) → (l.map (oslT N)).mapM (deepen (freezeAll σ) 4) = some ((List.range' m l.length).map fun k => rowT N (g k)) := by
      intro l
      induction l with
      | nil => intro m _; rfl
      | cons i l ih =>
        intro m hl
        have h1 := hl 0 i rfl
        rw [Nat.add_zero] at h1
        rw [List.map_cons, List.mapM_cons, ih (m + 1) (fun k id hk => by rw [hl (k + 1) id hk, show m + (k + 1) = m + 1 + k by omega])]
        rw [show oslT N i = .osl i 0 N 1 N false from rfl, deepen_cells (k := 2) (R := N) (ds := (List.range N).map fun j => DI (g m j)) (by simp [freezeAll, h1]; rfl) (by simp [icells, Function.comp_def]) (by simp)]
        rfl
    rw [key ids 0 (fun k id hk => by rw [Nat.zero_add]; exact row k id hk)]
    simp [genT, List.range_eq_range']
theorem rowT_ints (f : Nat → Int) : Ints (rowT N f) ((List.range N).map f) := by
  have : Ints (.sl ((List.range N).map fun j => DI (f j)) ((List.range N).map f).length none) ((List.range N).map f) := .sl (by simp) fun i c x hc hx => by
    rw [List.getElem?_map] at hc hx
    cases h : (List.range N)[i]? with
    | none => rw [h] at hc; simp at hc
    | some r => rw [h] at hc hx; simp at hc hx; subst hc hx; rfl
  rw [show ((List.range N).map f).length = N by simp] at this
  exact this
theorem genT_mat {R : Nat} : Mat (genT N g R) (genM R N g) := by
  have : Mat (.sl ((List.range R).map fun k => rowT N (g k)) (genM R N g).length none) (genM R N g) := .sl (by simp [genM]) fun i c x hc hx => by
    rw [genM] at hx
    rw [List.getElem?_map] at hc hx
    cases h : (List.range R)[i]? with
    | none => rw [h] at hc; simp at hc
    | some r => rw [h] at hc hx; simp at hc hx; subst hc hx; exact rowT_ints _
  rw [show (genM R N g).length = R by simp [genM]] at this
  exact this
end
end Go.Vm
namespace Go.Vm
section
variable {P : Program} {σ : List VObj} {kn : Kn} {dst : Option Tmp} {ty : TypeId} {pos : String} {af : Array Edge} {g : Option (Nat × Bool)}
end
end Go.Vm
namespace Go.Cy
open Go.Vm
/-- The greatest of the first powers. -/
def curI (n : Nat) (a : Nat → Nat → Int) : Nat → Nat → Nat → Int
  | 0 => oneI n
  | k + 1 => fun i j => max (curI n a k i j) (pwI n a (k + 1) i j)
theorem cur_good {n : Nat} {a : Nat → Nat → Int} {b : Int} (ha : GoodM b a) (hb : 0 ≤ b) : ∀ k : Nat, GoodM (k * b) (curI n a k)
  | 0 => one_good n (by omega)
  | k + 1 => fun i j => by
    have e : (((k + 1 : Nat) : Int) * b) = (k : Int) * b + b := by rw [Int.natCast_add, Int.add_mul]; simp
    exact max_good ((cur_good ha hb k i j).mono (by omega)) (pw_good ha hb (k + 1) i j)
theorem cur_dec {n : Nat} {a : Nat → Nat → Int} {b : Int} (ha : GoodM b a) (hb : 0 ≤ b) : ∀ {k : Nat}, (k : Int) * b ≤ 1000000000000 → DM (curI n a k) = tsum n (DM a) k
  | 0, _ => one_dec n
  | k + 1, h => by
    have e : (((k + 1 : Nat) : Int) * b) = (k : Int) * b + b := by rw [Int.natCast_add, Int.add_mul]; simp
    have hk : (k : Int) * b ≤ 1000000000000 := by omega
    funext i j
    show dec (max _ _) = omax _ _
    rw [max_dec ((cur_good (n := n) ha hb k i j).ge hk) ((pw_good (n := n) ha hb (k + 1) i j).ge h)]
    congr 1
    · exact congrFun (congrFun (cur_dec ha hb hk) i) j
    · exact congrFun (congrFun (pw_dec ha hb h) i) j
theorem Small.cur_ways {n : Nat} {a : Nat → Nat → Int} (h : Small n a) : curI n a (n - 1) = waysI n a := by
  have := h.n6
  refine DM_inj ?_
  rw [cur_dec h.ga (by omega) (by omega), ways_dec h.ga (by omega) h.sup (by omega) (by omega)]; rfl
end Go.Cy

end
section
/-
  LISTS OF WAYS as deep values; how long they are.
-/
namespace Go.Cy
open Go.Vm Go.RowKit

theorem flat_le {α β : Type} {f : α → List β} {b : Nat} : ∀ (l : List α), (∀ x, x ∈ l → (f x).length ≤ b) → (l.flatMap f).length ≤ l.length * b
  | [], _ => by simp
  | x :: l, h => by
    have h1 := h x (by simp)
    have h2 := flat_le l fun y hy => h y (by simp [hy])
    rw [List.flatMap_cons, List.length_append, List.length_cons, Nat.add_mul]
    omega
theorem extN_len {n : Nat} : ∀ s, (extN n (s + 1)).length ≤ n ^ (s + 1)
  | 0 => by simp [extN]
  | s + 1 => by
    have h := flat_le (b := n) (f := fun w : List Nat => ((List.range' (w.headD 0 + 1) (n - (w.headD 0 + 1))).filter fun j => !w.contains j).map fun j => w ++ [j]) (extN n (s + 1)) fun w _ => by
      rw [List.length_map]
      refine Nat.le_trans (List.length_filter_le _ _) ?_
      rw [List.length_range']; omega
    have h2 := Nat.mul_le_mul_right n (extN_len (n := n) s)
    rw [Nat.pow_succ]
    exact Nat.le_trans h h2
theorem extN_len6 {n s : Nat} (hn : n ≤ 6) (hs : s < 6) : (extN n (s + 1)).length ≤ 46656 := by
  refine Nat.le_trans (extN_len s) (Nat.le_trans (Nat.pow_le_pow_left hn _) ?_)
  exact Nat.pow_le_pow_right (n := 6) (by omega) (show s + 1 ≤ 6 by omega)
theorem cycsN_len {n : Nat} {a : Nat → Nat → Int} {m : Nat} (hn : n ≤ 6) (hm : m ≤ n) : (cycsN n a m).length ≤ 279936 := by
  have h := flat_le (b := 46656) (f := fun s => (extN n (s + 1)).filter fun c => cycB n a (cI c)) (List.range m) fun s hs => by
    have := List.mem_range.1 hs
    exact Nat.le_trans (List.length_filter_le _ _) (extN_len6 hn (by omega))
  rw [List.length_range] at h
  refine Nat.le_trans h ?_
  omega
theorem cycsN_succ (n : Nat) (a : Nat → Nat → Int) (m : Nat) : cycsN n a (m + 1) = cycsN n a m ++ (extN n (m + 1)).filter fun c => cycB n a (cI c) := by
  unfold cycsN
  rw [List.range_succ, List.flatMap_append]
  simp

/-- A way, and a list of ways, as they are read. -/
def wayD (l : List Nat) : DV := .sl (l.map fun x => DI (x : Nat)) l.length (if l.length = 1 then some 1 else none)
theorem wayD_ints (l : List Nat) : Ints (wayD l) (cI l) := by
  have : Ints (.sl (l.map fun x => DI (x : Nat)) (cI l).length (if l.length = 1 then some 1 else none)) (cI l) := .sl (by simp [cI]) fun i c x hc hx => by
    unfold cI at hx
    rw [List.getElem?_map] at hc hx
    cases h : l[i]? with
    | none => rw [h] at hc; simp at hc
    | some r => rw [h] at hc hx; simp at hc hx; subst hc hx; rfl
  rw [cI_len] at this
  exact this
def waysD (L : List (List Nat)) : DV := if L = [] then Dnil else .sl (L.map wayD) L.length none
theorem waysD_vec (L : List (List Nat)) : Vec (fun c k => c = wayD k) (waysD L) L := by
  unfold waysD
  by_cases h : L = []
  · subst h; rw [if_pos rfl]; exact .nil
  · rw [if_neg h]
    exact .sl (by simp) fun i c x hc hx => by
      rw [List.getElem?_map, hx] at hc
      simp at hc; exact hc.symm
abbrev wcells (L : List (List Nat)) : List XV := L.map fun c => .d (wayD c)
theorem wcells_fin {k : Nat} {σ : List VObj} {y : XV} {L : List (List Nat)} (h : OwnK 1 σ y (wcells L)) (hnil : L = [] → y = .d Dnil) : deepen (freezeAll σ) (k + 2) y = some (waysD L) := by
  generalize hc : wcells L = cs at h
  cases h with
  | nil =>
    have := congrArg List.length hc; simp at this; subst this
    rfl
  | @sl id m cs ho hn =>
    have e : m = L.length := by have := congrArg List.length hc; simp at this; omega
    subst e
    by_cases h0 : L = []
    · have := hnil h0; cases this
    · rw [deepen_cells (k := k) (R := L.length) (ds := L.map wayD) (by simp [freezeAll, ho]; rfl) (by rw [← hc]; simp [Function.comp_def]) (by simp)]
      unfold waysD; rw [if_neg h0]; rfl
theorem filt_succ {E : List (List Nat)} {p : List Nat → Bool} {i : Nat} (h : i < E.length) : (E.take (i + 1)).filter p = (E.take i).filter p ++ if p E[i] then [E[i]] else [] := by
  rw [List.take_succ_eq_append_getElem h, List.filter_append]
  congr 1
  rw [List.filter_cons]
  split <;> rfl
end Go.Cy

end
section
/-
  A ROW THAT HAS BEEN APPENDED is told as a value.
-/
namespace Go.Vm
open Go.RowKit

theorem KC.tell {P : Program} {M : Nat → Prop} {W0 : World} {n : Nat} {σ : List VObj} {kn : Kn} {c : Code} {T : Exit → List VObj → Kn → Prop} {x : XV} {cells : List XV} {r L : Nat} {ex : Bool} {ds : List DV}
    (ho : OwnK 1 σ x (cells ++ [.osl r 0 L 1 L ex])) (hr : σ[r]? = some ⟨ds.map .d, 0⟩) (hl : ds.length = L) (hne : idX x ≠ some r)
    (h : ∀ σ2, OwnK 1 σ2 x (cells ++ [.d (.sl ds L (if ex then some L else none))]) → KC P M W0 n c σ2 kn T) : KC P M W0 n c σ kn T := by
  generalize hc : cells ++ [.osl r 0 L 1 L ex] = l at ho
  cases ho with
  | nil => simp at hc
  | @sl id m _ ho hn =>
    subst hc
    have hid : id ≠ r := fun e => hne (by rw [← e]; rfl)
    have e1 : (freezeIds σ [r])[id]? = some ⟨cells ++ [.osl r 0 L 1 L ex], 0⟩ := by rw [freezeIds_not (by simpa using hid)]; exact ho
    have e2 : (freezeIds σ [r])[r]? = some ⟨ds.map .d, 1⟩ := freezeIds_in (by simp) hr
    refine KC.ghostC [r] 5 (id := id) (i := cells.length) (ob := ⟨cells ++ [.osl r 0 L 1 L ex], 0⟩) (x := .osl r 0 L 1 L ex) (d := .sl ds L (if ex then some L else none)) e1 (by simp) (by simp) (deepen_cells (k := 3) e2 rfl hl) (h _ ?_)
    have hlt := (List.getElem?_eq_some_iff.1 e1).1
    have e3 : (cells ++ [XV.osl r 0 L 1 L ex]).set cells.length (XV.d (.sl ds L (if ex then some L else none))) = cells ++ [XV.d (.sl ds L (if ex then some L else none))] := by simp
    rw [e3]
    exact .sl (List.getElem?_set_self hlt) (by simpa using hn)
end Go.Vm

end
section
/-
  Rows of one's own that are written; the star by powers.
-/
namespace Go.Vm
open Go.RowKit Go.Cy
/-- Rows of one's own. -/
structure WN (n : Nat) (σ : List VObj) (oid : Nat) (ids : List Nat) (g : Nat → Nat → Int) : Prop where
  out : σ[oid]? = some ⟨ids.map (oslI n), 0⟩
  len : ids.length = n
  row : ∀ k id, ids[k]? = some id → σ[id]? = some (⟨rowS n g k, 0⟩ : VObj)
  ne : oid ∉ ids
  nd : ∀ k k' id : Nat, ids[k]? = some id → ids[k']? = some id → k = k'
theorem WN.keep {σ σ1 : List VObj} {n oid : Nat} {ids : List Nat} {g : Nat → Nat → Int} (h : WN n σ oid ids g) (hk : ∀ j, j < σ.length → σ1[j]? = σ[j]?) : WN n σ1 oid ids g :=
  ⟨(hk _ (List.getElem?_eq_some_iff.1 h.out).1).trans h.out, h.len, fun k id hid => (hk id (List.getElem?_eq_some_iff.1 (h.row k id hid)).1).trans (h.row k id hid), h.ne, h.nd⟩
theorem WN.push {σ : List VObj} {n oid : Nat} {ids : List Nat} {g : Nat → Nat → Int} (h : WN n σ oid ids g) (τ : List VObj) : WN n (σ ++ τ) oid ids g := h.keep fun _ hj => List.getElem?_append_left hj
theorem WN.id {σ : List VObj} {n oid : Nat} {ids : List Nat} {g : Nat → Nat → Int} (h : WN n σ oid ids g) {r : Nat} (hr : r < n) : ∃ id, ids[r]? = some id ∧ (ids.map (oslI n))[0 + r]? = some (.osl id 0 n 1 n true) ∧ σ[id]? = some ⟨rowS n g r, 0⟩ := by
  have hl : r < ids.length := by rw [h.len]; exact hr
  exact ⟨ids[r], List.getElem?_eq_getElem hl, by rw [Nat.zero_add, List.getElem?_map, List.getElem?_eq_getElem hl]; rfl, h.row r _ (List.getElem?_eq_getElem hl)⟩
theorem WN.put {σ σ1 : List VObj} {n oid : Nat} {ids : List Nat} {g G : Nat → Nat → Int} (h : WN n σ oid ids g) {r j id : Nat} {v : Int} (hid : ids[r]? = some id) (h1 : σ1[id]? = some ⟨(rowS n g r).set (0 + j) (.d (DI v)), 0⟩) (h2 : ∀ i, i ≠ id → σ1[i]? = σ[i]?)
    (hG : ∀ r', r' < n → ∀ j', j' < n → G r' j' = if r' = r ∧ j' = j then v else g r' j') : WN n σ1 oid ids G := by
  have hm := List.mem_of_getElem? hid
  have hr : r < n := by have := (List.getElem?_eq_some_iff.1 hid).1; rw [h.len] at this; exact this
  refine ⟨(h2 oid fun e => h.ne (e ▸ hm)).trans h.out, h.len, fun k id' hk => ?_, h.ne, h.nd⟩
  have hk6 : k < n := by have := (List.getElem?_eq_some_iff.1 hk).1; rw [h.len] at this; exact this
  by_cases e : id' = id
  · subst e
    have := h.nd k r id' hk hid
    subst this
    rw [h1]
    congr 2
    unfold rowS
    refine List.ext_getElem (by simp) fun i h3 h4 => ?_
    simp only [List.length_set, List.length_map, List.length_range] at h3 h4
    rw [List.getElem_set]
    simp only [List.getElem_map, List.getElem_range]
    rw [hG k hr i h3]
    by_cases ek : 0 + j = i
    · rw [if_pos ek, if_pos ⟨rfl, by omega⟩]
    · rw [if_neg ek, if_neg (fun h => ek (by omega))]
  · have hkr : k ≠ r := fun e2 => by subst e2; rw [hk] at hid; exact e (Option.some.inj hid)
    rw [h2 id' e, h.row k id' hk]
    congr 2
    unfold rowS
    refine List.map_congr_left fun i hi => ?_
    rw [hG k hk6 i (by simpa using hi), if_neg (fun h => hkr h.1)]
theorem WN.same {σ : List VObj} {n oid : Nat} {ids : List Nat} {g G : Nat → Nat → Int} (h : WN n σ oid ids g) (e : ∀ r, r < n → ∀ j, j < n → G r j = g r j) : WN n σ oid ids G :=
  ⟨h.out, h.len, fun k id hk => (h.row k id hk).trans (by
    have hk6 : k < n := by have := (List.getElem?_eq_some_iff.1 hk).1; rw [h.len] at this; exact this
    congr 2
    unfold rowS
    refine List.map_congr_left fun j hj => ?_
    rw [e k hk6 j (by simpa using hj)]), h.ne, h.nd⟩
theorem WN.rows {σ : List VObj} {n oid : Nat} {ids : List Nat} {g : Nat → Nat → Int} (h : WN n σ oid ids g) : (ids.map (oslI n)).mapM (deepen (freezeAll σ) 4) = some ((List.range n).map fun k => rowG n (g k)) := by
  have key : ∀ (l : List Nat) (m : Nat), (∀ k id, l[k]? = some id → σ[id]? = some (⟨rowS n g (m + k), 0⟩ : VObj)) → (l.map (oslI n)).mapM (deepen (freezeAll σ) 4) = some ((List.range' m l.length).map fun k => rowG n (g k)) := by
    intro l
    induction l with
    | nil => intro m _; rfl
    | cons i l ih =>
      intro m hl
      have h1 := hl 0 i rfl
      rw [Nat.add_zero] at h1
      rw [List.map_cons, List.mapM_cons, ih (m + 1) (fun k id hk => by rw [hl (k + 1) id hk, show m + (k + 1) = m + 1 + k by omega])]
      rw [show oslI n i = .osl i 0 n 1 n true from rfl, deepen_cells (k := 2) (R := n) (ds := (List.range n).map fun j => DI (g m j)) (by simp [freezeAll, h1]; rfl) (by simp [rowS]) (by simp)]
      rfl
  rw [key ids 0 (fun k id hk => by rw [Nat.zero_add]; exact h.row k id hk), h.len, List.range_eq_range']
theorem WN.fin {σ : List VObj} {n oid : Nat} {ids : List Nat} {g : Nat → Nat → Int} (h : WN n σ oid ids g) (ex : Bool) : deepen (freezeAll σ) 5 (.osl oid 0 n 1 n ex) = some (if ex then genD n n g else genS n g n) := by
  rw [deepen_osl (ob := ⟨ids.map (oslI n), 1⟩) (by simp [freezeAll, h.out]) rfl (by simp [h.len]), List.drop_zero, List.take_of_length_le (by simp [h.len]), h.rows]
  cases ex <;> rfl
theorem RowsI.wn {n : Nat} {g : Nat → Nat → Int} {σ : List VObj} {x : XV} {ids : List Nat} (h : RowsI n g σ x ids) (h0 : 0 < n) (h6 : ids.length = n) (nd : ∀ k k' id : Nat, ids[k]? = some id → ids[k']? = some id → k = k') : ∃ oid, x = .osl oid 0 n 1 n false ∧ WN n σ oid ids g := by
  obtain ⟨own, row, ne⟩ := h
  generalize hc : ids.map (oslI n) = cells at own
  cases own with
  | nil => have := congrArg List.length hc; rw [List.length_map, List.length_nil] at this; omega
  | @sl id k cells ho hn =>
    subst hc
    have hk : k = n := by simp at hn; omega
    subst hk
    exact ⟨id, rfl, ho, h6, row, fun hm => ne id hm rfl, nd⟩
theorem nd_snocN {ids : List Nat} {n : Nat} (h : ∀ k k' id : Nat, ids[k]? = some id → ids[k']? = some id → k = k') (hn : n ∉ ids) : ∀ k k' id : Nat, (ids ++ [n])[k]? = some id → (ids ++ [n])[k']? = some id → k = k' := by
  have key : ∀ k id : Nat, (ids ++ [n])[k]? = some id → ids[k]? = some id ∧ id ∈ ids ∨ k = ids.length ∧ id = n := fun k id hk => by
    by_cases hk2 : k < ids.length
    · rw [List.getElem?_append_left hk2] at hk; exact .inl ⟨hk, List.mem_of_getElem? hk⟩
    · rw [List.getElem?_append_right (by omega)] at hk
      by_cases e : k - ids.length = 0
      · rw [e] at hk
        simp at hk
        exact .inr ⟨by omega, hk.symm⟩
      · rw [List.getElem?_eq_none (by simp; omega)] at hk; cases hk
  intro k k' id hk hk'
  rcases key k id hk with ⟨a, b⟩ | ⟨a, b⟩ <;> rcases key k' id hk' with ⟨c, d⟩ | ⟨c, d⟩
  · exact h k k' id a c
  · subst d; exact absurd b hn
  · subst b; exact absurd d hn
  · omega
theorem WN.keepI {σ σ1 : List VObj} {n oid : Nat} {ids : List Nat} {g : Nat → Nat → Int} (h : WN n σ oid ids g) (hk : ∀ j, (j = oid ∨ j ∈ ids) → σ1[j]? = σ[j]?) : WN n σ1 oid ids g :=
  ⟨(hk _ (.inl rfl)).trans h.out, h.len, fun k id hid => (hk id (.inr (List.mem_of_getElem? hid))).trans (h.row k id hid), h.ne, h.nd⟩
theorem WN.lt {σ : List VObj} {n oid : Nat} {ids : List Nat} {g : Nat → Nat → Int} (h : WN n σ oid ids g) {j : Nat} (hj : j = oid ∨ j ∈ ids) : j < σ.length := by
  rcases hj with rfl | hj
  · exact (List.getElem?_eq_some_iff.1 h.out).1
  · obtain ⟨k, hk⟩ := List.mem_iff_getElem?.1 hj
    exact (List.getElem?_eq_some_iff.1 (h.row k j hk)).1
theorem rowS_get {n r k : Nat} {g : Nat → Nat → Int} (hk : k < n) : (rowS n g r)[0 + k]? = some (.d (DI (g r k))) := by simp [rowS, hk]
section
variable {P : Program} {M : Nat → Prop} {W0 : World} {n : Nat} {σ : List VObj} {kn : Kn}
end
section
variable {P : Program} {n : Nat} {σ : List VObj} {kn : Kn} {dst : Option Tmp} {ty : TypeId} {pos : String} {af : Array Edge} {g : Option (Nat × Bool)}
end
end Go.Vm
namespace Go.Cy
open Go.Vm
/-- Some cells of the next sum. -/
def mixG (n : Nat) (a : Nat → Nat → Int) (k r j : Nat) : Nat → Nat → Int := fun r' j' => if r' < r ∨ (r' = r ∧ j' < j) then curI n a (k + 1) r' j' else curI n a k r' j'
theorem mixG_zero (n : Nat) (a : Nat → Nat → Int) (k r : Nat) (h : r = 0) : ∀ r' j', mixG n a k r 0 r' j' = curI n a k r' j' := fun r' j' => if_neg (by omega)
theorem mixG_row {n : Nat} {a : Nat → Nat → Int} {k r : Nat} : ∀ r', r' < n → ∀ j', j' < n → mixG n a k (r + 1) 0 r' j' = mixG n a k r n r' j' := fun r' _ j' hj => by
  unfold mixG
  by_cases h : r' < r + 1
  · rw [if_pos (by omega), if_pos (by omega)]
  · rw [if_neg (by omega), if_neg (by omega)]
theorem mixG_done {n : Nat} {a : Nat → Nat → Int} {k : Nat} : ∀ r', r' < n → ∀ j', j' < n → curI n a (k + 1) r' j' = mixG n a k n 0 r' j' := fun r' hr j' _ => (if_pos (by omega)).symm
theorem mixG_at {n : Nat} {a : Nat → Nat → Int} {k r j : Nat} : mixG n a k r j r j = curI n a k r j := if_neg (by omega)
theorem mixG_step {n : Nat} {a : Nat → Nat → Int} {k r j : Nat} {v : Int} (hv : v = max (curI n a k r j) (pwI n a (k + 1) r j)) : ∀ r', r' < n → ∀ j', j' < n → mixG n a k r (j + 1) r' j' = if r' = r ∧ j' = j then v else mixG n a k r j r' j' := fun r' _ j' _ => by
  subst hv
  unfold mixG
  by_cases e : r' = r ∧ j' = j
  · obtain ⟨rfl, rfl⟩ := e
    rw [if_pos (by omega), if_pos (show r' = r' ∧ j' = j' from ⟨rfl, rfl⟩)]; rfl
  · rw [if_neg e]
    by_cases h : r' < r ∨ (r' = r ∧ j' < j)
    · rw [if_pos (by omega), if_pos h]
    · rw [if_neg (by omega), if_neg h]
end Go.Cy

end
section
/-
  VALUES WITHOUT ADDRESSES, 33: a loop over a function: its record as an object, one round, the statement; lists of operations whose calls are known by a relation.
-/
namespace Go.Vm
open Go.RowKit

section
variable {P : Program} {M : Nat → Prop} {W0 w : World} {ι : List Nat} {σ : List VObj}

end
end Go.Vm

end
section
/-
  VALUES WITHOUT ADDRESSES, 34: operations whose result is known by a relation; iterators; a walk through a loop over a function.
-/
namespace Go.Vm
open Go.RowKit

section
variable {P : Program} {M : Nat → Prop} {W0 : World} {n : Nat} {ops : Array Oper} {l : List Oper} {o : Oper} {σ σ' : List VObj} {kn : Kn}

/-- A call of yield whose result is known by a relation. -/
theorem WpL.yld {s : St} {T : St → Prop} {callee : Operand} {args : Array Operand} {ts : Array TypeId} {id : Nat} {Q : List VObj → Bool → Prop} (hg : guardX ops s.env o = some true)
    (ho : o.op = .call ⟨.value callee, args, ts⟩) (hv : evalX s.env callee = .yl id) (_ : id < s.σ.length) (hc : InRound P M W0 id s.σ (args.toList.map (evalX s.env)) Q)
    (hd : dstOk n o.dst = true) (h : ∀ σ' b, Q σ' b → WpL P M W0 n ops l ⟨σ', putE s.env o.dst (.d (.lit (.bool b)))⟩ T) : WpL P M W0 n ops (o :: l) s T := by
  intro C ι a w hfr R hq
  unfold wpListIn
  rw [if_pos (by rw [guardX_sound hfr.env hg])]
  have e1 := evalX_rep hfr.env callee
  rw [hv] at e1
  generalize hcv : a.eval callee = cv at e1
  cases e1 with
  | yl hb =>
    rename_i lb
    obtain ⟨a1, a2⟩ := args_rep (args := args) (vs := #[]) (us := #[]) (first := []) (caps := []) hfr.env rfl rfl (by simp) (by simp)
    obtain ⟨fn, tmps, assign, body, k1, k2⟩ := hc ι w lb (args.map a.eval).toList hfr.mem hb (by simp) (fun i v x h1 h2 => a2 i v x (by simpa using h1) (by simpa using h2))
    rw [Array.toArray_toList] at k1
    have hrun : (execOp a.eval o).run P w = .ok (.round lb fn tmps assign body) w := by
      simp [execOp, ho, resolve, hcv, Deferred.ofValue, invoke, k1]
    refine ⟨fun _ _ => trivial, ?_⟩
    rw [semAt_of hrun (by simp)]
    refine ⟨fun h => Bool.noConfusion (show false = true from h), ?_⟩
    refine RoundIn.mono (show RoundIn (FR C.ro) 0 P lb fn tmps assign body w _ from k2) fun e w' => ?_
    rintro ⟨ι', σ', b, rfl, h1, h2, h3⟩
    exact h σ' b h3 C ι' _ w' (hfr.put hd h1 h2 (.d (.lit _))) R fun ι'' s' a' w'' q1 q2 q3 => hq ι'' s' a' w'' q1 q2 (h2.trans q3)

/-- A list of operations, the results known by relations. -/
def KL (P : Program) (M : Nat → Prop) (W0 : World) (n : Nat) (ops : Array Oper) (l : List Oper) (σ : List VObj) (kn : Kn) (T : List VObj → Kn → Prop) : Prop :=
  ∀ env, Agree kn env → WpL P M W0 n ops l ⟨σ, env⟩ (fun s => ∃ kn', Agree kn' s.env ∧ T s.σ kn')

theorem KL.nil {T : List VObj → Kn → Prop} (h : T σ kn) : KL P M W0 n ops [] σ kn T := fun _ he => .nil ⟨kn, he, h⟩

theorem KL.step {T : List VObj → Kn → Prop} {x : XV} {fl : Nat} (hg : guardK ops kn o = some true) (hd : dstOk n o.dst = true) (he : KEv P o σ kn x σ' fl)
    (h : KL P M W0 n ops l σ' (extK o.dst x kn) T) : KL P M W0 n ops (o :: l) σ kn T :=
  fun env ha => .step (s := ⟨σ, env⟩) (guardK_X ha hg) (he env ha) hd (h _ (ha.ext o.dst x))

theorem KL.skip {T : List VObj → Kn → Prop} (hg : guardK ops kn o = some false) (hd : dstOk n o.dst = true) (h : KL P M W0 n ops l σ (extK o.dst undefX kn) T) : KL P M W0 n ops (o :: l) σ kn T :=
  fun env ha => .skip (s := ⟨σ, env⟩) (guardK_X ha hg) hd (h _ (ha.ext o.dst undefX))

/-- A call among the caller's objects, known by a relation. -/
theorem KL.call {T : List VObj → Kn → Prop} {c : Operand} {v : XV} {args : Array Operand} {ts : Array TypeId} {f : FuncId} {first caps xs : List XV} {R : List VObj → XV → Prop} {dst : Option Tmp} {ty : TypeId} {pos : String} {af : Array Edge} {g : Option (Nat × Bool)}
    (hg : guardK ops kn ⟨dst, .call ⟨.value c, args, ts⟩, ty, pos, af, g⟩ = some true) (hd : dstOk n dst = true) (hv : evK kn c = some v) (hf : asFn v = some (f, first, caps)) (ha : args.toList.mapM (evK kn) = some xs) (hp : plainFn P f = true)
    (hc : InCall P M W0 f σ (first ++ xs ++ caps) R) (h : ∀ σ' x, R σ' x → KL P M W0 n ops l σ' (extK dst x kn) T) : KL P M W0 n ops (⟨dst, .call ⟨.value c, args, ts⟩, ty, pos, af, g⟩ :: l) σ kn T :=
  fun env he => .inl (s := ⟨σ, env⟩) (guardK_X he hg) rfl (by show asFn (evalX env c) = _; rw [evK_evalX he hv]; exact hf) hp (by show InCall P M W0 f σ (first ++ args.toList.map (evalX env) ++ caps) R; rw [mapM_evK he ha]; exact hc) hd
    (fun σ' x hr => h σ' x hr _ (he.ext dst x))

/-- A call of yield, known by a relation. -/
theorem KL.yld {T : List VObj → Kn → Prop} {c : Operand} {id : Nat} {args : Array Operand} {ts : Array TypeId} {xs : List XV} {Q : List VObj → Bool → Prop} {dst : Option Tmp} {ty : TypeId} {pos : String} {af : Array Edge} {g : Option (Nat × Bool)}
    (hg : guardK ops kn ⟨dst, .call ⟨.value c, args, ts⟩, ty, pos, af, g⟩ = some true) (hd : dstOk n dst = true) (hv : evK kn c = some (.yl id)) (hid : id < σ.length) (ha : args.toList.mapM (evK kn) = some xs)
    (hc : InRound P M W0 id σ xs Q) (h : ∀ σ' b, Q σ' b → KL P M W0 n ops l σ' (extK dst (.d (.lit (.bool b))) kn) T) : KL P M W0 n ops (⟨dst, .call ⟨.value c, args, ts⟩, ty, pos, af, g⟩ :: l) σ kn T :=
  fun env he => .yld (s := ⟨σ, env⟩) (guardK_X he hg) rfl (evK_evalX he hv) hid (by show InRound P M W0 id σ (args.toList.map (evalX env)) Q; rw [mapM_evK he ha]; exact hc) hd
    (fun σ' b hr => h σ' b hr _ (he.ext dst _))

theorem KC.regionL {id : Nat} {T : Exit → List VObj → Kn → Prop} (h : KL P M W0 n ops ops.toList σ kn (T .normal)) : KC P M W0 n (.region id ops false) σ kn T :=
  fun env he => .region ((h env he).mono fun _ ⟨k, h1, h2⟩ => ⟨k, h1, h2⟩)

/-- A body's walk gives what the call does among the caller's objects, known by a relation. -/
theorem inCall_K {f : FuncId} {fn : Func} {c : Code} {args : List XV} {R : List VObj → XV → Prop} (hf : P.funcs[f]? = some fn) (hb : fn.body = some c) (hn : args.length ≤ fn.ntmps)
    (h : KC P M W0 fn.ntmps c σ (enterK 0 args) (fun e σ2 kn => (e = .ret ∨ e = .normal) ∧ ∃ x, resK P fn σ2 kn = some x ∧ R σ2 x)) : InCall P M W0 f σ args R :=
  inCall_of hf hb hn ((h _ (agree_enter σ args)).mono fun _ _ ⟨_, h1, h2, x, h3, h4⟩ => ⟨h2, x, resK_X h1 h3, h4⟩)

end
end Go.Vm

end
section
/-
  The least critical node is the least beginning of a critical cycle; which nodes reach which is a matter of where arcs are.
-/
namespace Go.Cy
open Go.Vm
theorem oadd_none {x y : O} : oadd x y = none ↔ x = none ∨ y = none := by
  cases x <;> cases y <;> simp [oadd]
theorem supp_pow {n : Nat} {A B : TM} (h : ∀ i j, A i j = none ↔ B i j = none) : ∀ k i j, tpow n A k i j = none ↔ tpow n B k i j = none
  | 0, _, _ => Iff.rfl
  | k + 1, i, j => by
    show tmul n (tpow n A k) A i j = none ↔ tmul n (tpow n B k) B i j = none
    unfold tmul
    rw [sup_none, sup_none]
    refine forall_congr' fun l => forall_congr' fun _ => ?_
    rw [oadd_none, oadd_none, supp_pow h k i l, h l j]
theorem tsum_none {n : Nat} {A : TM} {i j k : Nat} : tsum n A k i j = none ↔ ∀ m, m ≤ k → tpow n A m i j = none := by
  constructor
  · intro h m hm
    cases hw : tpow n A m i j with
    | none => rfl
    | some w =>
      have h1 : Ub (tsum n A k i j) (w - 1) := fun x hx => by rw [h] at hx; cases hx
      have := (ub_tsum (k := k)).1 h1 m hm w hw
      omega
  · intro h
    cases hw : tsum n A k i j with
    | none => rfl
    | some w =>
      obtain ⟨m, hm, e⟩ := tsum_some hw
      rw [h m hm] at e; cases e
/-- A matrix with 0 for every arc. -/
def flI (a : Nat → Nat → Int) (i j : Nat) : Int := if a i j = Nv then Nv else 0
theorem flI_good (a : Nat → Nat → Int) : GoodM 0 (flI a) := fun i j => by
  unfold flI; split
  · exact .inl rfl
  · exact .inr ⟨by omega, by omega⟩
theorem dec_none {x : Int} : dec x = none ↔ x = Nv := by
  unfold dec; split
  · simp [*]
  · simp [*]
theorem conn_iff {n : Nat} {a : Nat → Nat → Int} (h : Small n a) {p q : Int} (hm : meanI n a = some (p, q)) (i j : Nat) : curI n (flI a) (n - 1) i j = Nv ↔ waysI n (gainI a p q) i j = Nv := by
  have hg := h.gst hm
  have e1 : DM (curI n (flI a) (n - 1)) = tsum n (DM (flI a)) (n - 1) := cur_dec (flI_good a) (by omega) (by omega)
  have e2 : DM (waysI n (gainI a p q)) = tsum n (DM (gainI a p q)) (n - 1) := hg.ways
  rw [← dec_none, ← dec_none]
  show DM (curI n (flI a) (n - 1)) i j = none ↔ DM (waysI n (gainI a p q)) i j = none
  rw [e1, e2, tsum_none, tsum_none]
  have hs : ∀ i j, DM (flI a) i j = none ↔ DM (gainI a p q) i j = none := fun i j => by
    obtain ⟨_, _, _, _, _, h6, _⟩ := h.mean hm
    rw [h6]
    unfold gain
    rw [Option.map_eq_none_iff]
    show dec (flI a i j) = none ↔ dec (a i j) = none
    rw [dec_none, dec_none]
    unfold flI
    constructor
    · intro e
      by_cases h : a i j = Nv
      · exact h
      · rw [if_neg h] at e; exact absurd e (by decide)
    · intro e; rw [if_pos e]
  exact forall_congr' fun m => forall_congr' fun _ => supp_pow hs m i j
theorem crit_walk {n : Nat} {A : TM} (hs : Sup n A) (hp : NP n A) {c : Nat} (h : Crit n A c) : ∃ L, 0 < L ∧ tpow n A L c c = some 0 := by
  unfold Crit at h
  obtain ⟨l, x, y, hl, hx, hy, e⟩ := mul_some h
  obtain ⟨m, hm⟩ := star_some hy
  obtain ⟨w, h1, h2⟩ := mul_ge (n := n) (A := tpow n A 1) (B := tpow n A m) (k := l) hl (by rw [tpow_one hs]; exact hx) hm
  rw [← tpow_add hs 1 m] at h1
  have := hp (1 + m) c (by omega) w h1
  exact ⟨1 + m, by omega, by rw [h1]; congr 1; omega⟩
theorem GSt.key {n : Nat} {g : Nat → Nat → Int} (h : GSt n g) (i : Nat) : Crit n (DM g) i ↔ prodI n g (waysI n g) i i = 0 := by
  unfold Crit
  rw [← h.prod]
  show dec _ = some 0 ↔ _
  constructor
  · intro e
    unfold dec at e
    split at e
    · cases e
    · simpa using e
  · intro e; rw [e]; exact dec_some (by decide)
theorem least_nat {p : Nat → Prop} {L : Nat} (h : p L) : ∃ k, p k ∧ ∀ j, j < k → ¬ p j := by
  induction L using Nat.strongRecOn with
  | _ L ih =>
    by_cases hx : ∃ j, j < L ∧ p j
    · obtain ⟨j, hj, hpj⟩ := hx
      exact ih j hj hpj
    · exact ⟨L, h, fun j hj hpj => hx ⟨j, hj, hpj⟩⟩
/-- A critical cycle begins with the least critical node. -/
theorem Small.crit_at {n : Nat} {a : Nat → Nat → Int} (h : Small n a) {p q : Int} (hm : meanI n a = some (p, q)) :
    ∃ k c, k < n ∧ c ∈ extN n (k + 1) ∧ CritP n a p q c ∧ c.headD 0 = leastC (prodI n (gainI a p q) (waysI n (gainI a p q))) n := by
  have hg := h.gst hm
  have n6 := h.n6
  obtain ⟨hin, hcr⟩ := hg.crit
  generalize hi : leastC (prodI n (gainI a p q) (waysI n (gainI a p q))) n = i at *
  have hleast : ∀ j, j < n → Crit n (DM (gainI a p q)) j → i ≤ j := fun j hj hc => by
    rw [← hi]; exact leastC_le j hj ((hg.key j).1 hc)
  generalize hG : gainI a p q = g at *
  obtain ⟨L0, hL0, hw0⟩ := crit_walk hg.sup hg.np hcr
  obtain ⟨L, ⟨hL, hw⟩, hmin⟩ := least_nat (p := fun L => 0 < L ∧ tpow n (DM g) L i i = some 0) ⟨hL0, hw0⟩
  obtain ⟨k, rfl⟩ : ∃ k, L = k + 1 := ⟨L - 1, by omega⟩
  obtain ⟨P, hP0, hPk, hP, hPn⟩ := pow_wt hg.sup hw
  have hdif : ∀ s t, s < t → t ≤ k → P s ≠ P t := by
    intro s t hst htk he
    obtain ⟨w1, w2, c1, c2, b1, _, _, b4, b5⟩ := cut_path hg.sup hst (show t ≤ k + 1 by omega) he hP hPn
    have u1 := hg.np (t - s) (P s) (by omega) c1 b4
    rw [hP0, hPk] at b5
    have u2 := hg.np (k + 1 - (t - s)) i (by omega) c2 b5
    exact hmin (k + 1 - (t - s)) (by omega) ⟨by omega, by rw [b5]; congr 1; omega⟩
  have hkn : k < n := by
    refine Classical.byContradiction fun hk => ?_
    obtain ⟨s, t, a1, a2, a3⟩ := pigeon n P fun m hm => hPn m (by omega)
    exact hdif s t a1 (by omega) a3
  have harc : ∀ t, t ≤ k → ∃ x, DM g (P t) (P (t + 1)) = some x := by
    intro t ht
    have e : wt (DM g) P (k + 1) = oadd (wt (DM g) P (t + 1)) (wt (DM g) (fun m => P (t + 1 + m)) (k - t)) := by rw [← wt_add]; congr 1; omega
    rw [hP] at e
    obtain ⟨x, _, h1, _, _⟩ := add_some.1 e.symm
    obtain ⟨_, y, _, h3, _⟩ := add_some.1 (show oadd (wt (DM g) P t) (DM g (P t) (P (t + 1))) = some x from h1)
    exact ⟨y, h3⟩
  have hga : ∀ x y z, DM g x y = some z → a x y ≠ Nv ∧ z = q * a x y - p := by
    intro x y z hz
    rw [← hG] at hz
    have hz' : dec (gainI a p q x y) = some z := hz
    unfold gainI dec at hz'
    by_cases e : a x y = Nv
    · rw [if_pos e, if_pos rfl] at hz'; cases hz'
    · rw [if_neg e] at hz'
      refine ⟨e, ?_⟩
      split at hz'
      · cases hz'
      · cases hz'; rfl
  have hlen : ((List.range (k + 1)).map P).length = k + 1 := by simp
  have hget : ∀ t, t ≤ k → (cI ((List.range (k + 1)).map P)).getD t 0 = (P t : Int) := by
    intro t ht
    rw [cI_get (by rw [hlen]; omega), List.getD_eq_getElem?_getD, List.getElem?_map, List.getElem?_range (by omega)]; rfl
  have hnx : ∀ t, t ≤ k → nx (cI ((List.range (k + 1)).map P)) t = (P (t + 1) : Int) := by
    intro t ht
    unfold nx
    rw [cI_len, hlen]
    by_cases e : t = k
    · subst e; rw [Nat.mod_self, hget 0 (by omega), hPk, hP0]
    · rw [Nat.mod_eq_of_lt (by omega), hget (t + 1) (by omega)]
  have harcI : ∀ t, t ≤ k → arcI a (cI ((List.range (k + 1)).map P)) t = a (P t) (P (t + 1)) := by
    intro t ht; unfold arcI; rw [hget t ht, hnx t ht]; simp
  have hsum : ∀ t, t ≤ k + 1 → wt (DM g) P t = some (q * wtS a (cI ((List.range (k + 1)).map P)) t - p * (t : Int)) := by
    intro t
    induction t with
    | zero => intro _; simp [wt, wtS]
    | succ t ih =>
      intro ht
      show oadd (wt (DM g) P t) (DM g (P t) (P (t + 1))) = _
      obtain ⟨x, hx⟩ := harc t (by omega)
      obtain ⟨_, e2⟩ := hga _ _ x hx
      rw [ih (by omega), hx, e2]
      simp only [oadd, wtS, harcI t (by omega), Int.mul_add, Int.natCast_add, Option.some.injEq]
      simp; omega
  have hcyc : cycP n a (cI ((List.range (k + 1)).map P)) := fun t ht => by
    rw [cI_len, hlen] at ht
    refine ⟨?_, ?_, ?_, ?_⟩
    · rw [hget t (by omega)]; have := hPn t (by omega); exact ⟨by omega, by omega⟩
    · rw [hnx t (by omega)]; have := hPn (t + 1) (by omega); exact ⟨by omega, by omega⟩
    · intro s hs
      rw [hget s (by omega), hget t (by omega)]
      have := hdif s t hs (by omega); omega
    · rw [harcI t (by omega)]
      obtain ⟨x, hx⟩ := harc t (by omega)
      exact (hga _ _ x hx).1
  have hwt : wtS a (cI ((List.range (k + 1)).map P)) ((List.range (k + 1)).map P).length * q = p * (((List.range (k + 1)).map P).length : Int) := by
    have := hsum (k + 1) (Nat.le_refl _)
    rw [hP] at this
    rw [hlen]
    have h2 : (0 : Int) = q * wtS a (cI ((List.range (k + 1)).map P)) (k + 1) - p * ((k + 1 : Nat) : Int) := by simpa using this
    rw [Int.mul_comm]; omega
  refine ⟨k, (List.range (k + 1)).map P, hkn, (mem_extN k _).2 ⟨hlen, ?_, ?_, ?_⟩, ⟨hcyc, hwt⟩, by rw [List.range_succ_eq_map]; exact hP0⟩
  · rw [List.nodup_iff_pairwise_ne, List.pairwise_iff_getElem]
    intro s t hs ht hst e
    rw [hlen] at hs ht
    simp only [List.getElem_map, List.getElem_range] at e
    exact hdif s t hst (by omega) e
  · intro x hx
    obtain ⟨t, ht, rfl⟩ := List.mem_map.1 hx
    have := List.mem_range.1 ht
    exact hPn t (by omega)
  · intro x hx
    have e : ((List.range (k + 1)).map P).headD 0 = i := by rw [List.range_succ_eq_map]; exact hP0
    rw [e]
    have ht' : ∃ t, 0 < t ∧ t ≤ k ∧ P t = x := by
      rw [List.range_succ_eq_map, List.map_cons, List.tail_cons, List.map_map] at hx
      obtain ⟨t, ht, rfl⟩ := List.mem_map.1 hx
      have := List.mem_range.1 ht
      exact ⟨t + 1, by omega, by omega, rfl⟩
    obtain ⟨t, t0, tk, rfl⟩ := ht'
    have hz := turn_zero hg.sup hg.np (P := P) (L := k + 1) (t := t) (by omega) (by omega) (hPn 0 (by omega)) (hPn t (by omega)) (by rw [hPk, hP0]) hP
    have h1 := hleast (P t) (hPn t (by omega)) (crit_of hg.sup hg.np (by omega) hz)
    have h2 := hdif 0 t t0 tk
    rw [hP0] at h2
    omega
/-- The critical cycles of a matrix. -/
noncomputable def crN (n : Nat) (a : Nat → Nat → Int) (p q : Int) : List (List Nat) := (cycsN n a n).filter fun c => decide (wtS a (cI c) c.length * q = p * (c.length : Int))
def minH (l : List (List Nat)) (m : Nat) : Nat := l.foldl (fun m c => min m (c.headD 0)) m
theorem minH_le : ∀ (l : List (List Nat)) (m C : Nat), C ≤ minH l m ↔ C ≤ m ∧ ∀ c ∈ l, C ≤ c.headD 0
  | [], m, C => by simp [minH]
  | c :: l, m, C => by
    have := minH_le l (min m (c.headD 0)) C
    show C ≤ minH l (min m (c.headD 0)) ↔ _
    rw [this]
    constructor
    · rintro ⟨h1, h2⟩
      refine ⟨by omega, fun d hd => ?_⟩
      rcases List.mem_cons.1 hd with rfl | hd
      · omega
      · exact h2 d hd
    · rintro ⟨h1, h2⟩
      have := h2 c (.head _)
      exact ⟨by omega, fun d hd => h2 d (.tail _ hd)⟩
theorem Small.least {n : Nat} {a : Nat → Nat → Int} (h : Small n a) {p q : Int} (hm : meanI n a = some (p, q)) : minH (crN n a p q) n = leastC (prodI n (gainI a p q) (waysI n (gainI a p q))) n := by
  have hg := h.gst hm
  obtain ⟨_, _, m3, m4, _, _, _⟩ := h.mean hm
  obtain ⟨hin, _⟩ := hg.crit
  refine Nat.le_antisymm ?_ ((minH_le _ _ _).2 ⟨by omega, fun c hc => ?_⟩)
  · obtain ⟨k, c, hk, hmem, hcp, hh⟩ := h.crit_at hm
    have hc : c ∈ crN n a p q := List.mem_filter.2 ⟨mem_cycs.2 ⟨k, hk, hmem, hcp.1⟩, decide_eq_true hcp.2⟩
    have := ((minH_le (crN n a p q) n _).1 (Nat.le_refl _)).2 c hc
    rw [hh] at this; exact this
  · obtain ⟨h1, h2⟩ := List.mem_filter.1 hc
    obtain ⟨s, hs, hmem, hcyc⟩ := mem_cycs.1 h1
    obtain ⟨hlen, _, hlt, _⟩ := (mem_extN s c).1 hmem
    cases c with
    | nil => simp at hlen
    | cons x r =>
      have hcl := crit_closed h m3 m4 (x := x) (r := r) ⟨hcyc, of_decide_eq_true h2⟩
      have hx := hlt x (.head _)
      obtain ⟨w', g1, g2⟩ := pathL_pow hg.sup hx hcl
      have g3 := hg.np (r.length + 1) x (by omega) w' g1
      rw [show w' = 0 by omega] at g1
      exact leastC_le x hx ((hg.key x).1 (crit_of hg.sup hg.np (by omega) g1))
end Go.Cy

end
