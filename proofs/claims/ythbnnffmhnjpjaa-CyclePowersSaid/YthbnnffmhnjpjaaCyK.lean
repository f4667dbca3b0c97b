/-
  KARP'S THEOREM on greatest means of cycles, without any program.
-/
import Derived.Test.YthbnnffmhnjpjaaCyP
namespace Go.Cy

/-- Two of n + 1 nodes below n are equal. -/
theorem pigeon : ∀ (n : Nat) (p : Nat → Nat), (∀ m, m ≤ n → p m < n) → ∃ s t, s < t ∧ t ≤ n ∧ p s = p t
  | 0, p, h => absurd (h 0 (Nat.le_refl _)) (by omega)
  | n + 1, p, h => by
    by_cases he : ∃ s, s < n + 1 ∧ p s = p (n + 1)
    · obtain ⟨s, h1, h2⟩ := he; exact ⟨s, n + 1, h1, Nat.le_refl _, h2⟩
    · have hne : ∀ s, s < n + 1 → p s ≠ p (n + 1) := fun s hs e => he ⟨s, hs, e⟩
      obtain ⟨s, t, h1, h2, h3⟩ := pigeon n (fun m => if p m = n then p (n + 1) else p m) fun m hm => by
        have a1 := h m (by omega)
        have a2 := h (n + 1) (Nat.le_refl _)
        have a3 := hne m (by omega)
        split <;> omega
      refine ⟨s, t, h1, by omega, ?_⟩
      have a1 := hne s (by omega)
      have a2 := hne t (by omega)
      split at h3 <;> split at h3 <;> omega

/-- The weight of the first k arcs of a path. -/
def wt (A : TM) (p : Nat → Nat) : Nat → O
  | 0 => some 0
  | k + 1 => oadd (wt A p k) (A (p k) (p (k + 1)))

theorem oadd_assoc (a b c : O) : oadd (oadd a b) c = oadd a (oadd b c) := by
  cases a <;> cases b <;> cases c <;> simp [oadd, Int.add_assoc]

theorem wt_add {A : TM} {p : Nat → Nat} (s : Nat) : ∀ d, wt A p (s + d) = oadd (wt A p s) (wt A (fun m => p (s + m)) d)
  | 0 => (add_zero _).symm
  | d + 1 => by
    show oadd (wt A p (s + d)) _ = _
    rw [wt_add s d, oadd_assoc]; rfl
theorem wt_congr {A : TM} {p q : Nat → Nat} : ∀ {k : Nat}, (∀ m, m ≤ k → p m = q m) → wt A p k = wt A q k
  | 0, _ => rfl
  | k + 1, h => by
    show oadd _ _ = oadd _ _
    rw [wt_congr (k := k) fun m hm => h m (by omega), h k (by omega), h (k + 1) (Nat.le_refl _)]

theorem wt_pow {n : Nat} {A : TM} {p : Nat → Nat} (hs : Sup n A) (h0 : p 0 < n) : ∀ {k : Nat} {w : Int}, wt A p k = some w → ∃ w', tpow n A k (p 0) (p k) = some w' ∧ w ≤ w'
  | 0, w, h => by cases h; exact ⟨0, by show tone n _ _ = _; unfold tone; rw [if_pos ⟨rfl, h0⟩], Int.le_refl _⟩
  | k + 1, w, h => by
    obtain ⟨x, y, hx, hy, rfl⟩ := add_some.1 h
    obtain ⟨x', h1, h2⟩ := wt_pow hs h0 hx
    have hk : p k < n := Classical.byContradiction fun hn => by rw [hs _ _ fun h => hn h.1] at hy; cases hy
    obtain ⟨w', h3, h4⟩ := mul_ge (n := n) hk h1 hy
    exact ⟨w', h3, by omega⟩
theorem pow_wt {n : Nat} {A : TM} (hs : Sup n A) : ∀ {k i j : Nat} {w : Int}, tpow n A k i j = some w → ∃ p : Nat → Nat, p 0 = i ∧ p k = j ∧ wt A p k = some w ∧ ∀ m, m ≤ k → p m < n
  | 0, i, j, w, h => by
    have h' : tone n i j = some w := h
    unfold tone at h'
    split at h'
    · rename_i e; obtain ⟨rfl, hi⟩ := e; cases h'; exact ⟨fun _ => i, rfl, rfl, rfl, fun _ _ => hi⟩
    · cases h'
  | k + 1, i, j, w, h => by
    obtain ⟨l, x, y, hl, hx, hy, rfl⟩ := mul_some h
    obtain ⟨p, h1, h2, h3, h4⟩ := pow_wt hs hx
    have hj : j < n := Classical.byContradiction fun hn => by rw [hs _ _ fun h => hn h.2] at hy; cases hy
    refine ⟨fun m => if m ≤ k then p m else j, by simp [h1], if_neg (by omega), ?_, fun m hm => ?_⟩
    · show oadd (wt A _ k) (A _ _) = _
      rw [wt_congr (q := p) fun m hm => by simp [hm], h3]
      have e1 : (if k ≤ k then p k else j) = l := by simp [h2]
      have e2 : (if k + 1 ≤ k then p (k + 1) else j) = j := if_neg (by omega)
      show oadd _ (A (if k ≤ k then p k else j) (if k + 1 ≤ k then p (k + 1) else j)) = _
      rw [e1, e2, hy]; rfl
    · simp only; split
      · exact h4 m (by assumption)
      · exact hj

/-- A path that meets a node twice is made of a closed part and a shorter path. -/
theorem cut_path {n : Nat} {A : TM} (hs : Sup n A) {p : Nat → Nat} {k s t : Nat} {w : Int} (hst : s < t) (htk : t ≤ k) (he : p s = p t) (hw : wt A p k = some w) (hn : ∀ m, m ≤ k → p m < n) :
    ∃ w1 w2 c1 c2, w ≤ c1 + c2 ∧ w1 ≤ c1 ∧ w2 ≤ c2 ∧ tpow n A (t - s) (p s) (p s) = some c1 ∧ tpow n A (k - (t - s)) (p 0) (p k) = some c2 := by
  have e1 : wt A p k = oadd (wt A p t) (wt A (fun m => p (t + m)) (k - t)) := by rw [← wt_add]; congr 1; omega
  have e2 : wt A p t = oadd (wt A p s) (wt A (fun m => p (s + m)) (t - s)) := by rw [← wt_add]; congr 1; omega
  rw [e1] at hw
  obtain ⟨x, z, hx, hz, rfl⟩ := add_some.1 hw
  rw [e2] at hx
  obtain ⟨x, y, hx, hy, rfl⟩ := add_some.1 hx
  obtain ⟨c1, h1, h2⟩ := wt_pow (n := n) hs (p := fun m => p (s + m)) (hn _ (by omega)) hy
  simp only [Nat.add_zero] at h1
  rw [show s + (t - s) = t by omega, ← he] at h1
  have hq : wt A (fun m => if m ≤ s then p m else p (m + (t - s))) (k - (t - s)) = some (x + z) := by
    rw [show k - (t - s) = s + (k - t) by omega, wt_add, wt_congr (q := p) (k := s) fun m hm => by simp [hm], show wt A p s = some x by assumption, wt_congr (q := fun m => p (t + m)) (k := k - t) fun m hm => by
      split
      · rename_i hle
        rw [show m = 0 by omega]; simpa using he
      · rw [show s + m + (t - s) = t + m by omega], hz]; rfl
  obtain ⟨c2, h3, h4⟩ := wt_pow (n := n) hs (by simp; exact hn 0 (by omega)) hq
  refine ⟨y, x + z, c1, c2, by omega, h2, h4, h1, ?_⟩
  have e3 : (if k - (t - s) ≤ s then p (k - (t - s)) else p (k - (t - s) + (t - s))) = p k := by
    split
    · rename_i hle
      have : k = t := by omega
      subst this
      rw [show k - (k - s) = s by omega]; exact he
    · rw [show k - (t - s) + (t - s) = k by omega]
  simp only [Nat.zero_le, if_true] at h3
  rw [e3] at h3
  exact h3

/-- No closed path has a weight above 0. -/
def NP (n : Nat) (A : TM) : Prop := ∀ k i, 0 < k → Ub (tpow n A k i i) 0

/-- It is enough to ask the short ones. -/
theorem np_of_short {n : Nat} {A : TM} (hs : Sup n A) (h : ∀ k i, 0 < k → k ≤ n → Ub (tpow n A k i i) 0) : NP n A := by
  intro k
  induction k using Nat.strongRecOn with
  | _ k ih =>
    intro i hk w hw
    by_cases hkn : k ≤ n
    · exact h k i hk hkn w hw
    · obtain ⟨p, h1, h2, h3, h4⟩ := pow_wt hs hw
      obtain ⟨s, t, a1, a2, a3⟩ := pigeon n p fun m hm => h4 m (by omega)
      obtain ⟨w1, w2, c1, c2, b1, _, _, b4, b5⟩ := cut_path hs a1 (by omega) a3 h3 h4
      have := h (t - s) (p s) (by omega) (by omega) c1 b4
      rw [h1, h2] at b5
      have := ih (k - (t - s)) (by omega) i (by omega) c2 b5
      omega

/-- Without them, ways of fewer than n arcs are no worse. -/
theorem short_way {n : Nat} {A : TM} (hs : Sup n A) (hp : NP n A) : ∀ (k i j : Nat) (w : Int), tpow n A k i j = some w → ∃ m w', m < n ∧ m ≤ k ∧ tpow n A m i j = some w' ∧ w ≤ w' := by
  intro k
  induction k using Nat.strongRecOn with
  | _ k ih =>
    intro i j w hw
    by_cases hkn : k < n
    · exact ⟨k, w, hkn, Nat.le_refl _, hw, Int.le_refl _⟩
    · obtain ⟨p, h1, h2, h3, h4⟩ := pow_wt hs hw
      obtain ⟨s, t, a1, a2, a3⟩ := pigeon n p fun m hm => h4 m (by omega)
      obtain ⟨w1, w2, c1, c2, b1, _, _, b4, b5⟩ := cut_path hs a1 (by omega) a3 h3 h4
      have := hp (t - s) (p s) (by omega) c1 b4
      rw [h1, h2] at b5
      obtain ⟨m, w', d1, d2, d3, d4⟩ := ih (k - (t - s)) (by omega) i j c2 b5
      exact ⟨m, w', d1, by omega, d3, by omega⟩

/-- The greatest weights of ways. -/
def star (n : Nat) (A : TM) : TM := tsum n A (n - 1)
theorem ub_star {n : Nat} {A : TM} (hs : Sup n A) (hp : NP n A) {i j : Nat} {u : Int} : Ub (star n A i j) u ↔ ∀ k, Ub (tpow n A k i j) u := by
  unfold star
  rw [ub_tsum]
  constructor
  · intro h k w hw
    obtain ⟨m, w', h1, _, h2, h3⟩ := short_way hs hp k i j w hw
    have := h m (by omega) w' h2; omega
  · intro h m _; exact h m
theorem tsum_some {n : Nat} {A : TM} {i j : Nat} {w : Int} : ∀ {k : Nat}, tsum n A k i j = some w → ∃ m, m ≤ k ∧ tpow n A m i j = some w
  | 0, h => ⟨0, Nat.le_refl _, h⟩
  | k + 1, h => by
    have h' : omax (tsum n A k i j) (tpow n A (k + 1) i j) = some w := h
    cases ha : tsum n A k i j with
    | none => rw [ha] at h'; exact ⟨k + 1, Nat.le_refl _, h'⟩
    | some x =>
      rw [ha] at h'
      cases hb : tpow n A (k + 1) i j with
      | none =>
        rw [hb] at h'
        obtain ⟨m, h1, h2⟩ := tsum_some (ha.trans h')
        exact ⟨m, by omega, h2⟩
      | some y =>
        rw [hb] at h'
        simp only [omax, Option.some.injEq] at h'
        by_cases hxy : x ≤ y
        · exact ⟨k + 1, Nat.le_refl _, by rw [hb, ← h', Int.max_eq_right hxy]⟩
        · obtain ⟨m, h1, h2⟩ := tsum_some ha
          exact ⟨m, by omega, by rw [h2, ← h', Int.max_eq_left (by omega)]⟩
theorem star_some {n : Nat} {A : TM} {i j : Nat} {w : Int} (h : star n A i j = some w) : ∃ m, tpow n A m i j = some w := by
  obtain ⟨m, _, h⟩ := tsum_some h; exact ⟨m, h⟩
theorem star_ge {n : Nat} {A : TM} (hs : Sup n A) (hp : NP n A) {k i j : Nat} {w : Int} (h : tpow n A k i j = some w) : ∃ w', star n A i j = some w' ∧ w ≤ w' := by
  cases hc : star n A i j with
  | none =>
    have h1 : Ub (star n A i j) (w - 1) := by rw [hc]; intro z hz; cases hz
    have := (ub_star hs hp).1 h1 k w h; omega
  | some x =>
    have h1 : Ub (star n A i j) x := by rw [hc]; intro z hz; cases hz; omega
    exact ⟨x, rfl, (ub_star hs hp).1 h1 k w h⟩

/-- The greatest weights of ways of k arcs to a node, from anywhere. -/
def dk (n : Nat) (A : TM) (k j : Nat) : O := osup n fun i => tpow n A k i j
theorem dk_succ {n : Nat} {A : TM} (k j : Nat) : dk n A (k + 1) j = osup n fun i => oadd (dk n A k i) (A i j) := by
  refine ub_ext fun u => ?_
  unfold dk
  rw [ub_sup, ub_sup]
  constructor
  · intro h l hl
    refine ub_add.2 fun x y hx hy => ?_
    obtain ⟨i, hi, e⟩ := sup_some hx
    exact ub_mul.1 (h i hi) l x y hl e hy
  · intro h i hi
    refine ub_mul.2 fun l x y hl hx hy => ?_
    obtain ⟨x', e, hle⟩ := sup_ge (f := fun i => tpow n A k i l) hi hx
    have := ub_add.1 (h l hl) x' y e hy; omega
theorem dk_zero {n : Nat} {A : TM} {j : Nat} (hj : j < n) : dk n A 0 j = some 0 := by
  refine ub_ext fun u => ?_
  unfold dk
  rw [ub_sup]
  constructor
  · intro h x hx; cases hx
    refine h j hj 0 ?_
    show tone n j j = some 0
    unfold tone; rw [if_pos ⟨rfl, hj⟩]
  · intro h i hi x hx
    have hx' : tone n i j = some x := hx
    unfold tone at hx'
    split at hx'
    · cases hx'; exact h 0 rfl
    · cases hx'

/-- Where there is a way of many arcs to a node, there is one of fewer. -/
theorem dk_down {n : Nat} {A : TM} (hs : Sup n A) {k m j : Nat} {x : Int} (h : dk n A k j = some x) (hm : m ≤ k) : ∃ y, dk n A m j = some y := by
  obtain ⟨i, hi, e⟩ := sup_some h
  obtain ⟨p, h1, h2, h3, h4⟩ := pow_wt hs e
  have e1 : wt A p k = oadd (wt A p (k - m)) (wt A (fun q => p (k - m + q)) m) := by rw [← wt_add]; congr 1; omega
  rw [e1] at h3
  obtain ⟨a, b, _, hb, _⟩ := add_some.1 h3
  obtain ⟨w, h5, _⟩ := wt_pow (n := n) hs (p := fun q => p (k - m + q)) (h4 _ (by omega)) hb
  simp only [Nat.add_zero] at h5
  rw [show k - m + m = k by omega, h2] at h5
  obtain ⟨y, h6, _⟩ := sup_ge (f := fun i => tpow n A m i j) (h4 (k - m) (by omega)) h5
  exact ⟨y, h6⟩

/-- KARP, one half: the way of n arcs is no better than some shorter one. -/
theorem karp_le {n : Nat} {A : TM} (hs : Sup n A) (hp : NP n A) {j : Nat} {x : Int} (h : dk n A n j = some x) : ∃ k y, k < n ∧ dk n A k j = some y ∧ x ≤ y := by
  obtain ⟨i, hi, e⟩ := sup_some h
  obtain ⟨m, w', h1, _, h2, h3⟩ := short_way hs hp n i j x e
  obtain ⟨y, h4, h5⟩ := sup_ge (f := fun i => tpow n A m i j) hi h2
  exact ⟨m, y, h1, h4, by omega⟩

theorem mod_path {A : TM} {p : Nat → Nat} {L : Nat} (hL : 0 < L) (hc : p 0 = p L) (hw : wt A p L = some 0) : ∀ q, wt A (fun m => p (m % L)) (L * q) = some 0
  | 0 => rfl
  | q + 1 => by
    rw [Nat.mul_succ, wt_add, mod_path hL hc hw q]
    have : wt A (fun m => p ((L * q + m) % L)) L = wt A p L := wt_congr fun m hm => by
      rw [Nat.mul_add_mod]
      by_cases e : m = L
      · subst e; rw [Nat.mod_self]; exact hc
      · rw [Nat.mod_eq_of_lt (by omega)]
    rw [this, hw]; rfl

/-- .. the other half: at some node it is as good as any. -/
theorem karp_ge {n : Nat} {A : TM} (hs : Sup n A) (hp : NP n A) {L c : Nat} (hL : 0 < L) (hc : tpow n A L c c = some 0) : ∃ j x, dk n A n j = some x ∧ ∀ k y, dk n A k j = some y → y ≤ x := by
  obtain ⟨p, h1, h2, h3, h4⟩ := pow_wt hs hc
  have hcn : c < n := by rw [← h1]; exact h4 0 (by omega)
  -- the best way to c
  have hbest : ∃ m b, m < n ∧ dk n A m c = some b ∧ ∀ k y, dk n A k c = some y → y ≤ b := by
    have key : ∀ N, ∃ m b, m ≤ N ∧ dk n A m c = some b ∧ ∀ k y, k ≤ N → dk n A k c = some y → y ≤ b := by
      intro N
      induction N with
      | zero => exact ⟨0, 0, Nat.le_refl _, dk_zero hcn, fun k y hk hy => by rw [show k = 0 by omega, dk_zero hcn] at hy; cases hy; omega⟩
      | succ N ih =>
        obtain ⟨m, b, k1, k2, k3⟩ := ih
        cases hd : dk n A (N + 1) c with
        | none => exact ⟨m, b, by omega, k2, fun k y hk hy => by
            by_cases e : k = N + 1
            · subst e; rw [hd] at hy; cases hy
            · exact k3 k y (by omega) hy⟩
        | some z =>
          by_cases hz : z ≤ b
          · exact ⟨m, b, by omega, k2, fun k y hk hy => by
              by_cases e : k = N + 1
              · subst e; rw [hd] at hy; cases hy; exact hz
              · exact k3 k y (by omega) hy⟩
          · exact ⟨N + 1, z, Nat.le_refl _, hd, fun k y hk hy => by
              by_cases e : k = N + 1
              · subst e; rw [hd] at hy; cases hy; omega
              · have := k3 k y (by omega) hy; omega⟩
    obtain ⟨m, b, k1, k2, k3⟩ := key (n - 1)
    refine ⟨m, b, by omega, k2, fun k y hy => ?_⟩
    obtain ⟨i, hi, e⟩ := sup_some hy
    obtain ⟨m', w', q1, _, q2, q3⟩ := short_way hs hp k i c y e
    obtain ⟨z, q4, q5⟩ := sup_ge (f := fun i => tpow n A m' i c) hi q2
    have := k3 m' z (by omega) q4; omega
  obtain ⟨m, b, hm, hb, hmax⟩ := hbest
  let q : Nat → Nat := fun x => p (x % L)
  let t := n - m
  have hq0 : q 0 = c := by show p (0 % L) = c; rw [Nat.zero_mod, h1]
  have hqn : ∀ x, q x < n := fun x => h4 _ (by have := Nat.mod_lt x hL; omega)
  have hz : wt A q (L * t) = some 0 := mod_path hL (h1.trans h2.symm) h3 t
  have htL : t ≤ L * t := Nat.le_mul_of_pos_left t hL
  have hsplit : wt A q (L * t) = oadd (wt A q t) (wt A (fun x => q (t + x)) (L * t - t)) := by rw [← wt_add]; congr 1; omega
  rw [hz] at hsplit
  obtain ⟨x1, x2, e1, e2, e3⟩ := add_some.1 hsplit.symm
  -- on from c to the node
  obtain ⟨i, hi, ei⟩ := sup_some hb
  obtain ⟨u1, f1, f2⟩ := wt_pow (n := n) hs (hqn 0) e1
  rw [hq0] at f1
  have g1 : ∃ w', tpow n A (m + t) i (q t) = some w' ∧ b + u1 ≤ w' := by
    rw [tpow_add hs]; exact mul_ge hcn ei f1
  obtain ⟨w', g1, g2⟩ := g1
  rw [show m + t = n by omega] at g1
  obtain ⟨x, g3, g4⟩ := sup_ge (f := fun i => tpow n A n i (q t)) hi g1
  refine ⟨q t, x, g3, fun k y hy => ?_⟩
  -- back to c
  obtain ⟨u2, f3, f4⟩ := wt_pow (n := n) hs (p := fun x => q (t + x)) (hqn _) e2
  simp only [Nat.add_zero] at f3
  rw [show t + (L * t - t) = L * t by omega, show q (L * t) = c by show p (L * t % L) = c; rw [Nat.mul_mod_right, h1]] at f3
  obtain ⟨i2, hi2, ei2⟩ := sup_some hy
  have g5 : ∃ w, tpow n A (k + (L * t - t)) i2 c = some w ∧ y + u2 ≤ w := by
    rw [tpow_add hs]; exact mul_ge (hqn t) ei2 f3
  obtain ⟨w, g5, g6⟩ := g5
  obtain ⟨z, g7, g8⟩ := sup_ge (f := fun i => tpow n A (k + (L * t - t)) i c) hi2 g5
  have := hmax _ _ g7
  omega

/-- How far the arcs are above num/den. -/
def gain (A : TM) (num den : Int) : TM := fun i j => (A i j).map fun x => den * x - num
theorem gain_sup {n : Nat} {A : TM} (hs : Sup n A) (num den : Int) : Sup n (gain A num den) := fun i j h => by unfold gain; rw [hs i j h]; rfl
theorem wt_gain {A : TM} {num den : Int} {p : Nat → Nat} : ∀ k, wt (gain A num den) p k = (wt A p k).map fun x => den * x - num * (k : Int)
  | 0 => by simp [wt]
  | k + 1 => by
    show oadd (wt _ p k) _ = (oadd (wt A p k) _).map _
    rw [wt_gain k]
    unfold gain
    cases wt A p k <;> cases A (p k) (p (k + 1)) <;> simp [oadd, Int.mul_add]
    omega
theorem pow_gain {n : Nat} {A : TM} {num den : Int} (hd : 0 < den) : ∀ k i j, tpow n (gain A num den) k i j = (tpow n A k i j).map fun x => den * x - num * (k : Int)
  | 0, i, j => by
    show tone n i j = (tone n i j).map _
    unfold tone; split <;> simp
  | k + 1, i, j => by
    show tmul n _ _ i j = (tmul n _ _ i j).map _
    refine ub_ext fun u => ?_
    have hub : ∀ (o : O) (f : Int → Int) (u : Int), Ub (o.map f) u ↔ ∀ x, o = some x → f x ≤ u := fun o f u => by
      cases o with
      | none => exact ⟨fun _ x hx => (by cases hx), fun _ x hx => (by cases hx)⟩
      | some z => exact ⟨fun h x hx => by cases hx; exact h _ rfl, fun h x hx => by cases hx; exact h z rfl⟩
    rw [hub, ub_mul]
    constructor
    · intro h w hw
      obtain ⟨l, x, y, hl, hx, hy, rfl⟩ := mul_some hw
      have := h l (den * x - num * k) (den * y - num) hl (by rw [pow_gain hd k, hx]; rfl) (by unfold gain; rw [hy]; rfl)
      simp only [Int.mul_add, Int.natCast_add]; simp; omega
    · intro h l x y hl hx hy
      rw [pow_gain hd k] at hx
      obtain ⟨a, ha, rfl⟩ := Option.map_eq_some_iff.1 hx
      unfold gain at hy
      obtain ⟨b, hb, rfl⟩ := Option.map_eq_some_iff.1 hy
      obtain ⟨w, hw, hle⟩ := mul_ge (n := n) hl ha hb
      have h1 := h w hw
      have h2 := Int.mul_le_mul_of_nonneg_left hle (Int.le_of_lt hd)
      simp only [Int.mul_add, Int.natCast_add] at h1 h2; simp at h1; omega
end Go.Cy
