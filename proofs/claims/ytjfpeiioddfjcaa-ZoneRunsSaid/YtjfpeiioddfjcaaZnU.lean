import Derived.Test.YtjfpeiioddfjcaaCyP
import Derived.Test.YtjfpeiioddfjcaaVmV
section
/-
  KARP'S THEOREM on greatest means of cycles, without any program.
-/
namespace Go.Cy

/-- Two of n + 1 nodes below n are equal. -/
theorem pigeon : ∀ (n : Nat) (p : Nat → Nat), (∀ m, m ≤ n → p m < n) → ∃ s t, s < t ∧ t ≤ n ∧ p s = p t
  | 0, p, h => absurd (h 0 (Nat.le_refl _)) (by omega)
  | n + 1, p, h => by
    by_cases he : ∃ s, s < n + 1 ∧ p s = p (n + 1)
    · obtain ⟨s, h1, h2⟩ := he; exact ⟨s, n + 1, h1, Nat.le_refl _, h2⟩
    · have hne : ∀ s, s < n + 1 → p s ≠ p (n + 1) := fun s hs e => he ⟨s, hs, e⟩
      obtain ⟨s, t, h1, h2, h3⟩ := pigeon n (fun m => if p m = n then p (n + 1) else p m) fun m hm => by
        have a1 := h m (by omega)
        have a2 := h (n + 1) (Nat.le_refl _)
        have a3 := hne m (by omega)
        split <;> omega
      refine ⟨s, t, h1, by omega, ?_⟩
      have a1 := hne s (by omega)
      have a2 := hne t (by omega)
      split at h3 <;> split at h3 <;> omega

/-- The weight of the first k arcs of a path. -/
def wt (A : TM) (p : Nat → Nat) : Nat → O
  | 0 => some 0
  | k + 1 => oadd (wt A p k) (A (p k) (p (k + 1)))

theorem oadd_assoc (a b c : O) : oadd (oadd a b) c = oadd a (oadd b c) := by
  cases a <;> cases b <;> cases c <;> simp [oadd, Int.add_assoc]

theorem wt_add {A : TM} {p : Nat → Nat} (s : Nat) : ∀ d, wt A p (s + d) = oadd (wt A p s) (wt A (fun m => p (s + m)) d)
  | 0 => (add_zero _).symm
  | d + 1 => by
    show oadd (wt A p (s + d)) _ = _
    rw [wt_add s d, oadd_assoc]; rfl
theorem wt_congr {A : TM} {p q : Nat → Nat} : ∀ {k : Nat}, (∀ m, m ≤ k → p m = q m) → wt A p k = wt A q k
  | 0, _ => rfl
  | k + 1, h => by
    show oadd _ _ = oadd _ _
    rw [wt_congr (k := k) fun m hm => h m (by omega), h k (by omega), h (k + 1) (Nat.le_refl _)]

theorem wt_pow {n : Nat} {A : TM} {p : Nat → Nat} (hs : Sup n A) (h0 : p 0 < n) : ∀ {k : Nat} {w : Int}, wt A p k = some w → ∃ w', tpow n A k (p 0) (p k) = some w' ∧ w ≤ w'
  | 0, w, h => by cases h; exact ⟨0, by show tone n _ _ = _; unfold tone; rw [if_pos ⟨rfl, h0⟩], Int.le_refl _⟩
  | k + 1, w, h => by
    obtain ⟨x, y, hx, hy, rfl⟩ := add_some.1 h
    obtain ⟨x', h1, h2⟩ := wt_pow hs h0 hx
    have hk : p k < n := Classical.byContradiction fun hn => by rw [hs _ _ fun h => hn h.1] at hy; cases hy
    obtain ⟨w', h3, h4⟩ := mul_ge (n := n) hk h1 hy
    exact ⟨w', h3, by omega⟩
theorem pow_wt {n : Nat} {A : TM} (hs : Sup n A) : ∀ {k i j : Nat} {w : Int}, tpow n A k i j = some w → ∃ p : Nat → Nat, p 0 = i ∧ p k = j ∧ wt A p k = some w ∧ ∀ m, m ≤ k → p m < n
  | 0, i, j, w, h => by
    have h' : tone n i j = some w := h
    unfold tone at h'
    split at h'
    · rename_i e; obtain ⟨rfl, hi⟩ := e; cases h'; exact ⟨fun _ => i, rfl, rfl, rfl, fun _ _ => hi⟩
    · cases h'
  | k + 1, i, j, w, h => by
    obtain ⟨l, x, y, hl, hx, hy, rfl⟩ := mul_some h
    obtain ⟨p, h1, h2, h3, h4⟩ := pow_wt hs hx
    have hj : j < n := Classical.byContradiction fun hn => by rw [hs _ _ fun h => hn h.2] at hy; cases hy
    refine ⟨fun m => if m ≤ k then p m else j, by simp [h1], if_neg (by omega), ?_, fun m hm => ?_⟩
    · show oadd (wt A _ k) (A _ _) = _
      rw [wt_congr (q := p) fun m hm => by simp [hm], h3]
      have e1 : (if k ≤ k then p k else j) = l := by simp [h2]
      have e2 : (if k + 1 ≤ k then p (k + 1) else j) = j := if_neg (by omega)
      show oadd _ (A (if k ≤ k then p k else j) (if k + 1 ≤ k then p (k + 1) else j)) = _
      rw [e1, e2, hy]; rfl
    · simp only; split
      · exact h4 m (by assumption)
      · exact hj

/-- A path that meets a node twice is made of a closed part and a shorter path. -/
theorem cut_path {n : Nat} {A : TM} (hs : Sup n A) {p : Nat → Nat} {k s t : Nat} {w : Int} (hst : s < t) (htk : t ≤ k) (he : p s = p t) (hw : wt A p k = some w) (hn : ∀ m, m ≤ k → p m < n) :
    ∃ w1 w2 c1 c2, w ≤ c1 + c2 ∧ w1 ≤ c1 ∧ w2 ≤ c2 ∧ tpow n A (t - s) (p s) (p s) = some c1 ∧ tpow n A (k - (t - s)) (p 0) (p k) = some c2 := by
  have e1 : wt A p k = oadd (wt A p t) (wt A (fun m => p (t + m)) (k - t)) := by rw [← wt_add]; congr 1; omega
  have e2 : wt A p t = oadd (wt A p s) (wt A (fun m => p (s + m)) (t - s)) := by rw [← wt_add]; congr 1; omega
  rw [e1] at hw
  obtain ⟨x, z, hx, hz, rfl⟩ := add_some.1 hw
  rw [e2] at hx
  obtain ⟨x, y, hx, hy, rfl⟩ := add_some.1 hx
  obtain ⟨c1, h1, h2⟩ := wt_pow (n := n) hs (p := fun m => p (s + m)) (hn _ (by omega)) hy
  simp only [Nat.add_zero] at h1
  rw [show s + (t - s) = t by omega, ← he] at h1
  have hq : wt A (fun m => if m ≤ s then p m else p (m + (t - s))) (k - (t - s)) = some (x + z) := by
    rw [show k - (t - s) = s + (k - t) by omega, wt_add, wt_congr (q := p) (k := s) fun m hm => by simp [hm], show wt A p s = some x by assumption, wt_congr (q := fun m => p (t + m)) (k := k - t) fun m hm => by
      split
      · rename_i hle
        rw [show m = 0 by omega]; simpa using he
      · rw [show s + m + (t - s) = t + m by omega], hz]; rfl
  obtain ⟨c2, h3, h4⟩ := wt_pow (n := n) hs (by simp; exact hn 0 (by omega)) hq
  refine ⟨y, x + z, c1, c2, by omega, h2, h4, h1, ?_⟩
  have e3 : (if k - (t - s) ≤ s then p (k - (t - s)) else p (k - (t - s) + (t - s))) = p k := by
    split
    · rename_i hle
      have : k = t := by omega
      subst this
      rw [show k - (k - s) = s by omega]; exact he
    · rw [show k - (t - s) + (t - s) = k by omega]
  simp only [Nat.zero_le, if_true] at h3
  rw [e3] at h3
  exact h3

/-- No closed path has a weight above 0. -/
def NP (n : Nat) (A : TM) : Prop := ∀ k i, 0 < k → Ub (tpow n A k i i) 0

/-- It is enough to ask the short ones. -/
theorem np_of_short {n : Nat} {A : TM} (hs : Sup n A) (h : ∀ k i, 0 < k → k ≤ n → Ub (tpow n A k i i) 0) : NP n A := by
  intro k
  induction k using Nat.strongRecOn with
  | _ k ih =>
    intro i hk w hw
    by_cases hkn : k ≤ n
    · exact h k i hk hkn w hw
    · obtain ⟨p, h1, h2, h3, h4⟩ := pow_wt hs hw
      obtain ⟨s, t, a1, a2, a3⟩ := pigeon n p fun m hm => h4 m (by omega)
      obtain ⟨w1, w2, c1, c2, b1, _, _, b4, b5⟩ := cut_path hs a1 (by omega) a3 h3 h4
      have := h (t - s) (p s) (by omega) (by omega) c1 b4
      rw [h1, h2] at b5
      have := ih (k - (t - s)) (by omega) i (by omega) c2 b5
      omega

/-- Without them, ways of fewer than n arcs are no worse. -/
theorem short_way {n : Nat} {A : TM} (hs : Sup n A) (hp : NP n A) : ∀ (k i j : Nat) (w : Int), tpow n A k i j = some w → ∃ m w', m < n ∧ m ≤ k ∧ tpow n A m i j = some w' ∧ w ≤ w' := by
  intro k
  induction k using Nat.strongRecOn with
  | _ k ih =>
    intro i j w hw
    by_cases hkn : k < n
    · exact ⟨k, w, hkn, Nat.le_refl _, hw, Int.le_refl _⟩
    · obtain ⟨p, h1, h2, h3, h4⟩ := pow_wt hs hw
      obtain ⟨s, t, a1, a2, a3⟩ := pigeon n p fun m hm => h4 m (by omega)
      obtain ⟨w1, w2, c1, c2, b1, _, _, b4, b5⟩ := cut_path hs a1 (by omega) a3 h3 h4
      have := hp (t - s) (p s) (by omega) c1 b4
      rw [h1, h2] at b5
      obtain ⟨m, w', d1, d2, d3, d4⟩ := ih (k - (t - s)) (by omega) i j c2 b5
      exact ⟨m, w', d1, by omega, d3, by omega⟩

/-- The greatest weights of ways. -/
def star (n : Nat) (A : TM) : TM := tsum n A (n - 1)
theorem ub_star {n : Nat} {A : TM} (hs : Sup n A) (hp : NP n A) {i j : Nat} {u : Int} : Ub (star n A i j) u ↔ ∀ k, Ub (tpow n A k i j) u := by
  unfold star
  rw [ub_tsum]
  constructor
  · intro h k w hw
    obtain ⟨m, w', h1, _, h2, h3⟩ := short_way hs hp k i j w hw
    have := h m (by omega) w' h2; omega
  · intro h m _; exact h m
theorem tsum_some {n : Nat} {A : TM} {i j : Nat} {w : Int} : ∀ {k : Nat}, tsum n A k i j = some w → ∃ m, m ≤ k ∧ tpow n A m i j = some w
  | 0, h => ⟨0, Nat.le_refl _, h⟩
  | k + 1, h => by
    have h' : omax (tsum n A k i j) (tpow n A (k + 1) i j) = some w := h
    cases ha : tsum n A k i j with
    | none => rw [ha] at h'; exact ⟨k + 1, Nat.le_refl _, h'⟩
    | some x =>
      rw [ha] at h'
      cases hb : tpow n A (k + 1) i j with
      | none =>
        rw [hb] at h'
        obtain ⟨m, h1, h2⟩ := tsum_some (ha.trans h')
        exact ⟨m, by omega, h2⟩
      | some y =>
        rw [hb] at h'
        simp only [omax, Option.some.injEq] at h'
        by_cases hxy : x ≤ y
        · exact ⟨k + 1, Nat.le_refl _, by rw [hb, ← h', Int.max_eq_right hxy]⟩
        · obtain ⟨m, h1, h2⟩ := tsum_some ha
          exact ⟨m, by omega, by rw [h2, ← h', Int.max_eq_left (by omega)]⟩
theorem star_some {n : Nat} {A : TM} {i j : Nat} {w : Int} (h : star n A i j = some w) : ∃ m, tpow n A m i j = some w := by
  obtain ⟨m, _, h⟩ := tsum_some h; exact ⟨m, h⟩
theorem star_ge {n : Nat} {A : TM} (hs : Sup n A) (hp : NP n A) {k i j : Nat} {w : Int} (h : tpow n A k i j = some w) : ∃ w', star n A i j = some w' ∧ w ≤ w' := by
  cases hc : star n A i j with
  | none =>
    have h1 : Ub (star n A i j) (w - 1) := by rw [hc]; intro z hz; cases hz
    have := (ub_star hs hp).1 h1 k w h; omega
  | some x =>
    have h1 : Ub (star n A i j) x := by rw [hc]; intro z hz; cases hz; omega
    exact ⟨x, rfl, (ub_star hs hp).1 h1 k w h⟩

/-- The greatest weights of ways of k arcs to a node, from anywhere. -/
def dk (n : Nat) (A : TM) (k j : Nat) : O := osup n fun i => tpow n A k i j
theorem dk_succ {n : Nat} {A : TM} (k j : Nat) : dk n A (k + 1) j = osup n fun i => oadd (dk n A k i) (A i j) := by
  refine ub_ext fun u => ?_
  unfold dk
  rw [ub_sup, ub_sup]
  constructor
  · intro h l hl
    refine ub_add.2 fun x y hx hy => ?_
    obtain ⟨i, hi, e⟩ := sup_some hx
    exact ub_mul.1 (h i hi) l x y hl e hy
  · intro h i hi
    refine ub_mul.2 fun l x y hl hx hy => ?_
    obtain ⟨x', e, hle⟩ := sup_ge (f := fun i => tpow n A k i l) hi hx
    have := ub_add.1 (h l hl) x' y e hy; omega
theorem dk_zero {n : Nat} {A : TM} {j : Nat} (hj : j < n) : dk n A 0 j = some 0 := by
  refine ub_ext fun u => ?_
  unfold dk
  rw [ub_sup]
  constructor
  · intro h x hx; cases hx
    refine h j hj 0 ?_
    show tone n j j = some 0
    unfold tone; rw [if_pos ⟨rfl, hj⟩]
  · intro h i hi x hx
    have hx' : tone n i j = some x := hx
    unfold tone at hx'
    split at hx'
    · cases hx'; exact h 0 rfl
    · cases hx'

/-- Where there is a way of many arcs to a node, there is one of fewer. -/
theorem dk_down {n : Nat} {A : TM} (hs : Sup n A) {k m j : Nat} {x : Int} (h : dk n A k j = some x) (hm : m ≤ k) : ∃ y, dk n A m j = some y := by
  obtain ⟨i, hi, e⟩ := sup_some h
  obtain ⟨p, h1, h2, h3, h4⟩ := pow_wt hs e
  have e1 : wt A p k = oadd (wt A p (k - m)) (wt A (fun q => p (k - m + q)) m) := by rw [← wt_add]; congr 1; omega
  rw [e1] at h3
  obtain ⟨a, b, _, hb, _⟩ := add_some.1 h3
  obtain ⟨w, h5, _⟩ := wt_pow (n := n) hs (p := fun q => p (k - m + q)) (h4 _ (by omega)) hb
  simp only [Nat.add_zero] at h5
  rw [show k - m + m = k by omega, h2] at h5
  obtain ⟨y, h6, _⟩ := sup_ge (f := fun i => tpow n A m i j) (h4 (k - m) (by omega)) h5
  exact ⟨y, h6⟩

/-- KARP, one half: the way of n arcs is no better than some shorter one. -/
theorem karp_le {n : Nat} {A : TM} (hs : Sup n A) (hp : NP n A) {j : Nat} {x : Int} (h : dk n A n j = some x) : ∃ k y, k < n ∧ dk n A k j = some y ∧ x ≤ y := by
  obtain ⟨i, hi, e⟩ := sup_some h
  obtain ⟨m, w', h1, _, h2, h3⟩ := short_way hs hp n i j x e
  obtain ⟨y, h4, h5⟩ := sup_ge (f := fun i => tpow n A m i j) hi h2
  exact ⟨m, y, h1, h4, by omega⟩

theorem mod_path {A : TM} {p : Nat → Nat} {L : Nat} (hL : 0 < L) (hc : p 0 = p L) (hw : wt A p L = some 0) : ∀ q, wt A (fun m => p (m % L)) (L * q) = some 0
  | 0 => rfl
  | q + 1 => by
    rw [Nat.mul_succ, wt_add, mod_path hL hc hw q]
    have : wt A (fun m => p ((L * q + m) % L)) L = wt A p L := wt_congr fun m hm => by
      rw [Nat.mul_add_mod]
      by_cases e : m = L
      · subst e; rw [Nat.mod_self]; exact hc
      · rw [Nat.mod_eq_of_lt (by omega)]
    rw [this, hw]; rfl

/-- .. the other half: at some node it is as good as any. -/
theorem karp_ge {n : Nat} {A : TM} (hs : Sup n A) (hp : NP n A) {L c : Nat} (hL : 0 < L) (hc : tpow n A L c c = some 0) : ∃ j x, dk n A n j = some x ∧ ∀ k y, dk n A k j = some y → y ≤ x := by
  obtain ⟨p, h1, h2, h3, h4⟩ := pow_wt hs hc
  have hcn : c < n := by rw [← h1]; exact h4 0 (by omega)
  -- the best way to c
  have hbest : ∃ m b, m < n ∧ dk n A m c = some b ∧ ∀ k y, dk n A k c = some y → y ≤ b := by
    have key : ∀ N, ∃ m b, m ≤ N ∧ dk n A m c = some b ∧ ∀ k y, k ≤ N → dk n A k c = some y → y ≤ b := by
      intro N
      induction N with
      | zero => exact ⟨0, 0, Nat.le_refl _, dk_zero hcn, fun k y hk hy => by rw [show k = 0 by omega, dk_zero hcn] at hy; cases hy; omega⟩
      | succ N ih =>
        obtain ⟨m, b, k1, k2, k3⟩ := ih
        cases hd : dk n A (N + 1) c with
        | none => exact ⟨m, b, by omega, k2, fun k y hk hy => by
            by_cases e : k = N + 1
            · subst e; rw [hd] at hy; cases hy
            · exact k3 k y (by omega) hy⟩
        | some z =>
          by_cases hz : z ≤ b
          · exact ⟨m, b, by omega, k2, fun k y hk hy => by
              by_cases e : k = N + 1
              · subst e; rw [hd] at hy; cases hy; exact hz
              · exact k3 k y (by omega) hy⟩
          · exact ⟨N + 1, z, Nat.le_refl _, hd, fun k y hk hy => by
              by_cases e : k = N + 1
              · subst e; rw [hd] at hy; cases hy; omega
              · have := k3 k y (by omega) hy; omega⟩
    obtain ⟨m, b, k1, k2, k3⟩ := key (n - 1)
    refine ⟨m, b, by omega, k2, fun k y hy => ?_⟩
    obtain ⟨i, hi, e⟩ := sup_some hy
    obtain ⟨m', w', q1, _, q2, q3⟩ := short_way hs hp k i c y e
    obtain ⟨z, q4, q5⟩ := sup_ge (f := fun i => tpow n A m' i c) hi q2
    have := k3 m' z (by omega) q4; omega
  obtain ⟨m, b, hm, hb, hmax⟩ := hbest
  let q : Nat → Nat := fun x => p (x % L)
  let t := n - m
  have hq0 : q 0 = c := by show p (0 % L) = c; rw [Nat.zero_mod, h1]
  have hqn : ∀ x, q x < n := fun x => h4 _ (by have := Nat.mod_lt x hL; omega)
  have hz : wt A q (L * t) = some 0 := mod_path hL (h1.trans h2.symm) h3 t
  have htL : t ≤ L * t := Nat.le_mul_of_pos_left t hL
  have hsplit : wt A q (L * t) = oadd (wt A q t) (wt A (fun x => q (t + x)) (L * t - t)) := by rw [← wt_add]; congr 1; omega
  rw [hz] at hsplit
  obtain ⟨x1, x2, e1, e2, e3⟩ := add_some.1 hsplit.symm
  -- on from c to the node
  obtain ⟨i, hi, ei⟩ := sup_some hb
  obtain ⟨u1, f1, f2⟩ := wt_pow (n := n) hs (hqn 0) e1
  rw [hq0] at f1
  have g1 : ∃ w', tpow n A (m + t) i (q t) = some w' ∧ b + u1 ≤ w' := by
    rw [tpow_add hs]; exact mul_ge hcn ei f1
  obtain ⟨w', g1, g2⟩ := g1
  rw [show m + t = n by omega] at g1
  obtain ⟨x, g3, g4⟩ := sup_ge (f := fun i => tpow n A n i (q t)) hi g1
  refine ⟨q t, x, g3, fun k y hy => ?_⟩
  -- back to c
  obtain ⟨u2, f3, f4⟩ := wt_pow (n := n) hs (p := fun x => q (t + x)) (hqn _) e2
  simp only [Nat.add_zero] at f3
  rw [show t + (L * t - t) = L * t by omega, show q (L * t) = c by show p (L * t % L) = c; rw [Nat.mul_mod_right, h1]] at f3
  obtain ⟨i2, hi2, ei2⟩ := sup_some hy
  have g5 : ∃ w, tpow n A (k + (L * t - t)) i2 c = some w ∧ y + u2 ≤ w := by
    rw [tpow_add hs]; exact mul_ge (hqn t) ei2 f3
  obtain ⟨w, g5, g6⟩ := g5
  obtain ⟨z, g7, g8⟩ := sup_ge (f := fun i => tpow n A (k + (L * t - t)) i c) hi2 g5
  have := hmax _ _ g7
  omega

/-- How far the arcs are above num/den. -/
def gain (A : TM) (num den : Int) : TM := fun i j => (A i j).map fun x => den * x - num
theorem gain_sup {n : Nat} {A : TM} (hs : Sup n A) (num den : Int) : Sup n (gain A num den) := fun i j h => by unfold gain; rw [hs i j h]; rfl
theorem wt_gain {A : TM} {num den : Int} {p : Nat → Nat} : ∀ k, wt (gain A num den) p k = (wt A p k).map fun x => den * x - num * (k : Int)
  | 0 => by simp [wt]
  | k + 1 => by
    show oadd (wt _ p k) _ = (oadd (wt A p k) _).map _
    rw [wt_gain k]
    unfold gain
    cases wt A p k <;> cases A (p k) (p (k + 1)) <;> simp [oadd, Int.mul_add]
    omega
theorem pow_gain {n : Nat} {A : TM} {num den : Int} (hd : 0 < den) : ∀ k i j, tpow n (gain A num den) k i j = (tpow n A k i j).map fun x => den * x - num * (k : Int)
  | 0, i, j => by
    show tone n i j = (tone n i j).map _
    unfold tone; split <;> simp
  | k + 1, i, j => by
    show tmul n _ _ i j = (tmul n _ _ i j).map _
    refine ub_ext fun u => ?_
    have hub : ∀ (o : O) (f : Int → Int) (u : Int), Ub (o.map f) u ↔ ∀ x, o = some x → f x ≤ u := fun o f u => by
      cases o with
      | none => exact ⟨fun _ x hx => (by cases hx), fun _ x hx => (by cases hx)⟩
      | some z => exact ⟨fun h x hx => by cases hx; exact h _ rfl, fun h x hx => by cases hx; exact h z rfl⟩
    rw [hub, ub_mul]
    constructor
    · intro h w hw
      obtain ⟨l, x, y, hl, hx, hy, rfl⟩ := mul_some hw
      have := h l (den * x - num * k) (den * y - num) hl (by rw [pow_gain hd k, hx]; rfl) (by unfold gain; rw [hy]; rfl)
      simp only [Int.mul_add, Int.natCast_add]; simp; omega
    · intro h l x y hl hx hy
      rw [pow_gain hd k] at hx
      obtain ⟨a, ha, rfl⟩ := Option.map_eq_some_iff.1 hx
      unfold gain at hy
      obtain ⟨b, hb, rfl⟩ := Option.map_eq_some_iff.1 hy
      obtain ⟨w, hw, hle⟩ := mul_ge (n := n) hl ha hb
      have h1 := h w hw
      have h2 := Int.mul_le_mul_of_nonneg_left hle (Int.le_of_lt hd)
      simp only [Int.mul_add, Int.natCast_add] at h1 h2; simp at h1; omega
end Go.Cy

end
section
/-
  THE GREATEST MEAN OF A CYCLE: that there is one, that it is one number, and that Karp's way finds it.
-/
namespace Go.Cy

/-- num/den is the mean of A: no closed path is above it, and one has it. -/
structure MeanOf (n : Nat) (A : TM) (num den : Int) : Prop where
  pos : 0 < den
  le : ∀ k i w, 0 < k → tpow n A k i i = some w → den * w ≤ num * (k : Int)
  eq : ∃ k c w, 0 < k ∧ tpow n A k c c = some w ∧ den * w = num * (k : Int)

theorem MeanOf.np {n : Nat} {A : TM} {num den : Int} (h : MeanOf n A num den) : NP n (gain A num den) := fun k i hk w hw => by
  rw [pow_gain h.pos] at hw
  obtain ⟨x, hx, rfl⟩ := Option.map_eq_some_iff.1 hw
  have := h.le k i x hk hx; omega
theorem MeanOf.zero {n : Nat} {A : TM} {num den : Int} (h : MeanOf n A num den) : ∃ L c, 0 < L ∧ tpow n (gain A num den) L c c = some 0 := by
  obtain ⟨k, c, w, h1, h2, h3⟩ := h.eq
  exact ⟨k, c, h1, by rw [pow_gain h.pos, h2]; simp; omega⟩
theorem MeanOf.of_gain {n : Nat} {A : TM} {num den : Int} (hd : 0 < den) (h1 : NP n (gain A num den)) (h2 : ∃ L c, 0 < L ∧ tpow n (gain A num den) L c c = some 0) : MeanOf n A num den := by
  refine ⟨hd, fun k i w hk hw => ?_, ?_⟩
  · have := h1 k i hk (den * w - num * k) (by rw [pow_gain hd, hw]; rfl); omega
  · obtain ⟨L, c, hL, h⟩ := h2
    rw [pow_gain hd] at h
    obtain ⟨x, hx, he⟩ := Option.map_eq_some_iff.1 h
    exact ⟨L, c, x, hL, hx, by omega⟩

/-- The means are equal as fractions. -/
theorem MeanOf.uniq {n : Nat} {A : TM} {p q p' q' : Int} (h : MeanOf n A p q) (h' : MeanOf n A p' q') : p * q' = p' * q := by
  obtain ⟨k, c, w, h1, h2, h3⟩ := h.eq
  obtain ⟨k', c', w', h1', h2', h3'⟩ := h'.eq
  have e1 := h'.le k c w h1 h2
  have e2 := h.le k' c' w' h1' h2'
  have hk : (0 : Int) < k := by omega
  have hk' : (0 : Int) < k' := by omega
  have hq := h.pos
  have hq' := h'.pos
  -- q' w <= p' k, q w = p k: multiply
  have f1 : k * (p * q') ≤ k * (p' * q) := by
    have : q * (q' * w) ≤ q * (p' * k) := Int.mul_le_mul_of_nonneg_left e1 (by omega)
    have a : q * (q' * w) = k * (p * q') := by rw [show q * (q' * w) = q' * (q * w) by rw [← Int.mul_assoc, Int.mul_comm q q', Int.mul_assoc], h3, ← Int.mul_assoc, Int.mul_comm q' p, Int.mul_comm]
    have b : q * (p' * k) = k * (p' * q) := by rw [← Int.mul_assoc, Int.mul_comm q p', Int.mul_comm]
    omega
  have f2 : k' * (p' * q) ≤ k' * (p * q') := by
    have : q' * (q * w') ≤ q' * (p * k') := Int.mul_le_mul_of_nonneg_left e2 (by omega)
    have a : q' * (q * w') = k' * (p' * q) := by rw [show q' * (q * w') = q * (q' * w') by rw [← Int.mul_assoc, Int.mul_comm q' q, Int.mul_assoc], h3', ← Int.mul_assoc, Int.mul_comm q p', Int.mul_comm]
    have b : q' * (p * k') = k' * (p * q') := by rw [← Int.mul_assoc, Int.mul_comm q' p, Int.mul_comm]
    omega
  exact Int.le_antisymm (Int.le_of_mul_le_mul_left f1 hk) (Int.le_of_mul_le_mul_left f2 hk')

/-- Another name of the same fraction. -/
theorem MeanOf.scale {n : Nat} {A : TM} {p q p' q' : Int} (h : MeanOf n A p q) (hq' : 0 < q') (e : p * q' = p' * q) : MeanOf n A p' q' := by
  have hq := h.pos
  refine ⟨hq', fun k i w hk hw => ?_, ?_⟩
  · have h1 := Int.mul_le_mul_of_nonneg_left (h.le k i w hk hw) (show 0 ≤ q' by omega)
    refine Int.le_of_mul_le_mul_left (a := q) ?_ hq
    have a : q * (q' * w) = q' * (q * w) := by rw [← Int.mul_assoc, Int.mul_comm q q', Int.mul_assoc]
    have b : q * (p' * k) = q' * (p * k) := by rw [← Int.mul_assoc, ← Int.mul_assoc, Int.mul_comm q p', Int.mul_comm q' p, e]
    omega
  · obtain ⟨k, c, w, h1, h2, h3⟩ := h.eq
    refine ⟨k, c, w, h1, h2, ?_⟩
    refine Int.eq_of_mul_eq_mul_left (a := q) (by omega) ?_
    rw [show q * (q' * w) = q' * (q * w) by rw [← Int.mul_assoc, Int.mul_comm q q', Int.mul_assoc], h3, ← Int.mul_assoc, ← Int.mul_assoc, Int.mul_comm q p', Int.mul_comm q' p, e]

/-- A greatest fraction of finitely many. -/
theorem max_frac {α : Type} (num den : α → Int) (hd : ∀ a, 0 < den a) : ∀ (l : List α), l ≠ [] → ∃ a ∈ l, ∀ b ∈ l, num b * den a ≤ num a * den b
  | [], h => absurd rfl h
  | [a], _ => ⟨a, by simp, fun b hb => by simp at hb; subst hb; exact Int.le_refl _⟩
  | a :: b :: l, _ => by
    obtain ⟨m, h1, h2⟩ := max_frac num den hd (b :: l) (by simp)
    by_cases hc : num a * den m ≤ num m * den a
    · exact ⟨m, by simp [List.mem_cons.1 h1], fun c hc' => by
        rcases List.mem_cons.1 hc' with rfl | hc'
        · exact hc
        · exact h2 c hc'⟩
    · refine ⟨a, by simp, fun c hc' => ?_⟩
      rcases List.mem_cons.1 hc' with rfl | hc'
      · exact Int.le_refl _
      · have e1 := h2 c hc'
        have hm := hd m
        have ha := hd a
        have hcd := hd c
        refine Int.le_of_mul_le_mul_left (a := den m) ?_ hm
        have s1 : den a * (num c * den m) ≤ den a * (num m * den c) := Int.mul_le_mul_of_nonneg_left e1 (by omega)
        have s2 : den c * (num m * den a) ≤ den c * (num a * den m) := Int.mul_le_mul_of_nonneg_left (by omega) (by omega)
        have a1 : den a * (num c * den m) = den m * (num c * den a) := by rw [Int.mul_comm, Int.mul_assoc, Int.mul_comm (den m), ← Int.mul_assoc, Int.mul_comm]
        have a2 : den a * (num m * den c) = den c * (num m * den a) := by rw [Int.mul_comm, Int.mul_assoc, Int.mul_comm (den c), ← Int.mul_assoc, Int.mul_comm]
        have a3 : den c * (num a * den m) = den m * (num a * den c) := by rw [Int.mul_comm, Int.mul_assoc, Int.mul_comm (den m), ← Int.mul_assoc, Int.mul_comm]
        omega

/-- Where there is a closed path, there is a mean. -/
theorem mean_ex {n : Nat} {A : TM} (hs : Sup n A) {k0 c0 : Nat} {w0 : Int} (hk0 : 0 < k0) (h0 : tpow n A k0 c0 c0 = some w0) : ∃ p q, MeanOf n A p q := by
  -- a short closed path
  have hshort : ∀ (k i : Nat) (w : Int), 0 < k → tpow n A k i i = some w → ∃ k' i' w', 0 < k' ∧ k' ≤ n ∧ i' < n ∧ tpow n A k' i' i' = some w' := by
    intro k i w hk hw
    obtain ⟨p, h1, h2, h3, h4⟩ := pow_wt hs hw
    by_cases hkn : k ≤ n
    · exact ⟨k, i, w, hk, hkn, by rw [← h1]; exact h4 0 (by omega), hw⟩
    · obtain ⟨s, t, a1, a2, a3⟩ := pigeon n p fun m hm => h4 m (by omega)
      obtain ⟨w1, w2, c1, c2, _, _, _, b4, _⟩ := cut_path hs a1 (by omega) a3 h3 h4
      exact ⟨t - s, p s, c1, by omega, by omega, h4 s (by omega), b4⟩
  obtain ⟨k1, c1, w1, p1, p2, p3, p4⟩ := hshort k0 c0 w0 hk0 h0
  -- the candidates
  let cand : List (Nat × Nat) := (List.range n).flatMap fun k => (List.range n).map fun i => (k, i)
  have hcand : ∀ k i, (k, i) ∈ cand ↔ k < n ∧ i < n := fun k i => by simp [cand]
  let good := cand.filter fun q => (tpow n A (q.1 + 1) q.2 q.2).isSome
  have hgood : ∀ k i, (k, i) ∈ good ↔ (k < n ∧ i < n) ∧ (tpow n A (k + 1) i i).isSome = true := fun k i => by
    show (k, i) ∈ List.filter _ _ ↔ _
    rw [List.mem_filter, hcand]
  have hne : good ≠ [] := fun e => by
    have : (k1 - 1, c1) ∈ good := (hgood _ _).2 ⟨⟨by omega, p3⟩, by rw [show k1 - 1 + 1 = k1 by omega, p4]; rfl⟩
    rw [e] at this; cases this
  obtain ⟨a, ha, hmax⟩ := max_frac (fun q : Nat × Nat => (tpow n A (q.1 + 1) q.2 q.2).getD 0) (fun q => ((q.1 + 1 : Nat) : Int)) (fun q => by omega) good hne
  obtain ⟨ka, ia⟩ := a
  have ha' := (hgood _ _).1 ha
  obtain ⟨wa, hwa⟩ := Option.isSome_iff_exists.1 ha'.2
  have hle : ∀ k i, 0 < k → k ≤ n → ∀ w, tpow n A k i i = some w → ((ka + 1 : Nat) : Int) * w ≤ wa * k := fun k i hk hkn w hw => by
    have hi : i < n := Classical.byContradiction fun hi => by rw [tpow_sup hs k i i fun h => hi h.1] at hw; cases hw
    have := hmax (k - 1, i) ((hgood _ _).2 ⟨⟨by omega, hi⟩, by rw [show k - 1 + 1 = k by omega, hw]; rfl⟩)
    simp only [hwa, show k - 1 + 1 = k by omega, hw, Option.getD_some] at this
    rw [Int.mul_comm]; exact this
  refine ⟨wa, ((ka + 1 : Nat) : Int), MeanOf.of_gain (by omega) (np_of_short (gain_sup hs _ _) fun k i hk hkn w hw => ?_) ⟨ka + 1, ia, by omega, by rw [pow_gain (by omega), hwa]; simp; rw [Int.mul_comm]; omega⟩⟩
  rw [pow_gain (by omega)] at hw
  obtain ⟨x, hx, rfl⟩ := Option.map_eq_some_iff.1 hw
  have := hle k i hk hkn x hx; omega

theorem map_max {den c : Int} (hd : 0 < den) (a b : O) : (omax a b).map (fun x => den * x - c) = omax (a.map fun x => den * x - c) (b.map fun x => den * x - c) := by
  cases a with
  | none => cases b <;> rfl
  | some x => cases b with
    | none => rfl
    | some y =>
      simp only [omax, Option.map_some, Option.some.injEq]
      rcases Int.le_total x y with h | h
      · have := Int.mul_le_mul_of_nonneg_left h (Int.le_of_lt hd)
        rw [Int.max_eq_right h, Int.max_eq_right (by omega)]
      · have := Int.mul_le_mul_of_nonneg_left h (Int.le_of_lt hd)
        rw [Int.max_eq_left h, Int.max_eq_left (by omega)]
theorem map_sup {den c : Int} (hd : 0 < den) (f : Nat → O) : ∀ n, (osup n f).map (fun x => den * x - c) = osup n fun k => (f k).map fun x => den * x - c
  | 0 => rfl
  | n + 1 => by rw [osup, map_max hd, map_sup hd f n]; rfl
theorem dk_gain {n : Nat} {A : TM} {num den : Int} (hd : 0 < den) (k j : Nat) : dk n (gain A num den) k j = (dk n A k j).map fun x => den * x - num * (k : Int) := by
  unfold dk
  rw [map_sup hd]
  exact sup_congr fun i _ => pow_gain hd k i j

/-- KARP'S THEOREM, with the mean. -/
theorem karp_a {n : Nat} {A : TM} {p q : Int} (hs : Sup n A) (h : MeanOf n A p q) {j : Nat} {x : Int} (hx : dk n A n j = some x) : ∃ k y, k < n ∧ dk n A k j = some y ∧ q * (x - y) ≤ p * ((n : Int) - k) := by
  obtain ⟨k, y, h1, h2, h3⟩ := karp_le (gain_sup hs p q) h.np (j := j) (x := q * x - p * n) (by rw [dk_gain h.pos, hx]; rfl)
  rw [dk_gain h.pos] at h2
  obtain ⟨z, hz, rfl⟩ := Option.map_eq_some_iff.1 h2
  refine ⟨k, z, h1, hz, ?_⟩
  rw [Int.mul_sub, Int.mul_sub]; omega
theorem karp_b {n : Nat} {A : TM} {p q : Int} (hs : Sup n A) (h : MeanOf n A p q) : ∃ j x, j < n ∧ dk n A n j = some x ∧ ∀ k y, dk n A k j = some y → p * ((n : Int) - k) ≤ q * (x - y) := by
  obtain ⟨L, c, hL, hc⟩ := h.zero
  obtain ⟨j, x, h1, h2⟩ := karp_ge (gain_sup hs p q) h.np hL hc
  have hj : j < n := Classical.byContradiction fun hj => by
    obtain ⟨i, _, e⟩ := sup_some h1
    rw [tpow_sup (gain_sup hs p q) _ _ _ fun h => hj h.2] at e; cases e
  rw [dk_gain h.pos] at h1
  obtain ⟨z, hz, rfl⟩ := Option.map_eq_some_iff.1 h1
  refine ⟨j, z, hj, hz, fun k y hy => ?_⟩
  have := h2 k (q * y - p * k) (by rw [dk_gain h.pos, hy]; rfl)
  rw [Int.mul_sub, Int.mul_sub]; omega

/-- A way of n arcs meets a node twice. -/
theorem closed_of_dk {n : Nat} {A : TM} (hs : Sup n A) {j : Nat} {x : Int} (h : dk n A n j = some x) : ∃ k c w, 0 < k ∧ tpow n A k c c = some w := by
  obtain ⟨i, hi, e⟩ := sup_some h
  obtain ⟨p, h1, h2, h3, h4⟩ := pow_wt hs e
  obtain ⟨s, t, a1, a2, a3⟩ := pigeon n p fun m hm => h4 m (by omega)
  obtain ⟨w1, w2, c1, c2, _, _, _, b4, _⟩ := cut_path hs a1 (by omega) a3 h3 h4
  exact ⟨t - s, p s, c1, by omega, b4⟩
theorem dk_of_closed {n : Nat} {A : TM} (hs : Sup n A) {k c : Nat} {w : Int} (hk : 0 < k) (h : tpow n A k c c = some w) : ∃ j x, j < n ∧ dk n A n j = some x := by
  obtain ⟨p, q, hm⟩ := mean_ex hs hk h
  obtain ⟨j, x, h1, h2, _⟩ := karp_b hs hm
  exact ⟨j, x, h1, h2⟩

/-- Karp's way. -/
def bestI (n : Nat) (a : Nat → Nat → Int) : Nat → Nat → Int
  | 0, _ => 0
  | k + 1, j => gre ((List.range n).map fun i => aft (bestI n a k i) (a i j))
def belowI (f g : Int × Int) : Bool := decide (f.1 * g.2 < g.1 * f.2)
/-- The least rate of a node, over the first k numbers of arcs. -/
def rateI (n : Nat) (a : Nat → Nat → Int) (j : Nat) : Nat → Int × Int
  | 0 => (0, 0)
  | k + 1 => let r := (bestI n a n j - bestI n a k j, (n : Int) - k)
    if k = 0 ∨ belowI r (rateI n a j k) = true then r else rateI n a j k
/-- The greatest of the first j nodes. -/
def topI (n : Nat) (a : Nat → Nat → Int) : Nat → Option (Int × Int)
  | 0 => none
  | j + 1 => if bestI n a n j = Nv then topI n a j else
    match topI n a j with
    | none => some (rateI n a j n)
    | some m => if belowI m (rateI n a j n) then some (rateI n a j n) else some m
def lowI (f : Int × Int) : Int × Int := (f.1.tdiv (Int.gcd f.1 f.2), f.2.tdiv (Int.gcd f.1 f.2))
def meanI (n : Nat) (a : Nat → Nat → Int) : Option (Int × Int) := (topI n a n).map lowI

theorem best_good {n : Nat} {b : Int} {a : Nat → Nat → Int} (ha : GoodM b a) (hb : 0 ≤ b) : ∀ (k : Nat) (j : Nat), Good (k * b) (bestI n a k j)
  | 0, j => .inr (by simp [bestI])
  | k + 1, j => by
    refine gre_good fun x hx => ?_
    obtain ⟨i, _, rfl⟩ := List.mem_map.1 hx
    have := aft_good (best_good (n := n) ha hb k i) (ha i j)
    rwa [show (((k + 1 : Nat) : Int) * b) = (k : Int) * b + b by rw [Int.natCast_add, Int.add_mul]; simp]
theorem best_dec {n : Nat} {b : Int} {a : Nat → Nat → Int} (ha : GoodM b a) (hb : 0 ≤ b) : ∀ {k : Nat}, (k : Int) * b ≤ 1000000000000 → ∀ j, j < n → dec (bestI n a k j) = dk n (DM a) k j
  | 0, _, j, hj => by rw [dk_zero hj]; exact dec_some (by unfold Nv; simp [bestI])
  | k + 1, h, j, hj => by
    have e : (((k + 1 : Nat) : Int) * b) = (k : Int) * b + b := by rw [Int.natCast_add, Int.add_mul]; simp
    show dec (gre _) = _
    rw [gre_range (b := (k : Int) * b + b) (by omega) fun i _ => aft_good (best_good ha hb k i) (ha i j), dk_succ]
    refine sup_congr fun i hi => ?_
    rw [aft_dec (best_good ha hb k i) (ha i j) (by omega), best_dec ha hb (by omega) i hi]
    rfl

/-- What the least rate is. -/
theorem rate_spec {n : Nat} {a : Nat → Nat → Int} {j : Nat} : ∀ {k : Nat}, 0 < k → k ≤ n → (∃ k0, k0 < k ∧ rateI n a j k = (bestI n a n j - bestI n a k0 j, (n : Int) - k0)) ∧
    ∀ m, m < k → (rateI n a j k).1 * ((n : Int) - m) ≤ (bestI n a n j - bestI n a m j) * (rateI n a j k).2
  | 0, h, _ => absurd h (by omega)
  | k + 1, _, hn => by
    by_cases hk : k = 0
    · subst hk
      have e : rateI n a j 1 = (bestI n a n j - bestI n a 0 j, (n : Int) - (0 : Nat)) := by
        unfold rateI; exact if_pos (.inl rfl)
      refine ⟨⟨0, by omega, e⟩, fun m hm => ?_⟩
      rw [show m = 0 by omega, e]; exact Int.le_refl _
    · obtain ⟨⟨k0, h1, h2⟩, h3⟩ := rate_spec (n := n) (a := a) (j := j) (k := k) (by omega) (by omega)
      by_cases hb : belowI (bestI n a n j - bestI n a k j, (n : Int) - k) (rateI n a j k) = true
      · have e : rateI n a j (k + 1) = (bestI n a n j - bestI n a k j, (n : Int) - k) := if_pos (.inr hb)
        refine ⟨⟨k, by omega, e⟩, fun m hm => ?_⟩
        rw [e]
        by_cases em : m = k
        · subst em; exact Int.le_refl _
        · have g1 := h3 m (by omega)
          have g2 := of_decide_eq_true hb
          rw [h2] at g1 g2
          simp only at g1 g2 ⊢
          refine Int.le_of_mul_le_mul_left (a := (n : Int) - k0) ?_ (by omega)
          have s1 := Int.mul_le_mul_of_nonneg_left g1 (show (0 : Int) ≤ (n : Int) - k by omega)
          have s2 := Int.mul_le_mul_of_nonneg_left (Int.le_of_lt g2) (show (0 : Int) ≤ (n : Int) - m by omega)
          simp only [Int.mul_comm, Int.mul_left_comm] at s1 s2 ⊢
          exact Int.le_trans s2 s1
      · have e : rateI n a j (k + 1) = rateI n a j k := if_neg (by rintro (h | h); exact hk h; exact hb h)
        rw [e]
        refine ⟨⟨k0, by omega, h2⟩, fun m hm => ?_⟩
        by_cases em : m = k
        · subst em
          have g2 : ¬ ((bestI n a n j - bestI n a m j) * (rateI n a j m).2 < (rateI n a j m).1 * ((n : Int) - m)) := fun h => hb (decide_eq_true h)
          omega
        · exact h3 m (by omega)

/-- What the greatest of them is. -/
theorem top_spec {n : Nat} {a : Nat → Nat → Int} (hn : 0 < n) : ∀ {j : Nat},
    (topI n a j = none → ∀ i, i < j → bestI n a n i = Nv) ∧
    ∀ m, topI n a j = some m → (∃ i, i < j ∧ bestI n a n i ≠ Nv ∧ m = rateI n a i n) ∧ ∀ i, i < j → bestI n a n i ≠ Nv → (rateI n a i n).1 * m.2 ≤ m.1 * (rateI n a i n).2
  | 0 => ⟨fun _ i h => by omega, fun m h => by cases h⟩
  | j + 1 => by
    obtain ⟨h1, h2⟩ := top_spec (a := a) hn (j := j)
    have hpos : ∀ i, 0 < (rateI n a i n).2 := fun i => by
      obtain ⟨⟨k0, h3, h4⟩, _⟩ := rate_spec (a := a) (j := i) hn (Nat.le_refl n)
      rw [h4]; simp only; omega
    by_cases hb : bestI n a n j = Nv
    · have e : topI n a (j + 1) = topI n a j := by show (if _ then _ else _) = _; rw [if_pos hb]
      rw [e]
      refine ⟨fun h i hi => ?_, fun m hm => ?_⟩
      · by_cases ei : i = j
        · subst ei; exact hb
        · exact h1 h i (by omega)
      · obtain ⟨⟨i0, k1, k2, k3⟩, k4⟩ := h2 m hm
        refine ⟨⟨i0, by omega, k2, k3⟩, fun i hi hne => ?_⟩
        by_cases ei : i = j
        · subst ei; exact absurd hb hne
        · exact k4 i (by omega) hne
    · cases ht : topI n a j with
      | none =>
        have e : topI n a (j + 1) = some (rateI n a j n) := by show (if _ then _ else _) = _; rw [if_neg hb, ht]
        rw [e]
        refine ⟨(by simp), fun m hm => ?_⟩
        cases hm
        refine ⟨⟨j, by omega, hb, rfl⟩, fun i hi hne => ?_⟩
        by_cases ei : i = j
        · subst ei; exact Int.le_refl _
        · exact absurd (h1 ht i (by omega)) hne
      | some m0 =>
        obtain ⟨⟨i0, k1, k2, k3⟩, k4⟩ := h2 m0 ht
        by_cases hlt : belowI m0 (rateI n a j n) = true
        · have e : topI n a (j + 1) = some (rateI n a j n) := by show (if _ then _ else _) = _; rw [if_neg hb, ht]; simp only [hlt, if_true]
          rw [e]
          refine ⟨(by simp), fun m hm => ?_⟩
          cases hm
          refine ⟨⟨j, by omega, hb, rfl⟩, fun i hi hne => ?_⟩
          by_cases ei : i = j
          · subst ei; exact Int.le_refl _
          · have g1 := k4 i (by omega) hne
            have g2 := of_decide_eq_true hlt
            have hm0 : 0 < m0.2 := by rw [k3]; exact hpos _
            refine Int.le_of_mul_le_mul_left (a := m0.2) ?_ hm0
            have s1 := Int.mul_le_mul_of_nonneg_left g1 (Int.le_of_lt (hpos j))
            have s2 := Int.mul_le_mul_of_nonneg_left (Int.le_of_lt g2) (Int.le_of_lt (hpos i))
            simp only [Int.mul_comm, Int.mul_left_comm, Int.mul_assoc] at s1 s2 ⊢
            exact Int.le_trans s1 s2
        · have e : topI n a (j + 1) = some m0 := by show (if _ then _ else _) = _; rw [if_neg hb, ht]; simp only [hlt]; rfl
          rw [e]
          refine ⟨(by simp), fun m hm => ?_⟩
          cases hm
          refine ⟨⟨i0, by omega, k2, k3⟩, fun i hi hne => ?_⟩
          by_cases ei : i = j
          · subst ei
            have g2 : ¬ (m0.1 * (rateI n a i n).2 < (rateI n a i n).1 * m0.2) := fun h => hlt (decide_eq_true h)
            omega
          · exact k4 i (by omega) hne

/-- The lowest terms of a fraction. -/
theorem low_spec {f : Int × Int} (h : 0 < f.2) : 0 < (lowI f).2 ∧ f.1 * (lowI f).2 = (lowI f).1 * f.2 ∧ Int.gcd (lowI f).1 (lowI f).2 = 1 := by
  have hg : 0 < Int.gcd f.1 f.2 := Int.gcd_pos_iff.2 (.inr (by omega))
  have d1 : ((Int.gcd f.1 f.2 : Nat) : Int) ∣ f.1 := Int.gcd_dvd_left ..
  have d2 : ((Int.gcd f.1 f.2 : Nat) : Int) ∣ f.2 := Int.gcd_dvd_right ..
  obtain ⟨x, hx⟩ := d1
  obtain ⟨y, hy⟩ := d2
  have hgz : ((Int.gcd f.1 f.2 : Nat) : Int) ≠ 0 := by omega
  have e1 : (lowI f).1 = x := (congrArg (fun z => Int.tdiv z _) hx).trans (Int.mul_tdiv_cancel_left _ hgz)
  have e2 : (lowI f).2 = y := (congrArg (fun z => Int.tdiv z _) hy).trans (Int.mul_tdiv_cancel_left _ hgz)
  rw [e1, e2]
  refine ⟨?_, ?_, ?_⟩
  · refine Classical.byContradiction fun hn => ?_
    have : ((Int.gcd f.1 f.2 : Nat) : Int) * y ≤ 0 := Int.mul_nonpos_of_nonneg_of_nonpos (by omega) (by omega)
    omega
  · have : f.1 * y = x * f.2 := by
      have a := congrArg (· * y) hx
      have b := congrArg (x * ·) hy
      have a' : f.1 * y = (Int.gcd f.1 f.2 : Int) * x * y := a
      have b' : x * f.2 = x * ((Int.gcd f.1 f.2 : Int) * y) := b
      rw [a', b', Int.mul_comm _ x, Int.mul_assoc]
    exact this
  · have e : Int.gcd f.1 f.2 = Int.gcd f.1 f.2 * Int.gcd x y := by
      have := Int.gcd_mul_left (m := (Int.gcd f.1 f.2 : Int)) (n := x) (k := y)
      rw [← hx, ← hy] at this
      simpa using this
    exact Nat.eq_of_mul_eq_mul_left hg (by omega)

/-- KARP'S WAY FINDS THE MEAN. -/
theorem mean_none {n : Nat} {b : Int} {a : Nat → Nat → Int} (hn : 0 < n) (ha : GoodM b a) (hb : 0 ≤ b) (hs : Sup n (DM a)) (hB : (n : Int) * b ≤ 1000000000000) (h : meanI n a = none) : ∀ k c, 0 < k → tpow n (DM a) k c c = none := by
  intro k c hk
  cases hw : tpow n (DM a) k c c with
  | none => rfl
  | some w =>
    obtain ⟨j, x, h1, h2⟩ := dk_of_closed hs hk hw
    have ht : topI n a n = none := by
      unfold meanI at h
      cases ht : topI n a n with
      | none => rfl
      | some m => rw [ht] at h; cases h
    have := (top_spec hn).1 ht j h1
    rw [← best_dec ha hb hB j h1, this, dec_nv] at h2; cases h2
theorem mean_some {n : Nat} {b : Int} {a : Nat → Nat → Int} (hn : 0 < n) (ha : GoodM b a) (hb : 0 ≤ b) (hs : Sup n (DM a)) (hB : (n : Int) * b ≤ 1000000000000) {m : Int × Int} (h : meanI n a = some m) :
    MeanOf n (DM a) m.1 m.2 ∧ Int.gcd m.1 m.2 = 1 := by
  unfold meanI at h
  cases ht : topI n a n with
  | none => rw [ht] at h; cases h
  | some r =>
    rw [ht] at h
    cases h
    obtain ⟨⟨i, h1, h2, h3⟩, h4⟩ := (top_spec hn).2 r ht
    have hdk : ∀ k j, k ≤ n → j < n → dec (bestI n a k j) = dk n (DM a) k j := fun k j hk hj => best_dec ha hb (Int.le_trans (Int.mul_le_mul_of_nonneg_right (by omega) hb) hB) j hj
    have hx : dk n (DM a) n i = some (bestI n a n i) := by rw [← hdk n i (Nat.le_refl _) h1, dec_some h2]
    obtain ⟨k, c, w, g1, g2⟩ := closed_of_dk hs hx
    obtain ⟨p, q, hm⟩ := mean_ex hs g1 g2
    have hq := hm.pos
    obtain ⟨⟨k0, s1, s2⟩, s3⟩ := rate_spec (a := a) (j := i) hn (Nat.le_refl n)
    have hr2 : 0 < r.2 := by rw [h3, s2]; simp only; omega
    -- at most the mean
    have le1 : q * r.1 ≤ p * r.2 := by
      obtain ⟨k, y, t1, t2, t3⟩ := karp_a hs hm hx
      have hy : bestI n a k i = y := by
        have := hdk k i (by omega) h1
        rw [t2] at this
        unfold dec at this
        split at this
        · cases this
        · simpa using this
      have := s3 k t1
      rw [hy, ← h3] at this
      refine Int.le_of_mul_le_mul_left (a := (n : Int) - k) ?_ (by omega)
      have u1 := Int.mul_le_mul_of_nonneg_left this (Int.le_of_lt hq)
      have u2 := Int.mul_le_mul_of_nonneg_left t3 (Int.le_of_lt hr2)
      simp only [Int.mul_comm, Int.mul_left_comm, Int.mul_assoc] at u1 u2 ⊢
      exact Int.le_trans u1 u2
    have le2 : p * r.2 ≤ q * r.1 := by
      obtain ⟨j, x, t1, t2, t3⟩ := karp_b hs hm
      have hx' : bestI n a n j ≠ Nv ∧ bestI n a n j = x := by
        have := hdk n j (Nat.le_refl _) t1
        rw [t2] at this
        unfold dec at this
        split at this
        · cases this
        · rename_i hne; exact ⟨hne, by simpa using this⟩
      have u0 := h4 j t1 hx'.1
      obtain ⟨⟨k1, v1, v2⟩, _⟩ := rate_spec (a := a) (j := j) hn (Nat.le_refl n)
      rw [v2] at u0
      simp only at u0
      obtain ⟨y, hy⟩ := dk_down hs t2 (show k1 ≤ n by omega)
      have hy' : bestI n a k1 j = y := by
        have := hdk k1 j (by omega) t1
        rw [hy] at this
        unfold dec at this
        split at this
        · cases this
        · simpa using this
      rw [hx'.2, hy'] at u0
      have t4 := t3 k1 y hy
      refine Int.le_of_mul_le_mul_left (a := (n : Int) - k1) ?_ (by omega)
      have u1 := Int.mul_le_mul_of_nonneg_left u0 (Int.le_of_lt hq)
      have u2 := Int.mul_le_mul_of_nonneg_left t4 (Int.le_of_lt hr2)
      simp only [Int.mul_comm, Int.mul_left_comm, Int.mul_assoc] at u1 u2 ⊢
      exact Int.le_trans u2 u1
    obtain ⟨l1, l2, l3⟩ := low_spec hr2
    refine ⟨(hm.scale hr2 (p' := r.1) ?_).scale l1 l2, l3⟩
    rw [Int.mul_comm r.1]; omega
end Go.Cy

end
section
/-
  MATRICES OF INTS as deep values: by functions of the row and the column.
-/
namespace Go.Cy
open Go.Vm Go.RowKit

theorem genM_len (R N : Nat) (f : Nat → Nat → Int) : (genM R N f).length = R := by simp [genM]
theorem genM_row {R N : Nat} {f : Nat → Nat → Int} {i : Nat} (h : i < (genM R N f).length) : (genM R N f)[i] = (List.range N).map (f i) := by simp [genM]
theorem genM_get {R N : Nat} {f : Nat → Nat → Int} {i j : Nat} (h : i < (genM R N f).length) (h' : j < ((genM R N f)[i]).length) : ((genM R N f)[i])[j] = f i j := by simp [genM]
theorem genM_rowlen {R N : Nat} {f : Nat → Nat → Int} {i : Nat} (h : i < (genM R N f).length) : ((genM R N f)[i]).length = N := by simp [genM]

/-- A matrix as a function: never outside. -/
def mf (m : List (List Int)) : Nat → Nat → Int := fun i j => (m.getD i []).getD j Nv
def okX (L x : Int) : Bool := decide (x = Nv) || (decide (-L ≤ x) && decide (x ≤ L))
def okRow (n : Nat) (L : Int) (r : List Int) : Bool := decide (r.length = n) && r.all (okX L)
def validB (L : Int) (m : List (List Int)) : Bool := (decide (1 ≤ m.length) && decide (m.length ≤ 6)) && m.all (okRow m.length L)

theorem genM_mf {m : List (List Int)} {n : Nat} (hn : m.length = n) (hr : ∀ r ∈ m, r.length = n) : m = genM n n (mf m) := by
  refine List.ext_getElem (by simp [genM, hn]) fun i h1 h2 => ?_
  refine List.ext_getElem (by simp [genM]; exact hr _ (List.getElem_mem h1)) fun j h3 h4 => ?_
  rw [genM_get]
  simp [mf, h1, h3]
theorem valid_of {L : Int} {m : List (List Int)} (h : validB L m = true) : 1 ≤ m.length ∧ m.length ≤ 6 ∧ m = genM m.length m.length (mf m) ∧ GoodM L (mf m) ∧ Sup m.length (DM (mf m)) := by
  unfold validB at h
  simp only [Bool.and_eq_true, decide_eq_true_eq, List.all_eq_true] at h
  obtain ⟨⟨h1, h2⟩, h3⟩ := h
  have hr : ∀ r ∈ m, r.length = m.length ∧ ∀ x ∈ r, x = Nv ∨ (-L ≤ x ∧ x ≤ L) := fun r hr => by
    have := h3 r hr
    simp only [okRow, Bool.and_eq_true, decide_eq_true_eq, List.all_eq_true, okX, Bool.or_eq_true] at this
    exact this
  refine ⟨h1, h2, genM_mf rfl fun r h => (hr r h).1, fun i j => ?_, fun i j hij => ?_⟩
  · unfold mf
    by_cases hi : i < m.length
    · have e : m.getD i [] = m[i] := by simp [hi]
      rw [e]
      by_cases hj : j < m[i].length
      · have e2 : m[i].getD j Nv = m[i][j] := by simp [hj]
        rw [e2]; exact (hr _ (List.getElem_mem hi)).2 _ (List.getElem_mem hj)
      · left; simp [hj]
    · left; simp [hi]
  · show dec _ = none
    have : mf m i j = Nv := by
      unfold mf
      by_cases hi : i < m.length
      · have e : m.getD i [] = m[i] := by simp [hi]
        rw [e]
        have hj : ¬ j < m[i].length := fun h => hij ⟨hi, by rw [← (hr _ (List.getElem_mem hi)).1]; exact h⟩
        simp [hj]
      · simp [hi]
    rw [this, dec_nv]

theorem gre_take {l : List Int} {i : Nat} (h : i < l.length) : gre (l.take (i + 1)) = max (gre (l.take i)) l[i] := by
  rw [List.take_succ_eq_append_getElem h]; exact foldl_snoc _ _ _
theorem gre_end {l : List Int} {i : Nat} (h : l.length ≤ i) : l.take i = l := List.take_of_length_le h
theorem wrapI {x : Int} (h : -9223372036854775808 ≤ x ∧ x ≤ 9223372036854775807) : IntKind.i64.wrap x = x := wrap_id (by omega)

/-- Cells of a slice of ints of one's own. -/
def icells (l : List Int) : List XV := l.map fun x => .d (DI x)
theorem icells_len (l : List Int) : (icells l).length = l.length := by simp [icells]
theorem icells_get {l : List Int} {i : Nat} (h : i < l.length) : (icells l)[0 + i]? = some (.d (DI l[i])) := by simp [icells, h]
end Go.Cy

end
section
/-
  MATRICES THAT ARE MADE BY A FUNCTION VALUE, behind other objects.
-/
namespace Go.Vm
open Go.RowKit

/-- A contract on deep values, among objects. -/
theorem DeepCall.own {P : Program} {f : FuncId} {args : List DV} {res : DV} (h : DeepCall P f args res) (σ : List VObj) : OwnCall P f σ (args.map .d) σ (.d res) := by
  intro M W0 ι w vs hm hl hx
  refine (h (Forb M ι σ) w vs hm.forb_lt (by simpa using hl) fun i v x hv hx' => ?_).mono fun e w' => ?_
  · have := hx i v (.d x) hv (by simp [hx'])
    cases this with
    | d h => exact h
  · rintro ⟨v, rfl, h1, h2⟩
    obtain ⟨g1, g2⟩ := hm.grown h2
    exact ⟨ι, σ, .d res, v, rfl, g1, g2, .d h1, rfl, rfl⟩

section
variable (L N : Nat) (f : Nat → Nat → Int)
def oslL (k : Nat) : XV := .osl (L + k + 1) 0 N 1 N true
def gP (i : Nat) : List VObj := ⟨updL N (oslL L N) (.d Dnil) i, 0⟩ :: doneG N f i
def gQ (i j : Nat) : List VObj := ⟨updL N (oslL L N) (.d Dnil) (i + 1), 0⟩ :: (doneG N f i ++ [⟨rowC N f i j, 0⟩])
end
section
variable {L N : Nat} {f : Nat → Nat → Int} {pre : List VObj}
theorem gP_zero : gP L N f 0 = [⟨List.replicate N (.d Dnil), 0⟩] := by rw [updL_zero (f := oslL L N)]; rfl
theorem gP_len (i : Nat) : (gP L N f i).length = i + 1 := by simp [gP, doneG_len]
theorem gQ_len (i j : Nat) : (gQ L N f i j).length = i + 2 := by simp [gQ, doneG_len]
theorem gP_at (h : pre.length = L) (i : Nat) : (pre ++ gP L N f i)[L]? = some ⟨updL N (oslL L N) (.d Dnil) i, 0⟩ := by
  rw [List.getElem?_append_right (by omega), h]; simp [gP]
theorem gQ_at (h : pre.length = L) (i j : Nat) : (pre ++ gQ L N f i j)[L]? = some ⟨updL N (oslL L N) (.d Dnil) (i + 1), 0⟩ := by
  rw [List.getElem?_append_right (by omega), h]; simp [gQ]
theorem gP_start (h : pre.length = L) {i : Nat} (hi : i < N) :
    ((pre ++ gP L N f i) ++ [(⟨List.replicate N (XV.d (.lit (.int .i64 0))), 0⟩ : VObj)]).set L ⟨(updL N (oslL L N) (.d Dnil) i).set (0 + i) (.osl (pre ++ gP L N f i).length 0 N 1 N true), 0⟩ = pre ++ gQ L N f i 0 := by
  rw [List.append_assoc, List.set_append_right _ _ (by omega), h, List.length_append, gP_len, h, Nat.zero_add, show XV.osl (L + (i + 1)) 0 N 1 N true = oslL L N i from rfl, updL_set hi, updL_zero (f := rowF f i), Nat.sub_self]
  rfl
theorem gQ_row (h : pre.length = L) (i j : Nat) : (pre ++ gQ L N f i j)[L + i + 1]? = some ⟨rowC N f i j, 0⟩ := by
  rw [List.getElem?_append_right (by omega), show L + i + 1 - pre.length = i + 1 by omega]
  simp only [gQ, List.getElem?_cons_succ]
  rw [List.getElem?_append_right (by rw [doneG_len]; omega), doneG_len]; simp
theorem gQ_step (h : pre.length = L) {i j : Nat} (hj : j < N) : (pre ++ gQ L N f i j).set (L + i + 1) ⟨(rowC N f i j).set (0 + j) (.d (DI (f i j))), 0⟩ = pre ++ gQ L N f i (j + 1) := by
  rw [Nat.zero_add, show rowC N f i j = updL N (rowF f i) _ j from rfl, show XV.d (DI (f i j)) = rowF f i j from rfl, updL_set hj, List.set_append_right _ _ (by omega), show L + i + 1 - pre.length = i + 1 by omega]
  simp only [gQ, List.set_cons_succ]
  rw [List.set_append_right _ _ (by rw [doneG_len]; omega), doneG_len]
  simp [rowC]
theorem gQ_end (i : Nat) : gQ L N f i N = gP L N f (i + 1) := by rw [gQ, gP, doneG_succ]
theorem oslL_get {i : Nat} (hi : i < N) : (updL N (oslL L N) (.d Dnil) (i + 1))[0 + i]? = some (.osl (L + i + 1) 0 N 1 N true) := by
  rw [Nat.zero_add, updL_get hi (by omega)]; rfl
theorem rowC_len' (i j : Nat) : (rowC N f i j).length = N := updL_len
theorem gP_fin (h : pre.length = L) : deepen (freezeAll (pre ++ gP L N f N)) 5 (.osl L 0 N 1 N true) = some (genD N N f) := by
  have hf : freezeAll (gP L N f N) = ⟨updL N (oslL L N) (.d Dnil) N, 1⟩ :: (List.range N).map fun i => (⟨((List.range N).map fun j => DI (f i j)).map XV.d, 1⟩ : VObj) := by
    simp [freezeAll, gP, doneG, Function.comp_def, rowC, updL_full, rowF]
  have hpl : (freezeAll pre).length = L := by simp [freezeAll, h]
  have hfa : freezeAll (pre ++ gP L N f N) = freezeAll pre ++ freezeAll (gP L N f N) := by simp [freezeAll]
  have hlen : (updL N (oslL L N) (.d Dnil) N).length = N := updL_len
  rw [hfa, hf, deepen_osl (ob := ⟨updL N (oslL L N) (.d Dnil) N, 1⟩) (by rw [List.getElem?_append_right (by omega), hpl]; simp) rfl (by simp [hlen])]
  have h2 : ((updL N (oslL L N) (.d Dnil) N).drop 0).take (N * 1) = (List.range N).map (oslL L N) := by rw [List.drop_zero, Nat.mul_one, List.take_of_length_le (by omega), updL_full (Nat.le_refl _)]
  rw [show ((⟨updL N (oslL L N) (.d Dnil) N, 1⟩ : VObj).cells.drop 0).take (N * 1) = (List.range N).map (oslL L N) from h2]
  have hall : ∀ (l : List Nat), (∀ i ∈ l, i < N) → (l.map (oslL L N)).mapM (deepen (freezeAll pre ++ (⟨updL N (oslL L N) (.d Dnil) N, 1⟩ :: (List.range N).map fun i => (⟨((List.range N).map fun j => DI (f i j)).map XV.d, 1⟩ : VObj))) 4) = some (l.map fun k => rowG N (f k)) := by
    intro l
    induction l with
    | nil => intro _; rfl
    | cons i l ih =>
      intro hl
      have hi := hl i (by simp)
      rw [List.map_cons, List.mapM_cons, ih (fun k hk => hl k (by simp [hk]))]
      rw [show oslL L N i = .osl (L + i + 1) 0 N 1 N true from rfl, deepen_cells (k := 2) (R := N) (ds := (List.range N).map fun j => DI (f i j)) (by
        rw [List.getElem?_append_right (by omega), hpl, show L + i + 1 - L = i + 1 by omega]; simp [hi]) rfl (by simp)]
      rfl
  rw [hall (List.range N) (fun i hi => by simpa using hi)]; rfl
theorem keeps_pre {pre2 τ : List VObj} (h : pre.length = L) (h2 : pre2.length = L) : KeepsZ (fun id => id < L) (pre ++ τ) (pre2 ++ τ) := fun id ob hz ho => by
  simp only [Nat.not_lt] at hz
  refine ⟨ob, ?_, rfl, Iff.rfl⟩
  rw [List.getElem?_append_right (by omega)] at ho ⊢
  rw [h2, ← h]; exact ho
end
end Go.Vm
namespace Go.Vm
/-- Cells of which the first k have turned. -/
def mixL (n : Nat) (f old : Nat → XV) (k : Nat) : List XV := (List.range n).map fun q => if q < k then f q else old q
theorem mixL_len {n : Nat} {f old : Nat → XV} {k : Nat} : (mixL n f old k).length = n := by simp [mixL]
theorem mixL_zero {n : Nat} {f old : Nat → XV} : mixL n f old 0 = (List.range n).map old := by simp [mixL]
theorem mixL_full {n : Nat} {f old : Nat → XV} : mixL n f old n = (List.range n).map f := by
  refine List.map_congr_left fun q hq => ?_
  rw [if_pos (by simpa using hq)]
theorem mixL_set {n : Nat} {f old : Nat → XV} {k : Nat} (_ : k < n) : (mixL n f old k).set (0 + k) (f k) = mixL n f old (k + 1) := by
  refine List.ext_getElem (by simp [mixL]) fun i h1 h2 => ?_
  simp only [mixL, Nat.zero_add, List.getElem_set, List.getElem_map, List.getElem_range]
  by_cases e : k = i
  · subst e; simp
  · rw [if_neg e]
    by_cases h : i < k
    · rw [if_pos h, if_pos (by omega)]
    · rw [if_neg h, if_neg (by omega)]
end Go.Vm
namespace Go.Vm
section
variable {P : Program} {σ : List VObj} {kn : Kn} {dst : Option Tmp} {ty : TypeId} {pos : String} {af : Array Edge} {g : Option (Nat × Bool)}
/-- A function value that brings variables. -/
theorem K.makeF {fn : Fn} {caps : Array Operand} {xs : List XV} {x : Operand} {v : XV} {m : Nat} (ha : caps.toList.mapM (evK kn) = some xs) (hx : caps[m]? = some x) (hv : evK kn x = some v) (hl : litOf v = none) :
    KEv P ⟨dst, .makeFunc fn #[] caps, ty, pos, af, g⟩ σ kn (.fn fn [] xs) σ 0 := ev_op fun env he => by
  have e1 := evK_evalX he hv
  unfold evalOp
  rw [litOp_none (x := x) (by simpa [Op.operands] using Array.mem_of_getElem? hx) (by rw [e1]; exact hl)]
  have := mapM_evK he ha
  simp [this]
end
end Go.Vm
namespace Go.Vm
theorem mixL_put {n : Nat} {f old : Nat → XV} {k : Nat} {v : XV} (_ : k < n) : (mixL n f old k).set (0 + k) v = mixL n f (fun q => if q = k then v else old q) k := by
  refine List.ext_getElem (by simp [mixL]) fun i h1 h2 => ?_
  simp only [mixL, Nat.zero_add, List.getElem_set, List.getElem_map, List.getElem_range]
  by_cases e : k = i
  · subst e; simp
  · rw [if_neg e]
    by_cases h : i < k
    · rw [if_pos h, if_pos h]
    · rw [if_neg h, if_neg h, if_neg (fun e' => e e'.symm)]
theorem mixL_put2 {n : Nat} {f old : Nat → XV} {k : Nat} {v w : XV} (hk : k < n) : (mixL n f (fun q => if q = k then v else old q) k).set (0 + k) w = mixL n f (fun q => if q = k then w else old q) k := by
  rw [mixL_put hk]; congr 1; funext q; split <;> rfl
theorem mixL_done {n : Nat} {f old : Nat → XV} {k : Nat} (hk : k < n) : mixL n f (fun q => if q = k then f k else old q) k = mixL n f old (k + 1) := by
  rw [← mixL_put hk, mixL_set hk]
theorem mixL_get {n : Nat} {f old : Nat → XV} {k : Nat} {v : XV} (hk : k < n) : (mixL n f (fun q => if q = k then v else old q) k)[0 + k]? = some v := by
  simp [mixL, hk]
theorem set_last (σ : List VObj) (a b : VObj) : (σ ++ [a]).set σ.length b = σ ++ [b] := by
  rw [List.set_append_right _ _ (Nat.le_refl _), Nat.sub_self]; rfl
theorem mixL_rep {n : Nat} {f : Nat → XV} {v : XV} : List.replicate n v = mixL n f (fun _ => v) 0 := by
  rw [mixL_zero, List.map_const', List.length_range]
end Go.Vm
namespace Go.Cy
theorem gre_ge (l : List Int) : Nv ≤ gre l := by
  have key : ∀ (l : List Int) (z : Int), Nv ≤ z → Nv ≤ l.foldl max z := by
    intro l
    induction l with
    | nil => intro z hz; exact hz
    | cons x l ih => intro z hz; exact ih _ (by omega)
  exact key l Nv (Int.le_refl _)
/-- The greatest of the first k values. -/
def greR (k : Nat) (f : Nat → Int) : Int := gre ((List.range k).map f)
theorem greR_succ (k : Nat) (f : Nat → Int) : greR (k + 1) f = max (greR k f) (f k) := by
  unfold greR
  rw [List.range_succ, List.map_append]
  exact foldl_snoc _ _ _
theorem greR_nv {k : Nat} {f : Nat → Int} (h : f k = Nv) : greR (k + 1) f = greR k f := by
  rw [greR_succ, h]; have := gre_ge ((List.range k).map f); unfold greR; omega
theorem prodI_greR (n : Nat) (a b : Nat → Nat → Int) (i j : Nat) : prodI n a b i j = greR n fun k => aft (a i k) (b k j) := rfl
theorem greR_good {b : Int} {k : Nat} {f : Nat → Int} (h : ∀ q, Good b (f q)) : Good b (greR k f) := gre_good fun x hx => by
  obtain ⟨q, _, rfl⟩ := List.mem_map.1 hx; exact h q

/-- The first eight rows and columns. -/
def fewM (m : List (List Int)) : List (List Int) := (m.take 8).map (List.take 8)
theorem few_valid {L : Int} {m : List (List Int)} (h : validB L m = true) : fewM m = m := by
  unfold validB at h
  simp only [Bool.and_eq_true, decide_eq_true_eq, List.all_eq_true] at h
  obtain ⟨⟨h1, h2⟩, h3⟩ := h
  unfold fewM
  rw [List.take_of_length_le (by omega)]
  refine List.ext_getElem (by simp) fun i h5 h6 => ?_
  rw [List.getElem_map]
  have := h3 m[i] (List.getElem_mem h6)
  unfold okRow at this
  simp only [Bool.and_eq_true, decide_eq_true_eq] at this
  exact List.take_of_length_le (by omega)
theorem few_validB (L : Int) (m : List (List Int)) : validB L (fewM m) = validB L m := by
  cases h : validB L m with
  | true => rw [few_valid h, h]
  | false =>
    cases h2 : validB L (fewM m) with
    | false => rfl
    | true =>
      exfalso
      have e : fewM m = m := by
        unfold validB at h2
        simp only [Bool.and_eq_true, decide_eq_true_eq, List.all_eq_true] at h2
        obtain ⟨⟨h1, h3⟩, h4⟩ := h2
        have hl : (fewM m).length = min 8 m.length := by simp [fewM]
        rw [hl] at h1 h3 h4
        have hm : m.take 8 = m := List.take_of_length_le (by omega)
        unfold fewM at h4 ⊢
        rw [hm] at h4 ⊢
        refine List.ext_getElem (by simp) fun i h5 h6 => ?_
        rw [List.getElem_map]
        have := h4 (m[i].take 8) (List.mem_map.2 ⟨m[i], List.getElem_mem h6, rfl⟩)
        unfold okRow at this
        simp only [Bool.and_eq_true, decide_eq_true_eq, List.length_take] at this
        exact List.take_of_length_le (by omega)
      rw [e, h] at h2; cases h2
end Go.Cy

end
section
/-
  CYCLES that are given, and potentials.
-/
namespace Go.Cy

def nx (c : List Int) (k : Nat) : Int := c.getD ((k + 1) % c.length) 0
def arcI (a : Nat → Nat → Int) (c : List Int) (k : Nat) : Int := a (c.getD k 0).toNat (nx c k).toNat
def inN (n : Nat) (x : Int) : Prop := 0 ≤ x ∧ x < n
def difK (c : List Int) (k : Nat) : Prop := ∀ q, q < k → c.getD q 0 ≠ c.getD k 0
def okK (n : Nat) (a : Nat → Nat → Int) (c : List Int) (k : Nat) : Prop := inN n (c.getD k 0) ∧ inN n (nx c k) ∧ difK c k ∧ arcI a c k ≠ Nv
def cycP (n : Nat) (a : Nat → Nat → Int) (c : List Int) : Prop := ∀ k, k < c.length → okK n a c k
def wtS (a : Nat → Nat → Int) (c : List Int) : Nat → Int
  | 0 => 0
  | k + 1 => wtS a c k + arcI a c k
def metN (c : List Int) : Nat → Nat
  | 0 => 0
  | k + 1 => metN c k ||| 2 ^ (c.getD k 0).toNat

theorem met_bit {c : List Int} {k i : Nat} : (metN c k).testBit i = true ↔ ∃ q, q < k ∧ (c.getD q 0).toNat = i := by
  induction k with
  | zero => simp [metN]
  | succ k ih =>
    simp only [metN, Nat.testBit_or, Bool.or_eq_true, ih, Nat.testBit_two_pow, decide_eq_true_eq]
    constructor
    · rintro (⟨q, h1, h2⟩ | h)
      · exact ⟨q, by omega, h2⟩
      · exact ⟨k, by omega, h⟩
    · rintro ⟨q, h1, h2⟩
      by_cases e : q = k
      · subst e; exact .inr h2
      · exact .inl ⟨q, by omega, h2⟩
theorem met_lt {c : List Int} {n : Nat} : ∀ {k : Nat}, (∀ q, q < k → inN n (c.getD q 0)) → metN c k < 2 ^ n
  | 0, _ => Nat.two_pow_pos n
  | k + 1, h => by
    refine Nat.or_lt_two_pow (met_lt fun q hq => h q (by omega)) ?_
    have := h k (by omega)
    unfold inN at this
    exact Nat.pow_lt_pow_right (by decide) (by omega)
/-- Different nodes are no more than there are. -/
theorem dif_le {n : Nat} {c : List Int} {k : Nat} (h : ∀ q, q < k → inN n (c.getD q 0) ∧ difK c q) : k ≤ n := by
  refine Nat.le_of_not_lt fun hk => ?_
  obtain ⟨s, t, h1, h2, h3⟩ := pigeon n (fun m => (c.getD m 0).toNat) fun m hm => by
    have := (h m (by omega)).1; unfold inN at this; omega
  have a1 := (h s (by omega)).1
  have a2 := h t (by omega)
  unfold inN at a1 a2
  exact a2.2 s h1 (by omega)
theorem wtS_bd {a : Nat → Nat → Int} {b : Int} (hb : GoodM b a) {c : List Int} (h0 : 0 ≤ b) : ∀ {k : Nat}, (∀ q, q < k → arcI a c q ≠ Nv) → -(b * k) ≤ wtS a c k ∧ wtS a c k ≤ b * k
  | 0, _ => by simp [wtS]
  | k + 1, h => by
    have h1 := wtS_bd hb h0 (k := k) fun q hq => h q (by omega)
    have h2 : Good b (arcI a c k) := hb _ _
    have h3 := h2.resolve_left (h k (by omega))
    have : b * ((k + 1 : Nat) : Int) = b * k + b := by rw [Int.natCast_add, Int.mul_add]; simp
    simp only [wtS]
    omega

noncomputable def cycB (n : Nat) (a : Nat → Nat → Int) (c : List Int) : Bool := @decide (cycP n a c ∧ 0 < c.length) (Classical.propDecidable _)
noncomputable def meanB (n : Nat) (a : Nat → Nat → Int) (c : List Int) (num den : Int) : Bool := cycB n a c && decide (wtS a c c.length * den = num * (c.length : Nat))
theorem cycB_true {n : Nat} {a : Nat → Nat → Int} {c : List Int} (h : cycP n a c) (h0 : 0 < c.length) : cycB n a c = true := @decide_eq_true _ (Classical.propDecidable _) ⟨h, h0⟩
theorem cycB_false {n : Nat} {a : Nat → Nat → Int} {c : List Int} (h : ¬ (cycP n a c ∧ 0 < c.length)) : cycB n a c = false := @decide_eq_false _ (Classical.propDecidable _) h
theorem cycB_iff {n : Nat} {a : Nat → Nat → Int} {c : List Int} : cycB n a c = true ↔ cycP n a c ∧ 0 < c.length := ⟨fun h => @of_decide_eq_true _ (Classical.propDecidable _) h, fun h => cycB_true h.1 h.2⟩

def F40 : Int := 1099511627776
def inF (x : Int) : Prop := -F40 ≤ x ∧ x ≤ F40
def potP (n : Nat) (a : Nat → Nat → Int) (v : List Int) (num den : Int) : Prop :=
  v.length = n ∧ (∀ x ∈ v, inF x) ∧ ∀ i, i < n → ∀ j, j < n → a i j ≠ Nv → den * a i j + v.getD j 0 ≤ num + v.getD i 0
noncomputable def potB (n : Nat) (a : Nat → Nat → Int) (v : List Int) (num den : Int) : Bool := @decide (potP n a v num den) (Classical.propDecidable _)
theorem potB_true {n : Nat} {a : Nat → Nat → Int} {v : List Int} {num den : Int} (h : potP n a v num den) : potB n a v num den = true := @decide_eq_true _ (Classical.propDecidable _) h
theorem potB_false {n : Nat} {a : Nat → Nat → Int} {v : List Int} {num den : Int} (h : ¬ potP n a v num den) : potB n a v num den = false := @decide_eq_false _ (Classical.propDecidable _) h
theorem potB_iff {n : Nat} {a : Nat → Nat → Int} {v : List Int} {num den : Int} : potB n a v num den = true ↔ potP n a v num den := ⟨fun h => @of_decide_eq_true _ (Classical.propDecidable _) h, potB_true⟩
def wideB (num den : Int) : Bool := (decide (-F40 ≤ num) && decide (num ≤ F40)) && (decide (1 ≤ den) && decide (den ≤ F40))
theorem wideB_iff {num den : Int} : wideB num den = true ↔ inF num ∧ 1 ≤ den ∧ den ≤ F40 := by
  unfold wideB inF; simp only [Bool.and_eq_true, decide_eq_true_eq]
theorem getD_get {l : List Int} {i : Nat} (h : i < l.length) : l.getD i 0 = l[i] := by simp [h]
theorem inF_all_take {v : List Int} {k : Nat} (hk : k < v.length) (h : ∀ x ∈ v.take k, inF x) (h1 : inF v[k]) : ∀ x ∈ v.take (k + 1), inF x := fun x hx => by
  rw [List.take_succ_eq_append_getElem hk, List.mem_append, List.mem_singleton] at hx
  rcases hx with hx | rfl
  · exact h x hx
  · exact h1
theorem inF_get {v : List Int} (h : ∀ x ∈ v, inF x) (i : Nat) : inF (v.getD i 0) := by
  by_cases hi : i < v.length
  · rw [getD_get hi]; exact h _ (List.getElem_mem hi)
  · rw [List.getD_eq_getElem?_getD, List.getElem?_eq_none (by omega)]; exact ⟨by decide, by decide⟩
theorem mul_bd {a b x y : Int} (hx : -a ≤ x ∧ x ≤ a) (hy : -b ≤ y ∧ y ≤ b) (ha : 0 ≤ a) (hb : 0 ≤ b) : -(a * b) ≤ x * y ∧ x * y ≤ a * b := by
  have h1 : (x * y).natAbs ≤ a.natAbs * b.natAbs := by rw [Int.natAbs_mul]; exact Nat.mul_le_mul (by omega) (by omega)
  have h2 : ((a.natAbs * b.natAbs : Nat) : Int) = a * b := by rw [Int.natCast_mul]; congr 1 <;> omega
  omega
end Go.Cy

end
section
/-
  GAINS OVER A MEAN, WAYS, and how large they are.
-/
namespace Go.Cy
open Go.Vm

def gainI (a : Nat → Nat → Int) (p q : Int) (i j : Nat) : Int := if a i j = Nv then Nv else q * a i j - p
def stayI (n : Nat) (a : Nat → Nat → Int) (i j : Nat) : Int := gre [oneI n i j, a i j]
def waysI (n : Nat) (a : Nat → Nat → Int) : Nat → Nat → Int := pwI n (stayI n a) (n - 1)

theorem mul_bd' {x y b c : Int} (hx : -b ≤ x ∧ x ≤ b) (hy : 0 ≤ y ∧ y ≤ c) (hb : 0 ≤ b) : -(b * c) ≤ y * x ∧ y * x ≤ b * c := by
  have := mul_bd (a := b) (b := c) hx (y := y) (by omega) hb (by omega)
  rw [Int.mul_comm y x]; exact this
theorem gain_good {a : Nat → Nat → Int} {b c : Int} {p q : Int} (ha : GoodM b a) (hb : 0 ≤ b) (hq : 0 < q ∧ q ≤ c) (hp : -(b * q) ≤ p ∧ p ≤ b * q) : GoodM (2 * (b * c)) (gainI a p q) := fun i j => by
  unfold gainI
  split
  · exact .inl rfl
  · rename_i h
    have h1 := (ha i j).resolve_left h
    have h2 := mul_bd' h1 (y := q) (c := c) ⟨by omega, hq.2⟩ hb
    have h3 : b * q ≤ b * c := Int.mul_le_mul_of_nonneg_left hq.2 hb
    exact .inr (by omega)
theorem gain_dec {a : Nat → Nat → Int} {b c : Int} {p q : Int} (ha : GoodM b a) (hb : 0 ≤ b) (hq : 0 < q ∧ q ≤ c) (hp : -(b * q) ≤ p ∧ p ≤ b * q) (hB : 2 * (b * c) ≤ 1000000000000) : DM (gainI a p q) = gain (DM a) p q := by
  funext i j
  have hg := gain_good ha hb hq hp i j
  show dec (gainI a p q i j) = (dec (a i j)).map _
  unfold gainI at hg ⊢
  split
  · rename_i h; rw [h, dec_nv]; rfl
  · rename_i h
    rw [if_neg h] at hg
    rw [dec_some h]
    have h1 := (ha i j).resolve_left h
    have h2 := mul_bd' h1 (y := q) (c := c) ⟨by omega, hq.2⟩ hb
    have h3 : b * q ≤ b * c := Int.mul_le_mul_of_nonneg_left hq.2 hb
    rw [dec_some (by unfold Nv; omega)]; rfl

theorem gre_two {x y : Int} (hx : Nv ≤ x) (_ : Nv ≤ y) : gre [x, y] = max x y := by
  show max (max Nv x) y = _
  rw [Int.max_eq_right hx]
theorem stay_good {n : Nat} {a : Nat → Nat → Int} {b : Int} (ha : GoodM b a) (hb : 0 ≤ b) : GoodM b (stayI n a) := fun i j => gre_good fun x hx => by
  simp only [List.mem_cons, List.not_mem_nil, or_false] at hx
  rcases hx with rfl | rfl
  · exact one_good n hb i j
  · exact ha i j
theorem stay_dec {n : Nat} {a : Nat → Nat → Int} {b : Int} (ha : GoodM b a) (hb : 0 ≤ b) (hB : b ≤ 1000000000000) : DM (stayI n a) = tmx (tone n) (DM a) := by
  funext i j
  show dec (gre _) = omax (tone n i j) (dec (a i j))
  have h1 := (one_good n hb i j).ge hB
  have h2 := (ha i j).ge hB
  rw [gre_two h1 h2, max_dec h1 h2]
  congr 1
  exact congrFun (congrFun (one_dec n) i) j
theorem ways_good {n : Nat} {a : Nat → Nat → Int} {b : Int} (ha : GoodM b a) (hb : 0 ≤ b) : GoodM (((n - 1 : Nat) : Int) * b) (waysI n a) := pw_good (stay_good ha hb) hb (n - 1)
theorem ways_dec {n : Nat} {a : Nat → Nat → Int} {b : Int} (ha : GoodM b a) (hb : 0 ≤ b) (hs : Sup n (DM a)) (hB : b ≤ 1000000000000) (hB2 : ((n - 1 : Nat) : Int) * b ≤ 1000000000000) : DM (waysI n a) = star n (DM a) := by
  unfold waysI star
  rw [pw_dec (stay_good ha hb) hb hB2, stay_dec ha hb hB, tsum_pow hs]
theorem stay_sup {n : Nat} {a : Nat → Nat → Int} {b : Int} (ha : GoodM b a) (hb : 0 ≤ b) (hs : Sup n (DM a)) (hB : b ≤ 1000000000000) : Sup n (DM (stayI n a)) := by
  rw [stay_dec ha hb hB]; exact tmx_sup (tone_sup n) hs

/-- How large a mean can be. -/
theorem pow_bd {n : Nat} {a : Nat → Nat → Int} {b : Int} (ha : GoodM b a) (hb : 0 ≤ b) : ∀ (k : Nat) {i j : Nat} {w : Int}, tpow n (DM a) k i j = some w → -((k : Int) * b) ≤ w ∧ w ≤ (k : Int) * b
  | 0, i, j, w, h => by
    have h' : tone n i j = some w := h
    unfold tone at h'
    split at h'
    · cases h'; simp
    · cases h'
  | k + 1, i, j, w, h => by
    obtain ⟨l, x, y, _, hx, hy, rfl⟩ := mul_some h
    have h1 := pow_bd ha hb k hx
    have hy' : dec (a l j) = some y := hy
    unfold dec at hy'
    split at hy'
    · cases hy'
    · rename_i hne
      cases hy'
      have h2 := (ha l j).resolve_left hne
      rw [Int.natCast_add, Int.add_mul]
      simp; omega
theorem mean_bd {n : Nat} {a : Nat → Nat → Int} {b p q : Int} (ha : GoodM b a) (hb : 0 ≤ b) (h : MeanOf n (DM a) p q) : -(b * q) ≤ p ∧ p ≤ b * q := by
  obtain ⟨k, c, w, h1, h2, h3⟩ := h.eq
  have h4 := pow_bd ha hb k h2
  have hq := h.pos
  have hk : (0 : Int) < k := by omega
  have e1 : q * w ≤ q * ((k : Int) * b) := Int.mul_le_mul_of_nonneg_left h4.2 (by omega)
  have e2 : q * -((k : Int) * b) ≤ q * w := Int.mul_le_mul_of_nonneg_left h4.1 (by omega)
  have a1 : q * ((k : Int) * b) = (k : Int) * (b * q) := by simp only [Int.mul_comm, Int.mul_left_comm, Int.mul_assoc]
  have a2 : q * -((k : Int) * b) = (k : Int) * -(b * q) := by rw [Int.mul_neg, a1, Int.mul_neg]
  constructor
  · refine Int.le_of_mul_le_mul_left (a := (k : Int)) ?_ hk
    rw [Int.mul_comm (k : Int) p]; omega
  · refine Int.le_of_mul_le_mul_left (a := (k : Int)) ?_ hk
    rw [Int.mul_comm (k : Int) p]; omega
theorem mean_den {n : Nat} {a : Nat → Nat → Int} (hn : 0 < n) {m : Int × Int} (h : meanI n a = some m) : 0 < m.2 ∧ m.2 ≤ n := by
  unfold meanI at h
  cases ht : topI n a n with
  | none => rw [ht] at h; cases h
  | some r =>
    rw [ht] at h
    cases h
    obtain ⟨⟨i, h1, h2, h3⟩, _⟩ := (top_spec hn).2 r ht
    obtain ⟨⟨k0, s1, s2⟩, _⟩ := rate_spec (a := a) (j := i) hn (Nat.le_refl n)
    have hr2 : 0 < r.2 ∧ r.2 ≤ n := by rw [h3, s2]; simp only; omega
    have := (low_spec hr2.1).1
    refine ⟨this, ?_⟩
    have hle : (lowI r).2 ≤ r.2 := by
      show r.2.tdiv _ ≤ _
      rw [Int.tdiv_eq_ediv_of_nonneg (by omega)]
      exact Int.ediv_le_self _ (by omega)
    omega
/-- What is known of the mean of a small matrix. -/
structure Small (n : Nat) (a : Nat → Nat → Int) : Prop where
  n1 : 1 ≤ n
  n6 : n ≤ 6
  ga : GoodM 1000 a
  sup : Sup n (DM a)
theorem Small.of {m : List (List Int)} (h : validB 1000 m = true) : Small m.length (mf m) ∧ m = genM m.length m.length (mf m) := by
  obtain ⟨h1, h2, h3, h4, h5⟩ := valid_of h
  exact ⟨⟨h1, h2, h4, h5⟩, h3⟩
theorem Small.mean {n : Nat} {a : Nat → Nat → Int} (h : Small n a) {p q : Int} (hm : meanI n a = some (p, q)) : MeanOf n (DM a) p q ∧ Int.gcd p q = 1 ∧ (0 < q ∧ q ≤ 6) ∧ (-(1000 * q) ≤ p ∧ p ≤ 1000 * q) ∧ GoodM 12000 (gainI a p q) ∧ DM (gainI a p q) = gain (DM a) p q ∧ Sup n (DM (gainI a p q)) := by
  have n1 := h.n1
  have n6 := h.n6
  obtain ⟨h1, h2⟩ := mean_some (by omega) h.ga (by omega) h.sup (by omega) hm
  have h3 := mean_den (by omega) hm
  have h4 := mean_bd h.ga (by omega) h1
  simp only at h1 h2 h3 h4
  have e := gain_dec h.ga (by omega) (q := q) (c := 6) ⟨h3.1, by omega⟩ h4 (by omega)
  exact ⟨h1, h2, ⟨h3.1, by omega⟩, h4, gain_good h.ga (by omega) (c := 6) ⟨h3.1, by omega⟩ h4, e, by rw [e]; exact gain_sup h.sup _ _⟩
theorem Small.none {n : Nat} {a : Nat → Nat → Int} (h : Small n a) (hm : meanI n a = none) : ∀ k c, 0 < k → tpow n (DM a) k c c = none :=
  mean_none (by have := h.n1; omega) h.ga (by omega) h.sup (by have := h.n6; omega) hm
end Go.Cy

end
section
/-
  EIGENVECTORS: a critical node, and the equation.
-/
namespace Go.Cy
open Go.Vm

theorem tpow_left {n : Nat} {A : TM} (hs : Sup n A) (k : Nat) : tpow n A (k + 1) = tmul n A (tpow n A k) := by
  rw [Nat.add_comm, tpow_add hs 1 k, tpow_one hs]
theorem star_zero {n : Nat} {A : TM} (hs : Sup n A) (hp : NP n A) {c : Nat} (hc : c < n) : star n A c c = some 0 := by
  obtain ⟨w, h1, h2⟩ := star_ge hs hp (k := 0) (i := c) (j := c) (w := 0) (by show tone n c c = _; unfold tone; rw [if_pos ⟨rfl, hc⟩])
  obtain ⟨k, hk⟩ := star_some h1
  by_cases h0 : k = 0
  · subst h0
    have hk' : tone n c c = some w := hk
    unfold tone at hk'
    rw [if_pos ⟨rfl, hc⟩] at hk'
    rw [h1, hk']
  · have := hp k c (by omega) w hk
    rw [h1, show w = 0 by omega]
/-- A node on a closed path of weight 0. -/
def Crit (n : Nat) (A : TM) (c : Nat) : Prop := tmul n A (star n A) c c = some 0
theorem crit_of {n : Nat} {A : TM} (hs : Sup n A) (hp : NP n A) {L c : Nat} (hL : 0 < L) (h : tpow n A L c c = some 0) : Crit n A c := by
  obtain ⟨k, rfl⟩ : ∃ k, L = k + 1 := ⟨L - 1, by omega⟩
  rw [tpow_left hs] at h
  obtain ⟨l, x, y, hl, hx, hy, e⟩ := mul_some h
  obtain ⟨y', h1, h2⟩ := star_ge hs hp hy
  obtain ⟨w, h3, h4⟩ := mul_ge (B := star n A) hl hx h1
  have h5 : w ≤ 0 := by
    obtain ⟨l2, x2, y2, hl2, hx2, hy2, rfl⟩ := mul_some h3
    obtain ⟨k2, hk2⟩ := star_some hy2
    obtain ⟨w2, g1, g2⟩ := mul_ge (n := n) (B := tpow n A k2) hl2 hx2 hk2
    rw [← tpow_left hs] at g1
    have := hp (k2 + 1) c (by omega) w2 g1; omega
  show tmul n A (star n A) c c = some 0
  rw [h3, show w = 0 by omega]
theorem crit_ex {n : Nat} {A : TM} {p q : Int} (hs : Sup n A) (h : MeanOf n A p q) : ∃ c, c < n ∧ Crit n (gain A p q) c := by
  obtain ⟨L, c, hL, hc⟩ := h.zero
  have hs' := gain_sup hs p q
  refine ⟨c, Classical.byContradiction fun hn => ?_, crit_of hs' h.np hL hc⟩
  rw [tpow_sup hs' L c c fun h => hn h.1] at hc; cases hc

/-- THE EIGENVECTOR: the best ways to a critical node solve the equation. -/
theorem eig_eq {n : Nat} {A : TM} (hs : Sup n A) (hp : NP n A) {c : Nat} (hc : c < n) (hcr : Crit n A c) (i : Nat) : tmul n A (star n A) i c = star n A i c := by
  have hle : ∀ w, tmul n A (star n A) i c = some w → ∃ w', star n A i c = some w' ∧ w ≤ w' := by
    intro w hw
    obtain ⟨l, x, y, hl, hx, hy, rfl⟩ := mul_some hw
    obtain ⟨k, hk⟩ := star_some hy
    obtain ⟨w2, g1, g2⟩ := mul_ge (n := n) (B := tpow n A k) hl hx hk
    rw [← tpow_left hs] at g1
    obtain ⟨w3, g3, g4⟩ := star_ge hs hp g1
    exact ⟨w3, g3, by omega⟩
  have hge : ∀ w, star n A i c = some w → ∃ w', tmul n A (star n A) i c = some w' ∧ w ≤ w' := by
    intro w hw
    by_cases e : i = c
    · subst e
      rw [star_zero hs hp hc] at hw
      cases hw
      exact ⟨0, hcr, Int.le_refl _⟩
    · obtain ⟨k, hk⟩ := star_some hw
      cases k with
      | zero =>
        have hk' : tone n i c = some w := hk
        unfold tone at hk'
        rw [if_neg (fun h => e h.1)] at hk'; cases hk'
      | succ k =>
        rw [tpow_left hs] at hk
        obtain ⟨l, x, y, hl, hx, hy, rfl⟩ := mul_some hk
        obtain ⟨y', h1, h2⟩ := star_ge hs hp hy
        obtain ⟨w', h3, h4⟩ := mul_ge (B := star n A) hl hx h1
        exact ⟨w', h3, by omega⟩
  cases h1 : tmul n A (star n A) i c with
  | none =>
    cases h2 : star n A i c with
    | none => rfl
    | some w => obtain ⟨w', h3, _⟩ := hge w h2; rw [h1] at h3; cases h3
  | some w =>
    obtain ⟨w', h3, h4⟩ := hle w h1
    obtain ⟨w2, h5, h6⟩ := hge w' h3
    rw [h1] at h5; cases h5
    rw [h3, show w = w' by omega]

/-- The first node whose element of the diagonal is 0. -/
def firstZ (P : Nat → Nat → Int) (n : Nat) : Nat → Nat
  | 0 => 0
  | k + 1 => if P (n - (k + 1)) (n - (k + 1)) = 0 then n - (k + 1) else firstZ P n k
def leastC (P : Nat → Nat → Int) (n : Nat) : Nat := firstZ P n n
theorem firstZ_spec {P : Nat → Nat → Int} {n : Nat} : ∀ {k : Nat}, k ≤ n → (∃ i, n - k ≤ i ∧ i < n ∧ P i i = 0) → firstZ P n k < n ∧ P (firstZ P n k) (firstZ P n k) = 0
  | 0, _, h => by obtain ⟨i, h1, h2, _⟩ := h; omega
  | k + 1, hk, h => by
    unfold firstZ
    split
    · rename_i hz; exact ⟨by omega, hz⟩
    · rename_i hz
      obtain ⟨i, h1, h2, h3⟩ := h
      refine firstZ_spec (by omega) ⟨i, ?_, h2, h3⟩
      by_cases e : i = n - (k + 1)
      · subst e; exact absurd h3 hz
      · omega
theorem leastC_yes {P : Nat → Nat → Int} {n i : Nat} (hi : i < n) (h : ∀ j, j < i → P j j ≠ 0) (h0 : P i i = 0) : leastC P n = i := by
  have key : ∀ k, k ≤ n → n - k ≤ i → firstZ P n k = i := by
    intro k
    induction k with
    | zero => intro _ h; omega
    | succ k ih =>
      intro hk hi'
      unfold firstZ
      by_cases e : n - (k + 1) = i
      · rw [e, if_pos h0]
      · rw [if_neg (h _ (by omega))]
        exact ih (by omega) (by omega)
  exact key n (Nat.le_refl _) (by omega)
theorem leastC_no {P : Nat → Nat → Int} {n : Nat} (h : ∀ j, j < n → P j j ≠ 0) : leastC P n = 0 := by
  have key : ∀ k, k ≤ n → firstZ P n k = 0 := by
    intro k
    induction k with
    | zero => intro _; rfl
    | succ k ih =>
      intro hk
      unfold firstZ
      rw [if_neg (h _ (by omega))]
      exact ih (by omega)
  exact key n (Nat.le_refl _)

/-- Where x is first. -/
def idxI : List Int → Int → Int → Int
  | [], _, _ => -1
  | y :: l, x, i => if x = y then i else idxI l x (i + 1)
theorem idxI_drop {l : List Int} {i : Nat} (hi : i < l.length) (x j : Int) : idxI (l.drop i) x j = if x = l[i] then j else idxI (l.drop (i + 1)) x (j + 1) := by
  rw [List.drop_eq_getElem_cons hi]; rfl
theorem idxI_mem : ∀ (l : List Int) (x i : Int), 0 ≤ i → (0 ≤ idxI l x i ↔ x ∈ l)
  | [], x, i, _ => by simp [idxI]
  | y :: l, x, i, h => by
    unfold idxI
    split
    · rename_i e; subst e; simp [h]
    · rename_i e
      rw [idxI_mem l x (i + 1) (by omega)]; simp [e]

/-- What is known of a gain matrix. -/
structure GSt (n : Nat) (g : Nat → Nat → Int) : Prop where
  n1 : 1 ≤ n
  n6 : n ≤ 6
  gd : GoodM 12000 g
  sup : Sup n (DM g)
  np : NP n (DM g)
  zero : ∃ L c, 0 < L ∧ tpow n (DM g) L c c = some 0
theorem Small.gst {n : Nat} {a : Nat → Nat → Int} (h : Small n a) {p q : Int} (hm : meanI n a = some (p, q)) : GSt n (gainI a p q) := by
  obtain ⟨h1, _, _, _, h5, h6, h7⟩ := h.mean hm
  exact ⟨h.n1, h.n6, h5, h7, by rw [h6]; exact h1.np, by rw [h6]; exact h1.zero⟩
theorem GSt.ways {n : Nat} {g : Nat → Nat → Int} (h : GSt n g) : DM (waysI n g) = star n (DM g) := ways_dec h.gd (by omega) h.sup (by omega) (by have := h.n6; omega)
theorem GSt.wgood {n : Nat} {g : Nat → Nat → Int} (h : GSt n g) : GoodM 60000 (waysI n g) := fun i j => (ways_good h.gd (by omega) i j).mono (by have := h.n6; omega)
theorem GSt.prod {n : Nat} {g : Nat → Nat → Int} (h : GSt n g) : DM (prodI n g (waysI n g)) = tmul n (DM g) (star n (DM g)) := by
  rw [prod_dec h.gd h.wgood (by omega), h.ways]
theorem GSt.crit {n : Nat} {g : Nat → Nat → Int} (h : GSt n g) : leastC (prodI n g (waysI n g)) n < n ∧ Crit n (DM g) (leastC (prodI n g (waysI n g)) n) := by
  obtain ⟨L, c, hL, hc⟩ := h.zero
  have hcn : c < n := Classical.byContradiction fun hn => by rw [tpow_sup h.sup L c c fun h => hn h.1] at hc; cases hc
  have key : ∀ i, Crit n (DM g) i ↔ prodI n g (waysI n g) i i = 0 := by
    intro i
    unfold Crit
    rw [← h.prod]
    show dec _ = some 0 ↔ _
    constructor
    · intro e
      unfold dec at e
      split at e
      · cases e
      · simpa using e
    · intro e; rw [e]; exact dec_some (by decide)
  have h1 := (key c).1 (crit_of h.sup h.np hL hc)
  obtain ⟨h2, h3⟩ := firstZ_spec (P := prodI n g (waysI n g)) (n := n) (k := n) (Nat.le_refl _) ⟨c, by omega, hcn, h1⟩
  exact ⟨h2, (key _).2 h3⟩
/-- .. in numbers. -/
theorem GSt.eq {n : Nat} {g : Nat → Nat → Int} (h : GSt n g) {c : Nat} (hc : c < n) (hcr : Crit n (DM g) c) (hcon : ∀ i, i < n → waysI n g i c ≠ Nv) {i : Nat} (hi : i < n) :
    (∀ j, j < n → g i j ≠ Nv → g i j + waysI n g j c ≤ waysI n g i c) ∧ ∃ j, j < n ∧ g i j ≠ Nv ∧ g i j + waysI n g j c = waysI n g i c := by
  have e := eig_eq h.sup h.np hc hcr i
  have hS : ∀ j, j < n → star n (DM g) j c = some (waysI n g j c) := fun j hj => by
    rw [← h.ways]; exact dec_some (hcon j hj)
  rw [hS i hi] at e
  constructor
  · intro j hj hne
    obtain ⟨w, h1, h2⟩ := mul_ge (n := n) (A := DM g) (i := i) hj (dec_some hne) (hS j hj)
    rw [e] at h1; cases h1; exact h2
  · obtain ⟨l, x, y, hl, hx, hy, he⟩ := mul_some e
    rw [hS l hl] at hy
    cases hy
    have hx' : dec (g i l) = some x := hx
    unfold dec at hx'
    split at hx'
    · cases hx'
    · rename_i hne
      cases hx'
      exact ⟨l, hl, hne, by omega⟩
end Go.Cy
namespace Go.Cy
open Go.Vm

/-- The divisor of the lengths of the closed paths of weight 0, up to k arcs. -/
def lenI (n : Nat) (g : Nat → Nat → Int) : Nat → Nat → Nat
  | 0, _ => 0
  | k + 1, i => if pwI n g (k + 1) i i = 0 then Nat.gcd (lenI n g k i) (k + 1) else lenI n g k i
theorem lenI_le (n : Nat) (g : Nat → Nat → Int) (i : Nat) : ∀ k, lenI n g k i ≤ k
  | 0 => Nat.le_refl _
  | k + 1 => by
    unfold lenI
    split
    · exact Nat.gcd_le_right _ (by omega)
    · exact Nat.le_succ_of_le (lenI_le n g i k)
/-- The least common multiple of the first i. -/
def comI (l : Nat → Nat) : Nat → Nat
  | 0 => 1
  | i + 1 => if 0 < l i then comI l i * (l i / Nat.gcd (comI l i) (l i)) else comI l i
theorem comI_pos (l : Nat → Nat) : ∀ i, 1 ≤ comI l i
  | 0 => Nat.le_refl _
  | i + 1 => by
    unfold comI
    split
    · rename_i h
      have h1 := comI_pos l i
      have : 1 ≤ l i / Nat.gcd (comI l i) (l i) := (Nat.le_div_iff_mul_le (Nat.gcd_pos_of_pos_right _ h)).2 (by rw [Nat.one_mul]; exact Nat.gcd_le_right _ h)
      exact Nat.mul_pos h1 this
    · exact comI_pos l i
theorem comI_le {l : Nat → Nat} {B : Nat} (hB : ∀ i, l i ≤ B) (h1 : 1 ≤ B) : ∀ i, comI l i ≤ B ^ i
  | 0 => Nat.le_refl _
  | i + 1 => by
    unfold comI
    rw [Nat.pow_succ]
    split
    · exact Nat.mul_le_mul (comI_le hB h1 i) (Nat.le_trans (Nat.div_le_self _ _) (hB i))
    · exact Nat.le_trans (comI_le hB h1 i) (Nat.le_mul_of_pos_right _ h1)
def cycI (n : Nat) (g : Nat → Nat → Int) : Nat := comI (lenI n g (3 * n)) n
theorem cycI_pos (n : Nat) (g : Nat → Nat → Int) : 1 ≤ cycI n g := comI_pos _ _

def eqK (n : Nat) (g : Nat → Nat → Int) (per k : Nat) : Bool := decide (per + 1 ≤ k) && decide (genM n n (pwI n g k) = genM n n (pwI n g (k - per)))
def repK (n : Nat) (g : Nat → Nat → Int) : Option Nat := (List.range 401).find? fun k => eqK n g (cycI n g) k
theorem repK_some {n : Nat} {g : Nat → Nat → Int} {k : Nat} (hk : k ≤ 400) (h : eqK n g (cycI n g) k = true) (hb : ∀ j, j < k → eqK n g (cycI n g) j = false) : repK n g = some k := by
  unfold repK
  rw [List.find?_range_eq_some]
  exact ⟨h, by simp; omega, fun j hj => by rw [hb j hj]; rfl⟩
theorem repK_none {n : Nat} {g : Nat → Nat → Int} (hb : ∀ j, j ≤ 400 → eqK n g (cycI n g) j = false) : repK n g = none := by
  unfold repK
  rw [List.find?_eq_none]
  intro j hj
  rw [hb j (by have := List.mem_range.1 hj; omega)]; simp
theorem repK_inv {n : Nat} {g : Nat → Nat → Int} {k : Nat} (h : repK n g = some k) : k ≤ 400 ∧ cycI n g + 1 ≤ k ∧ genM n n (pwI n g k) = genM n n (pwI n g (k - cycI n g)) := by
  unfold repK at h
  rw [List.find?_range_eq_some] at h
  obtain ⟨h1, h2, _⟩ := h
  unfold eqK at h1
  simp only [Bool.and_eq_true, decide_eq_true_eq] at h1
  exact ⟨by have := List.mem_range.1 h2; omega, h1.1, h1.2⟩

theorem genM_ext {n : Nat} {f g : Nat → Nat → Int} (h : genM n n f = genM n n g) : ∀ i, i < n → ∀ j, j < n → f i j = g i j := by
  intro i hi j hj
  have h1 : ((genM n n f).getD i []).getD j 0 = ((genM n n g).getD i []).getD j 0 := by rw [h]
  simpa [genM, hi, hj] using h1
theorem genM_eq {n : Nat} {f g : Nat → Nat → Int} (h : ∀ i, i < n → ∀ j, j < n → f i j = g i j) : genM n n f = genM n n g := by
  unfold genM
  refine List.map_congr_left fun i hi => List.map_congr_left fun j hj => h i (by simpa using hi) j (by simpa using hj)
theorem GSt.pow {n : Nat} {g : Nat → Nat → Int} (h : GSt n g) {k : Nat} (hk : k ≤ 1000) : DM (pwI n g k) = tpow n (DM g) k := pw_dec h.gd (by omega) (by omega)
/-- Where the powers have repeated once, they repeat. -/
theorem GSt.repeats {n : Nat} {g : Nat → Nat → Int} (h : GSt n g) {k : Nat} (hr : repK n g = some k) (t : Nat) : tpow n (DM g) (k + t) = tpow n (DM g) (k - cycI n g + t) := by
  obtain ⟨h1, h2, h3⟩ := repK_inv hr
  have e : tpow n (DM g) k = tpow n (DM g) (k - cycI n g) := by
    rw [← h.pow (by omega), ← h.pow (by omega)]
    funext i j
    by_cases hij : i < n ∧ j < n
    · show dec _ = dec _
      rw [genM_ext h3 i hij.1 j hij.2]
    · rw [h.pow (by omega), h.pow (by omega), tpow_sup h.sup _ _ _ hij, tpow_sup h.sup _ _ _ hij]
  rw [tpow_add h.sup, tpow_add h.sup, e]

/-- .. of a small matrix: the powers grow by the mean times the period. -/
theorem Small.repeats {n : Nat} {a : Nat → Nat → Int} (h : Small n a) {p q : Int} (hm : meanI n a = some (p, q)) {k : Nat} (hr : repK n (gainI a p q) = some k) :
    (∃ z : Int, (cycI n (gainI a p q) : Nat) * p = q * z ∧ ∀ t r s, tpow n (DM a) (k + t) r s = (tpow n (DM a) (k - cycI n (gainI a p q) + t) r s).map (· + z)) := by
  have hg := h.gst hm
  obtain ⟨m1, _, m3, _, _, m6, _⟩ := h.mean hm
  obtain ⟨h1, h2, _⟩ := repK_inv hr
  have hq : 0 < q := m3.1
  generalize hc : cycI n (gainI a p q) = c at *
  have key : ∀ t r s, (tpow n (DM a) (k + t) r s).map (fun x => q * x - p * ((k + t : Nat) : Int)) = (tpow n (DM a) (k - c + t) r s).map fun x => q * x - p * ((k - c + t : Nat) : Int) := by
    intro t r s
    rw [← pow_gain hq, ← pow_gain hq, ← m6]
    have := hg.repeats hr t
    rw [hc] at this
    rw [this]
  have key2 : ∀ t r s x, tpow n (DM a) (k - c + t) r s = some x → ∃ y, tpow n (DM a) (k + t) r s = some y ∧ q * (y - x) = (c : Int) * p := by
    intro t r s x hx
    have e := key t r s
    rw [hx] at e
    obtain ⟨y, hy, e2⟩ := Option.map_eq_some_iff.1 e
    refine ⟨y, hy, ?_⟩
    replace e2 : q * y - p * ((k + t : Nat) : Int) = q * x - p * ((k - c + t : Nat) : Int) := e2
    have e3 : ((k + t : Nat) : Int) = ((k - c + t : Nat) : Int) + (c : Int) := by omega
    rw [e3, Int.mul_add] at e2
    rw [Int.mul_sub, Int.mul_comm (c : Int) p]; omega
  obtain ⟨L, c0, hL, hz⟩ := m1.zero
  have hpos : ∀ t, ∃ w, tpow n (gain (DM a) p q) (L * t) c0 c0 = some w := by
    have hs := gain_sup h.sup p q
    have hcn : c0 < n := Classical.byContradiction fun hn => by rw [tpow_sup hs L c0 c0 fun h => hn h.1] at hz; cases hz
    intro t
    induction t with
    | zero => exact ⟨0, by show tone n c0 c0 = _; unfold tone; rw [if_pos ⟨rfl, hcn⟩]⟩
    | succ t ih =>
      obtain ⟨w, hw⟩ := ih
      rw [Nat.mul_succ, tpow_add hs]
      obtain ⟨w', h3, _⟩ := mul_ge (n := n) hcn hw hz
      exact ⟨w', h3⟩
  obtain ⟨w, hw⟩ := hpos k
  rw [pow_gain hq] at hw
  obtain ⟨x, hx, _⟩ := Option.map_eq_some_iff.1 hw
  have hLk : k ≤ L * k := Nat.le_mul_of_pos_left k hL
  obtain ⟨y, _, hy⟩ := key2 (L * k - (k - c)) c0 c0 x (by rw [show k - c + (L * k - (k - c)) = L * k by omega]; exact hx)
  refine ⟨y - x, hy.symm, fun t r s => ?_⟩
  cases h2 : tpow n (DM a) (k - c + t) r s with
  | none =>
    have e := key t r s
    rw [h2] at e
    cases h3 : tpow n (DM a) (k + t) r s with
    | none => rfl
    | some z => rw [h3] at e; cases e
  | some x2 =>
    obtain ⟨y2, h3, h4⟩ := key2 t r s x2 h2
    rw [h3]
    have : q * (y2 - x2) = q * (y - x) := by rw [h4, hy]
    have := Int.eq_of_mul_eq_mul_left (by omega) this
    simp; omega
end Go.Cy

end
section
/-
  MATRICES of bounds as structs of seventeen cells; zones that are valid; what the operations make of them.
-/
namespace Go.Zn
def set2 (a : Nat → Nat → Int) (i j : Nat) (v : Int) : Nat → Nat → Int := fun x y => if x = i ∧ y = j then v else a x y
def zf (z : List (List Int)) : Nat → Nat → Int := fun i j => (z.getD i []).getD j 0
def bndB (most b : Int) : Bool := decide (b = 1099511627776) || (decide (-(2 * most) ≤ b) && decide (b ≤ 2 * most + 1))
def zrow (n : Nat) (r : List Int) : Bool := decide (r.length = n) && r.all (bndB 1000)
def validZ (z : List (List Int)) : Bool := (decide (2 ≤ z.length) && decide (z.length ≤ 4)) && z.all (zrow z.length)
def zpt (z : List (List Int)) (i j : Nat) : Nat → Nat → Int := fun x y => if x < i ∨ (x = i ∧ y < j) then zf z x y else 0
def floP (a : Nat → Nat → Int) (i : Nat) : Nat → Nat → Int := fun x y => if (x = 0 ∧ y < i) ∨ (x = y ∧ x < i) then min (a x y) 1 else a x y
def flo (n : Nat) (a : Nat → Nat → Int) : Nat → Nat → Int := floP a n
def tightM (n : Nat) (a : Nat → Nat → Int) : Nat → Nat → Int := fw cops n (flo n a)
def emptyB (n : Nat) (a : Nat → Nat → Int) : Bool := (List.range n).any fun i => decide (a i i < 1)
def inclB (n : Nat) (a b : Nat → Nat → Int) : Bool := (List.range n).all fun i => (List.range n).all fun j => decide (b i j ≤ a i j)
def delP (a : Nat → Nat → Int) (i : Nat) : Nat → Nat → Int := fun x y => if y = 0 ∧ 1 ≤ x ∧ x < i then 1099511627776 else a x y
def delM (n : Nat) (a : Nat → Nat → Int) : Nat → Nat → Int := delP a n
def rowR (a : Nat → Nat → Int) (c : Nat) : Nat → Nat → Int := fun x y => if x = c then a 0 y else a x y
def colP (a : Nat → Nat → Int) (c i : Nat) : Nat → Nat → Int := fun x y => if y = c ∧ x < i then a x 0 else a x y
def oneR (n : Nat) (a : Nat → Nat → Int) (c : Nat) : Nat → Nat → Int := colP (rowR a c) c n
def resP (n : Nat) (set : Nat) (a : Nat → Nat → Int) : Nat → Nat → Nat → Int
  | 0 => a
  | c + 1 => if set.testBit (c + 1) then oneR n (resP n set a c) (c + 1) else resP n set a c
def resM (n : Nat) (set : Nat) (a : Nat → Nat → Int) : Nat → Nat → Int := resP n set a (n - 1)

theorem getD_over {α : Type} {l : List α} {i : Nat} {d : α} (h : l.length ≤ i) : l.getD i d = d := by simp [List.getD, List.getElem?_eq_none h]
theorem set2_zpt {z : List (List Int)} {i j : Nat} (v : Int) (h : v = zf z i j) : set2 (zpt z i j) i j v = zpt z i (j + 1) := by
  funext x y
  subst h
  unfold set2 zpt
  by_cases hc : x = i ∧ y = j
  · rw [if_pos hc, if_pos (by omega), hc.1, hc.2]
  · rw [if_neg hc]
    by_cases hd : x < i ∨ (x = i ∧ y < j)
    · rw [if_pos hd, if_pos (by omega)]
    · rw [if_neg hd, if_neg (by omega)]
theorem zpt_next {z : List (List Int)} {i n : Nat} (h : (z.getD i []).length ≤ n) : zpt z i n = zpt z (i + 1) 0 := by
  funext x y
  unfold zpt
  by_cases hd : x < i + 1 ∨ (x = i + 1 ∧ y < 0)
  · rw [if_pos hd]
    by_cases he : x < i ∨ (x = i ∧ y < n)
    · rw [if_pos he]
    · rw [if_neg he]
      have : x = i := by omega
      subst this
      unfold zf
      rw [getD_over (by omega)]
  · rw [if_neg hd, if_neg (by omega)]
theorem zpt_zero {z : List (List Int)} : zpt z 0 0 = fun _ _ => 0 := by
  funext x y
  unfold zpt
  rw [if_neg (by omega)]
theorem zpt_end {z : List (List Int)} {i : Nat} (h : z.length ≤ i) : zpt z i 0 = zf z := by
  funext x y
  unfold zpt
  by_cases hd : x < i ∨ (x = i ∧ y < 0)
  · rw [if_pos hd]
  · rw [if_neg hd]
    unfold zf
    rw [getD_over (l := z) (by omega)]; rfl
theorem set2_floP {a : Nat → Nat → Int} {i : Nat} : set2 (set2 (floP a i) 0 i (min (floP a i 0 i) 1)) i i (min (set2 (floP a i) 0 i (min (floP a i 0 i) 1) i i) 1) = floP a (i + 1) := by
  funext x y
  unfold set2 floP
  by_cases h1 : x = i ∧ y = i
  · obtain ⟨e1, e2⟩ := h1
    subst e1
    subst e2
    by_cases h0 : y = 0
    · subst h0; simp
    · rw [if_pos ⟨rfl, rfl⟩, if_neg (by omega), if_neg (by omega), if_pos (by omega)]
  · rw [if_neg h1]
    by_cases h2 : x = 0 ∧ y = i
    · obtain ⟨rfl, rfl⟩ := h2
      rw [if_pos ⟨rfl, rfl⟩, if_neg (by omega), if_pos (by omega)]
    · rw [if_neg h2]
      by_cases h3 : (x = 0 ∧ y < i) ∨ (x = y ∧ x < i)
      · rw [if_pos h3, if_pos (by omega)]
      · rw [if_neg h3, if_neg (by omega)]
theorem floP_zero {a : Nat → Nat → Int} : floP a 0 = a := by
  funext x y
  unfold floP
  rw [if_neg (by omega)]
theorem set2_up {a : Nat → Nat → Int} {k i j : Nat} : set2 a i j (min (a i j) (bsum (a i k) (a k j))) = up cops a k i j := rfl
theorem set2_delP {a : Nat → Nat → Int} {i : Nat} (hi : 1 ≤ i) : set2 (delP a i) i 0 1099511627776 = delP a (i + 1) := by
  funext x y
  unfold set2 delP
  by_cases h1 : x = i ∧ y = 0
  · rw [if_pos h1, if_pos (by omega)]
  · rw [if_neg h1]
    by_cases h3 : y = 0 ∧ 1 ≤ x ∧ x < i
    · rw [if_pos h3, if_pos (by omega)]
    · rw [if_neg h3, if_neg (by omega)]
theorem delP_one {a : Nat → Nat → Int} : delP a 1 = a := by
  funext x y
  unfold delP
  rw [if_neg (by omega)]
theorem set2_colP {a : Nat → Nat → Int} {c i : Nat} (hc : 1 ≤ c) : set2 (colP a c i) i c (colP a c i i 0) = colP a c (i + 1) := by
  funext x y
  unfold set2 colP
  by_cases h1 : x = i ∧ y = c
  · obtain ⟨rfl, rfl⟩ := h1
    rw [if_pos ⟨rfl, rfl⟩, if_neg (by omega), if_pos (by omega)]
  · rw [if_neg h1]
    by_cases h3 : y = c ∧ x < i
    · rw [if_pos h3, if_pos (by omega)]
    · rw [if_neg h3, if_neg (by omega)]
theorem colP_zero {a : Nat → Nat → Int} {c : Nat} : colP a c 0 = a := by
  funext x y
  unfold colP
  rw [if_neg (by omega)]
end Go.Zn
namespace Go.Vm
open Go.Zn
/-- The cells of a matrix. -/
def mc (n : Nat) (a : Nat → Nat → Int) : List DV := DI n :: (List.range 16).map fun k => DI (a (k / 4) (k % 4))
abbrev mcx (n : Nat) (a : Nat → Nat → Int) : List XV := (mc n a).map .d
theorem mc_len {n : Nat} {a : Nat → Nat → Int} : (mc n a).length = 17 := rfl
theorem mcx_len {n : Nat} {a : Nat → Nat → Int} : (mcx n a).length = 17 := rfl
theorem mcx_get {n : Nat} {a : Nat → Nat → Int} {i j : Nat} (hi : i < 4) (hj : j < 4) : (mcx n a)[0 + 1 + i * 4 + j * 1]? = some (.d (DI (a i j))) := by
  rw [show 0 + 1 + i * 4 + j * 1 = (i * 4 + j) + 1 by omega]
  unfold mcx mc
  rw [List.map_cons, List.getElem?_cons_succ, List.map_map, List.getElem?_map, List.getElem?_range (by omega)]
  show some (XV.d (DI (a ((i * 4 + j) / 4) ((i * 4 + j) % 4)))) = _
  rw [show (i * 4 + j) / 4 = i by omega, show (i * 4 + j) % 4 = j by omega]
theorem mcx_set {n : Nat} {a : Nat → Nat → Int} {i j : Nat} {v : Int} (hi : i < 4) (hj : j < 4) : (mcx n a).set (0 + 1 + i * 4 + j * 1) (.d (DI v)) = mcx n (set2 a i j v) := by
  rw [show 0 + 1 + i * 4 + j * 1 = (i * 4 + j) + 1 by omega]
  unfold mcx mc
  rw [List.map_cons, List.map_cons, List.set_cons_succ, List.map_map, List.map_map]
  congr 1
  refine List.ext_getElem? fun k => ?_
  rw [List.getElem?_set]
  by_cases hk : k < 16
  · by_cases e : i * 4 + j = k
    · subst e
      rw [if_pos rfl, if_pos (by simpa using hk), List.getElem?_map, List.getElem?_range hk]
      show _ = some (XV.d (DI (set2 a i j v ((i * 4 + j) / 4) ((i * 4 + j) % 4))))
      rw [show (i * 4 + j) / 4 = i by omega, show (i * 4 + j) % 4 = j by omega]
      unfold set2
      rw [if_pos ⟨rfl, rfl⟩]
    · rw [if_neg e, List.getElem?_map, List.getElem?_map, List.getElem?_range hk]
      show some (XV.d (DI (a (k / 4) (k % 4)))) = some (XV.d (DI (set2 a i j v (k / 4) (k % 4))))
      unfold set2
      rw [if_neg (by omega)]
  · rw [if_neg (by omega), List.getElem?_eq_none (by simp; omega), List.getElem?_eq_none (by simp; omega)]
section
variable {P : Program} {n : Nat} {ops : Array Oper} {l : List Oper} {σ : List VObj} {kn : Kn} {dst : Option Tmp} {ty : TypeId} {pos : String} {af : Array Edge} {g : Option (Nat × Bool)}
  {R : List Nat → List VObj → Kn → Prop}
/-- An element is read. -/
theorem K.getM {x : Operand} {t : TypeId} {id off md m i j : Nat} {a : Nat → Nat → Int} (hx : evK kn x = some (.optr id off)) (ho : σ[id]? = some ⟨mcx m a, md⟩) (hoff : off = 0 + 1 + i * 4 + j * 1) (hi : i < 4) (hj : j < 4) (h2 : md ≠ 2) (ht : isAggT P t = some false) :
    KEv P ⟨dst, .load t x, ty, pos, af, g⟩ σ kn (.d (DI (a i j))) σ 1 := by
  subst hoff
  exact K.loadO hx ho h2 (mcx_get hi hj) ht
/-- An element is written. -/
theorem KT.putM {x y : Operand} {t : TypeId} {id off m i j : Nat} {a : Nat → Nat → Int} {v : Int} (hg : guardK ops kn ⟨dst, .store t x y, ty, pos, af, g⟩ = some true) (hd : dstOk n dst = true) (hx : evK kn x = some (.optr id off)) (hy : evK kn y = some (.d (DI v)))
    (ho : σ[id]? = some ⟨mcx m a, 0⟩) (hoff : off = 0 + 1 + i * 4 + j * 1) (hi : i < 4) (hj : j < 4) (hs : sizeT P t = some 1)
    (h : KT P n ops l (σ.set id ⟨mcx m (set2 a i j v), 0⟩) (extK dst undefX kn) (fun fls τ k => R (2 :: fls) τ k)) :
    KT P n ops (⟨dst, .store t x y, ty, pos, af, g⟩ :: l) σ kn R := by
  subst hoff
  refine KT.step hg hd (K.storeO hx hy ho (by rw [mcx_len]; omega) rfl rfl hs) ?_
  rw [mcx_set hi hj]
  exact h
/-- All cells of a variable are written. -/
theorem KT.putAll {x y : Operand} {t : TypeId} {id : Nat} {cells cs : List XV} {v : XV} (hg : guardK ops kn ⟨dst, .store t x y, ty, pos, af, g⟩ = some true) (hd : dstOk n dst = true) (hx : evK kn x = some (.optr id 0)) (hy : evK kn y = some v)
    (ho : σ[id]? = some ⟨cells, 0⟩) (hc : cellsX v = cs) (hz : cells.length = cs.length) (h1 : cs.all oneX = true) (hs : sizeT P t = some cs.length)
    (h : KT P n ops l (σ.set id ⟨cs, 0⟩) (extK dst undefX kn) (fun fls τ k => R (2 :: fls) τ k)) :
    KT P n ops (⟨dst, .store t x y, ty, pos, af, g⟩ :: l) σ kn R := by
  subst hc
  refine KT.step hg hd (K.storeN hx hy ho (by omega) h1 hs) ?_
  rw [splice_all hz]
  exact h
theorem mcx_one {n : Nat} {a : Nat → Nat → Int} : (mcx n a).all oneX = true := rfl
/-- A call of a function value that brings variables of its own. -/
theorem K.callC {c : Operand} {v : XV} {f : FuncId} {args : Array Operand} {ts : Array TypeId} {ds cs : List DV} {res : DV} (hv : evK kn c = some v) (hf : asFn v = some (f, [], cs.map .d)) (ha : args.toList.mapM (evK kn) = some (ds.map .d))
    (hp : plainFn P f = true) (hc : DeepCall P f (ds ++ cs) res) : KEv P ⟨dst, .call ⟨.value c, args, ts⟩, ty, pos, af, g⟩ σ kn (.d res) σ 0 := fun env he =>
  .call (first := []) (caps := cs.map .d) rfl (by rw [evK_evalX he hv]; exact hf) hp (by rw [mapM_evK he ha]; simp) hc
end
section
variable {P : Program} {σ : List VObj} {kn : Kn}
/-- One result, that lies in a variable. -/
theorem resK_c {fn : Func} {a t id m md : Nat} (ds : List DV) (hr : fn.results = #[.cell a t]) (hl : look kn a = some (.optr id 0)) (ho : σ[id]? = some ⟨ds.map .d, md⟩) (h2 : md ≠ 2) (ha : isAggT P t = some true) (hs : sizeT P t = some m) (hm : ds.length = m) :
    resK P fn σ kn = some (.d (.agg ds)) := by
  have := resK_agg (m := m) hr hl ho h2 ha hs (by simp; omega)
  rwa [List.drop_zero, List.take_of_length_le (by simp; omega), aggX_d] at this
end
end Go.Vm

end
section
/-
  BITS of bounds; the ends of walks over matrices.
-/
namespace Go.Zn
def gre (b den : Int) : Int := b / 2 * den - 1 + b % 2
def rdN (z : List (List Int)) : Nat := if validZ z then z.length else 0
def rdA (z : List (List Int)) : Nat → Nat → Int := if validZ z then zf z else fun _ _ => 0
theorem inclB_true {n : Nat} {a b : Nat → Nat → Int} (h : ∀ p q, p < n → q < n → b p q ≤ a p q) : inclB n a b = true :=
  List.all_eq_true.2 fun i hi => List.all_eq_true.2 fun j hj => decide_eq_true (h i j (List.mem_range.1 hi) (List.mem_range.1 hj))
theorem inclB_iff {n : Nat} {a b : Nat → Nat → Int} : inclB n a b = true ↔ ∀ p q, p < n → q < n → b p q ≤ a p q :=
  ⟨fun h p q hp hq => of_decide_eq_true (List.all_eq_true.1 (List.all_eq_true.1 h p (List.mem_range.2 hp)) q (List.mem_range.2 hq)), inclB_true⟩
theorem inclB_false {n i j : Nat} {a b : Nat → Nat → Int} (hi : i < n) (hj : j < n) (h : ¬ b i j ≤ a i j) : inclB n a b = false := by
  cases hb : inclB n a b with
  | false => rfl
  | true => exact absurd (inclB_iff.1 hb i j hi hj) h
theorem emptyB_iff {n : Nat} {a : Nat → Nat → Int} : emptyB n a = true ↔ ∃ i, i < n ∧ a i i < 1 := by
  unfold emptyB
  rw [List.any_eq_true]
  exact ⟨fun ⟨i, h1, h2⟩ => ⟨i, List.mem_range.1 h1, of_decide_eq_true h2⟩, fun ⟨i, h1, h2⟩ => ⟨i, List.mem_range.2 h1, decide_eq_true h2⟩⟩
end Go.Zn
namespace Go.Vm
open Go.Zn
theorem shr1 (a : Int) : Int.fdiv a (2 ^ min ((1 : Int)).toNat IntKind.i64.bits) = a / 2 := by
  show Int.fdiv a 2 = a / 2
  exact Int.fdiv_eq_ediv_of_nonneg a (by decide)
theorem wrap_mod2 (n : Int) : IntKind.i64.wrap n % 2 = n % 2 := by
  simp [IntKind.wrap, IntKind.bits, IntKind.signed]; split <;> omega
theorem low_bit (x : Int) : (BitVec.ofInt 64 x).toNat % 2 = (x % 2).toNat := by
  rw [BitVec.toNat_ofInt]
  omega
theorem wrap_small {n : Nat} (h : n < 2) : IntKind.i64.wrap (n : Int) = n := wrap_id (by omega)
theorem andOne (x : Int) : IntKind.i64.wrap (BitVec.ofInt IntKind.i64.bits x &&& BitVec.ofInt IntKind.i64.bits 1).toNat = x % 2 := by
  show IntKind.i64.wrap (BitVec.ofInt 64 x &&& BitVec.ofInt 64 1).toNat = x % 2
  have e : (BitVec.ofInt 64 x &&& BitVec.ofInt 64 1).toNat = (x % 2).toNat := by
    rw [BitVec.toNat_and, show (BitVec.ofInt 64 1).toNat = 1 from rfl, Nat.and_one_is_mod, low_bit]
  rw [e, wrap_small (by omega)]
  omega
theorem and2 (x y : Int) : IntKind.i64.wrap (BitVec.ofInt IntKind.i64.bits (IntKind.i64.wrap (BitVec.ofInt IntKind.i64.bits x &&& BitVec.ofInt IntKind.i64.bits y).toNat) &&& BitVec.ofInt IntKind.i64.bits 1).toNat = min (x % 2) (y % 2) := by
  rw [andOne]
  show (IntKind.i64.wrap (BitVec.ofInt 64 x &&& BitVec.ofInt 64 y).toNat) % 2 = _
  rw [wrap_mod2, BitVec.toNat_and]
  have hb : (((BitVec.ofInt 64 x).toNat &&& (BitVec.ofInt 64 y).toNat : Nat) : Int) % 2 = ((((BitVec.ofInt 64 x).toNat % 2) &&& ((BitVec.ofInt 64 y).toNat % 2) : Nat) : Int) := by
    have := Nat.and_mod_two_pow (a := (BitVec.ofInt 64 x).toNat) (b := (BitVec.ofInt 64 y).toNat) (n := 1)
    simp only [Nat.pow_one] at this
    omega
  rw [hb, low_bit, low_bit]
  have hx : x % 2 = 0 ∨ x % 2 = 1 := by omega
  have hy : y % 2 = 0 ∨ y % 2 = 1 := by omega
  rcases hx with h1 | h1 <;> rcases hy with h2 | h2 <;> rw [h1, h2] <;> rfl
theorem fin_rd {σ : List VObj} {k N N' : Nat} {a a' : Nat → Nat → Int} {b b' : Bool} (h1 : N' = N) (h2 : a' = a) (h3 : b' = b) : deepen σ (k + 3) (.tup [.d (.agg (mc N a)), .d (DB b)]) = some (.tup [.agg (mc N' a'), DB b']) := by
  subst h1 h2 h3; rfl
theorem fin_mc {σ : List VObj} {k N : Nat} {a a' : Nat → Nat → Int} (h2 : a' = a) : deepen σ (k + 3) (.d (.agg (mc N a))) = some (.agg (mc N a')) := by
  subst h2; rfl
end Go.Vm

end
section
/-
  ROWS of matrices that are read and written; zones that are made of matrices.
-/
namespace Go.Vm
open Go.Zn
def zrowC (n : Nat) (a : Nat → Nat → Int) (i : Nat) : List DV := (List.range n).map fun j => DI (a i j)
def row4 (a : Nat → Nat → Int) (i : Nat) : List DV := [DI (a i 0), DI (a i 1), DI (a i 2), DI (a i 3)]
theorem mcx_row {n : Nat} {a : Nat → Nat → Int} {i : Nat} (hi : i < 4) : ((mc n a).drop (0 + 1 + i * 4)).take 4 = row4 a i := by
  match i, hi with
  | 0, _ => rfl
  | 1, _ => rfl
  | 2, _ => rfl
  | 3, _ => rfl
  | k + 4, h => omega
theorem mcx_splice {n : Nat} {a : Nat → Nat → Int} {c : Nat} (hc : c < 4) : splice (mcx n a) (0 + 1 + c * 4) ((row4 a 0).map .d) = mcx n (rowR a c) := by
  match c, hc with
  | 0, _ => rfl
  | 1, _ => rfl
  | 2, _ => rfl
  | 3, _ => rfl
  | k + 4, h => omega
section
variable {P : Program} {n : Nat} {ops : Array Oper} {l : List Oper} {σ : List VObj} {kn : Kn} {dst : Option Tmp} {ty : TypeId} {pos : String} {af : Array Edge} {g : Option (Nat × Bool)}
  {R : List Nat → List VObj → Kn → Prop}
theorem K.getRow {x : Operand} {t : TypeId} {id off md m i : Nat} {a : Nat → Nat → Int} (hx : evK kn x = some (.optr id off)) (ho : σ[id]? = some ⟨mcx m a, md⟩) (hoff : off = 0 + 1 + i * 4) (hi : i < 4) (h2 : md ≠ 2) (ht : isAggT P t = some true) (hs : sizeT P t = some 4) :
    KEv P ⟨dst, .load t x, ty, pos, af, g⟩ σ kn (.d (.agg (row4 a i))) σ 1 := by
  subst hoff
  have := K.loadOAgg (dst := dst) (ty := ty) (pos := pos) (af := af) (g := g) hx ho h2 ht hs (by rw [List.length_drop]; show 4 ≤ 17 - _; omega)
  rw [show (({ cells := mcx m a, mode := md } : VObj).cells.drop (0 + 1 + i * 4)).take 4 = (row4 a i).map .d by
    rw [← mcx_row (n := m) hi]; show (List.take 4 (List.drop _ (List.map XV.d (mc m a)))) = _
    rw [← List.map_drop, ← List.map_take], aggX_d] at this
  exact this
theorem KT.putRow {x y : Operand} {t : TypeId} {id off m c : Nat} {a : Nat → Nat → Int} (hg : guardK ops kn ⟨dst, .store t x y, ty, pos, af, g⟩ = some true) (hd : dstOk n dst = true) (hx : evK kn x = some (.optr id off)) (hy : evK kn y = some (.d (.agg (row4 a 0))))
    (ho : σ[id]? = some ⟨mcx m a, 0⟩) (hoff : off = 0 + 1 + c * 4) (hc : c < 4) (hs : sizeT P t = some 4)
    (h : KT P n ops l (σ.set id ⟨mcx m (rowR a c), 0⟩) (extK dst undefX kn) (fun fls τ k => R (2 :: fls) τ k)) :
    KT P n ops (⟨dst, .store t x y, ty, pos, af, g⟩ :: l) σ kn R := by
  subst hoff
  refine KT.step hg hd (K.storeN hx hy ho (show 0 + 1 + c * 4 + 4 ≤ 17 by omega) rfl hs) ?_
  rw [show splice (mcx m a) (0 + 1 + c * 4) (cellsX (.d (.agg (row4 a 0)))) = mcx m (rowR a c) from mcx_splice hc]
  exact h
end
theorem mcx_part {n m : Nat} {a : Nat → Nat → Int} {i : Nat} (hi : i < 4) (hm : m ≤ 4) : ((mcx n a).drop (0 + 1 + i * 4)).take m = (zrowC m a i).map .d := by
  refine List.ext_getElem? fun k => ?_
  rw [List.getElem?_take]
  by_cases hk : k < m
  · rw [if_pos hk, List.getElem?_drop, show 0 + 1 + i * 4 + k = 0 + 1 + i * 4 + k * 1 by omega, mcx_get hi (by omega)]
    unfold zrowC
    rw [List.getElem?_map, List.getElem?_map, List.getElem?_range hk]; rfl
  · rw [if_neg hk, List.getElem?_eq_none (by simp [zrowC]; omega)]
theorem frz0 {c : List XV} {o : VObj} {i : Nat} : freezeIds [⟨c, min i 1⟩, o] [0] = [⟨c, 1⟩, o] := by
  cases i with
  | zero => rfl
  | succ i => rw [show min (i + 1) 1 = 1 by omega]; rfl
theorem row_deep {n : Nat} {a : Nat → Nat → Int} {o : VObj} {i q : Nat} (hi : i < 4) (hn : n ≤ 4) : ([.osl 0 (0 + 1 + i * 4) n 1 4 true] : List XV).mapM (deepen (freezeIds [⟨mcx n a, min q 1⟩, o] [0]) 5) = some [.sl (zrowC n a i) n (some 4)] := by
  rw [frz0, List.mapM_cons, deepen_osl (ob := ⟨mcx n a, 1⟩) rfl rfl (by show 0 + 1 + i * 4 + n * 1 ≤ 17; omega), show (((⟨mcx n a, 1⟩ : VObj).cells.drop (0 + 1 + i * 4)).take (n * 1)) = (zrowC n a i).map .d by rw [Nat.mul_one]; exact mcx_part hi hn, mapM_deep]
  rfl
theorem zrowC_ints {n : Nat} {a : Nat → Nat → Int} {i : Nat} {cap : Option Nat} : Ints (.sl (zrowC n a i) n cap) ((List.range n).map (a i)) := by
  have : Ints (.sl (zrowC n a i) ((List.range n).map (a i)).length cap) ((List.range n).map (a i)) := .sl (by simp [zrowC]) fun k c x hc hx => by
    unfold zrowC at hc
    rw [List.getElem?_map] at hc hx
    by_cases hk : k < n
    · rw [List.getElem?_range hk] at hc hx
      cases hc; cases hx; rfl
    · rw [List.getElem?_eq_none (by simp; omega)] at hc; cases hc
  rwa [List.length_map, List.length_range] at this
def zrowD (n : Nat) (a : Nat → Nat → Int) (i : Nat) : DV := cloneD (.sl (zrowC n a i) n (some 4))
theorem zrowD_ints {n : Nat} {a : Nat → Nat → Int} {i : Nat} : Ints (zrowD n a i) ((List.range n).map (a i)) := cloneD_vec zrowC_ints
/-- The zone of a matrix. -/
def zoneD (n : Nat) (a : Nat → Nat → Int) : DV := .sl ((List.range n).map (zrowD n a)) n (some n)
theorem zoneD_mat {n : Nat} {a : Nat → Nat → Int} : Mat (zoneD n a) (genM n n a) := by
  have : Mat (.sl ((List.range n).map (zrowD n a)) (genM n n a).length (some n)) (genM n n a) := .sl (by simp [genM]) fun k c x hc hx => by
    unfold genM at hx
    rw [List.getElem?_map] at hc hx
    by_cases hk : k < n
    · rw [List.getElem?_range hk] at hc hx
      cases hc; cases hx; exact zrowD_ints
    · rw [List.getElem?_eq_none (by simp; omega)] at hc; cases hc
  rwa [show (genM n n a).length = n by simp [genM]] at this
theorem rows_fin {n : Nat} {a : Nat → Nat → Int} {c : VObj} : deepen (freezeAll [c, ⟨updL n (fun k => .d (zrowD n a k)) (.d Dnil) n, 0⟩]) 5 (.osl 1 0 n 1 n true) = some (zoneD n a) := by
  rw [updL_full (Nat.le_refl n)]
  have h : (freezeAll [c, (⟨(List.range n).map (fun k => XV.d (zrowD n a k)), 0⟩ : VObj)])[1]? = some ⟨(List.range n).map (fun k => XV.d (zrowD n a k)), 1⟩ := rfl
  have := deepen_cells (k := 3) (ex := true) (R := n) (ds := (List.range n).map (zrowD n a)) h (by rw [List.map_map]; rfl) (by simp)
  rw [this]; rfl
end Go.Vm

end
section
/-
  OPERATIONS that are values, and what a row of them makes of a zone; the first six of a zone.
-/
namespace Go.Zn
def guardB (cl most i j b : Int) : Bool := ((decide (0 ≤ i) && decide (i ≤ cl)) && (decide (0 ≤ j) && decide (j ≤ cl))) && bndB most b
def setB (L : Nat) (s : Int) : Bool := (decide (0 ≤ s) && decide (s ≤ ((2 ^ L : Nat) : Int) - 1)) && decide (s % 2 = 0)
def opE (z : List (List Int)) (k : Nat) (A : Nat → Nat → Nat → Int) : Int := if validZ z then (if (List.range k).any (fun j => emptyB z.length (A (j + 1))) then 5 else 0) else 2
def fewZ (z : List (List Int)) : List (List Int) := (z.take 6).map (List.take 6)
theorem fewZ_id {z : List (List Int)} (h : z.length ≤ 6) (hr : ∀ r ∈ z, r.length ≤ 6) : fewZ z = z := by
  unfold fewZ
  rw [List.take_of_length_le h]
  have : ∀ r ∈ z, List.take 6 r = id r := fun r hz => List.take_of_length_le (hr r hz)
  rw [List.map_congr_left this, List.map_id]
theorem validZ_rows {z : List (List Int)} (h : validZ z = true) : 2 ≤ z.length ∧ z.length ≤ 4 ∧ ∀ r ∈ z, r.length = z.length ∧ ∀ b ∈ r, bndB 1000 b = true := by
  unfold validZ zrow at h
  simp only [Bool.and_eq_true, decide_eq_true_eq, List.all_eq_true] at h
  exact ⟨h.1.1, h.1.2, h.2⟩
theorem validZ_of {z : List (List Int)} (h1 : 2 ≤ z.length) (h2 : z.length ≤ 4) (h : ∀ r ∈ z, r.length = z.length ∧ ∀ b ∈ r, bndB 1000 b = true) : validZ z = true := by
  unfold validZ zrow
  simp only [Bool.and_eq_true, decide_eq_true_eq, List.all_eq_true]
  exact ⟨⟨h1, h2⟩, h⟩
theorem few_valid {z : List (List Int)} : validZ (fewZ z) = validZ z := by
  cases h : validZ z with
  | true =>
    obtain ⟨h1, h2, h3⟩ := validZ_rows h
    rw [fewZ_id (by omega) (fun r hr => by have := (h3 r hr).1; omega), h]
  | false =>
    cases h' : validZ (fewZ z) with
    | false => rfl
    | true =>
      obtain ⟨h1, h2, h3⟩ := validZ_rows h'
      have hl : (fewZ z).length = z.length := by
        unfold fewZ at h2 ⊢
        simp at h2 ⊢; omega
      have e : z.take 6 = z := List.take_of_length_le (by omega)
      have hz : fewZ z = z := by
        refine fewZ_id (by omega) fun r hr => ?_
        have := (h3 (r.take 6) (by unfold fewZ; rw [e]; exact List.mem_map_of_mem hr)).1
        rw [List.length_take] at this
        omega
      rw [hz, h] at h'; cases h'
theorem few_id {z : List (List Int)} (h : validZ z = true) : fewZ z = z := by
  obtain ⟨h1, h2, h3⟩ := validZ_rows h
  exact fewZ_id (by omega) (fun r hr => by have := (h3 r hr).1; omega)
theorem fewZ_len (z : List (List Int)) : (fewZ z).length ≤ 6 ∧ ∀ r ∈ fewZ z, r.length ≤ 6 := by
  unfold fewZ
  refine ⟨by simp; omega, fun r hr => ?_⟩
  obtain ⟨q, _, rfl⟩ := List.mem_map.1 hr
  simp; omega
/-- The bounds of a valid zone. -/
theorem bnd_lim {b most : Int} (h : bndB most b = true) : b = 1099511627776 ∨ (-(2 * most) ≤ b ∧ b ≤ 2 * most + 1) := by
  unfold bndB at h
  simp only [Bool.or_eq_true, Bool.and_eq_true, decide_eq_true_eq] at h
  exact h
theorem bnd_of {b most : Int} (h : b = 1099511627776 ∨ (-(2 * most) ≤ b ∧ b ≤ 2 * most + 1)) : bndB most b = true := by
  unfold bndB
  simp only [Bool.or_eq_true, Bool.and_eq_true, decide_eq_true_eq]
  exact h
theorem zf_lim {z : List (List Int)} (h : validZ z = true) : ZgM 2001 (zf z) := fun i j => by
  obtain ⟨h1, h2, h3⟩ := validZ_rows h
  unfold zf
  by_cases hi : i < z.length
  · have e : z.getD i [] = z[i] := by simp [hi]
    rw [e]
    by_cases hj : j < (z[i]).length
    · have e2 : (z[i]).getD j 0 = (z[i])[j] := by simp [hj]
      rw [e2]
      have := bnd_lim ((h3 z[i] (List.getElem_mem hi)).2 _ (List.getElem_mem hj))
      unfold Zg Lim; omega
    · rw [getD_over (l := z[i]) (by omega)]; unfold Zg Lim; omega
  · rw [getD_over (l := z) (by omega)]
    unfold Zg Lim
    right
    rw [show ([] : List Int).getD j 0 = 0 from rfl]; omega
theorem flo_lim {n : Nat} {a : Nat → Nat → Int} {b : Int} (hb : 1 ≤ b) (h : ZgM b a) : ZgM b (flo n a) := fun i j => by
  unfold flo floP
  split
  · exact min_lim (h i j) (.inr ⟨by omega, hb⟩)
  · exact h i j
end Go.Zn
namespace Go.Vm
open Go.Zn
def resD (e : Int) (n : Nat) (a : Nat → Nat → Int) : DV := if e = 0 then zoneD n a else Dnil
/-- A value that is a function: what it makes of its arguments. -/
def FnOk (P : Program) (v : DV) (args : List DV) (res : DV) : Prop := ∃ f cs, asFn (.d v) = some (f, [], cs.map .d) ∧ plainFn P f = true ∧ DeepCall P f (args ++ cs) res
abbrev Fns : DV → List DV → Prop := Vec (fun c x => c = x)
theorem fns_of (l : List DV) (cap : Option Nat) : Fns (.sl l l.length cap) l := .sl rfl fun i c x h1 h2 => by rw [h1] at h2; cases h2; rfl
theorem fin_op {σ : List VObj} {k : Nat} {x y : DV} {e e' : Int} (h1 : x = y) (h2 : e = e') : deepen σ (k + 3) (.tup [.d x, .d (DI e)]) = some (.tup [y, DI e']) := by subst h1 h2; rfl
end Go.Vm

end
section
/-
  TIGHT ZONES: the tightened one is the greatest closed one below; what waiting and resetting leave closed.
-/
namespace Go.Zn
theorem up_out {o : Ops Int} {a : Nat → Nat → Int} {k i j x y n : Nat} (hi : i < n) (hj : j < n) (h : n ≤ x ∨ n ≤ y) : up o a k i j x y = a x y := by
  unfold up
  rw [if_neg (by omega)]
theorem fw_out {n : Nat} {a : Nat → Nat → Int} {x y : Nat} (h : n ≤ x ∨ n ≤ y) : fw cops n a x y = a x y :=
  fw_keep (o := cops) (a := a) (n := n) (fun F => F x y = a x y) rfl fun _ _ _ _ _ hi hj hb => (up_out hi hj h).trans hb
theorem tight_out {n : Nat} {a : Nat → Nat → Int} {x y : Nat} (h : n ≤ x ∨ n ≤ y) : tightM n a x y = a x y := by
  unfold tightM
  rw [fw_out h]
  unfold flo floP
  by_cases hc : (x = 0 ∧ y < n) ∨ (x = y ∧ x < n)
  · by_cases h0 : n = 0
    · omega
    · omega
  · rw [if_neg hc]
def LeM (n : Nat) (c a : Nat → Nat → Int) : Prop := ∀ i j, i < n → j < n → c i j ≤ a i j
/-- Closed, with nothing less than itself by less than nothing, and all clocks at least 0. -/
structure TightOk (n : Nat) (F : Nat → Nat → Int) : Prop where
  one : ∀ i, i < n → F i i = 1
  zero : ∀ j, j < n → F 0 j ≤ 1
  tri : Closed n (dec2 F)
  good : ZgM 20480000 F
theorem Zg.top {x : Int} (h : Zg 20480000 x) : Zg TOP x := Lim.mono h (by decide) (by decide)
theorem Zg.top5 {x : Int} (h : Zg 5000 x) : Zg TOP x := Lim.mono h (by decide) (by decide)
theorem flo_le {n : Nat} {a : Nat → Nat → Int} {x y : Nat} : flo n a x y ≤ a x y := by
  unfold flo floP; split <;> omega
theorem flo_zero {n : Nat} {a : Nat → Nat → Int} {y : Nat} (hy : y < n) : flo n a 0 y ≤ 1 := by
  unfold flo floP; rw [if_pos (by omega)]; omega
theorem flo_one {n : Nat} {a : Nat → Nat → Int} {y : Nat} (hy : y < n) : flo n a y y ≤ 1 := by
  unfold flo floP; rw [if_pos (by omega)]; omega
theorem le_flo {n : Nat} {c a : Nat → Nat → Int} (h0 : ∀ j, j < n → c 0 j ≤ 1) (h1 : ∀ i, i < n → c i i ≤ 1) (h : LeM n c a) : LeM n c (flo n a) := fun i j hi hj => by
  have := h i j hi hj
  unfold flo floP
  split
  · rename_i hc
    rcases hc with ⟨rfl, _⟩ | ⟨rfl, _⟩
    · have := h0 j hj; omega
    · have := h1 i hi; omega
  · exact this
theorem tight_dec {n : Nat} {a : Nat → Nat → Int} (hn : n ≤ 4) (ha : ZgM 5000 (flo n a)) : dec2 (tightM n a) = fw ops n (dec2 (flo n a)) := (fw_dec ha hn).symm
theorem tight_good {n : Nat} {a : Nat → Nat → Int} (hn : n ≤ 4) (ha : ZgM 5000 (flo n a)) : ZgM 20480000 (tightM n a) := fw_good ha hn
theorem le_dec {x y : Int} (hx : Zg 20480000 x) (hy : Zg 20480000 y) : OM.le (dec x) (dec y) ↔ x ≤ y := dec_le hx.top hy.top
theorem dec_one : dec 1 = (OM.e : BO) := rfl
theorem one_good : Zg 20480000 1 := .inr ⟨by decide, by decide⟩
theorem flo_noneg {n : Nat} {a : Nat → Nat → Int} (hn : n ≤ 4) (ha : ZgM 5000 (flo n a)) (he : emptyB n (tightM n a) = false) : NoNeg n (dec2 (flo n a)) := by
  refine fw_noneg fun i hi => ?_
  rw [← tight_dec hn ha]
  show OM.le (dec 1) (dec (tightM n a i i))
  refine (le_dec one_good (tight_good hn ha i i)).2 ?_
  refine Int.not_lt.1 fun h => ?_
  rw [emptyB_iff.2 ⟨i, hi, h⟩] at he; cases he
theorem flo_diag {n : Nat} {a : Nat → Nat → Int} (ha : ZgM 5000 (flo n a)) {i : Nat} (hi : i < n) : OM.le (dec2 (flo n a) i i) (OM.e : BO) :=
  (le_dec (Lim.mono (ha i i) (by decide) (by decide)) one_good).2 (flo_one hi)
theorem tight_le {n : Nat} {a : Nat → Nat → Int} (hn : n ≤ 4) (ha : ZgM 5000 (flo n a)) : LeM n (tightM n a) (flo n a) := fun i j hi hj => by
  have := fw_le (a := dec2 (flo n a)) hi hj
  rw [← tight_dec hn ha] at this
  exact (le_dec (tight_good hn ha i j) (Lim.mono (ha i j) (by decide) (by decide))).1 this
theorem tight_ok' {n : Nat} {a : Nat → Nat → Int} (hn : n ≤ 4) (ha : ZgM 5000 (flo n a)) (he : emptyB n (tightM n a) = false) : TightOk n (tightM n a) where
  one i hi := by
    have h := fw_diag (flo_noneg hn ha he) (fun i hi => flo_diag ha hi) hi
    rw [← tight_dec hn ha] at h
    exact dec_inj h
  zero j hj := Int.le_trans (tight_le hn ha 0 j (by omega) hj) (flo_zero hj)
  tri := by
    rw [tight_dec hn ha]
    exact fw_closed (flo_noneg hn ha he) (fun i hi => flo_diag ha hi)
  good := tight_good hn ha
theorem tight_greatest {n : Nat} {a c : Nat → Nat → Int} (hn : n ≤ 4) (ha : ZgM 5000 (flo n a)) (hc : TightOk n c) (h : LeM n c a) : LeM n c (tightM n a) := fun i j hi hj => by
  have h1 := le_flo hc.zero (fun i hi => by have := hc.one i hi; omega) h
  have := closed_le (a := dec2 (flo n a)) hc.tri (fun i j hi hj => (le_dec (hc.good i j) (Lim.mono (ha i j) (by decide) (by decide))).2 (h1 i j hi hj)) hi hj
  rw [← tight_dec hn ha] at this
  exact (le_dec (hc.good i j) (tight_good hn ha i j)).1 this
theorem greatest_nonempty {n : Nat} {a c : Nat → Nat → Int} (hn : n ≤ 4) (ha : ZgM 5000 (flo n a)) (hc : TightOk n c) (h : LeM n c a) : emptyB n (tightM n a) = false := by
  cases hb : emptyB n (tightM n a) with
  | false => rfl
  | true =>
    obtain ⟨i, hi, h1⟩ := emptyB_iff.1 hb
    have := tight_greatest hn ha hc h i i hi hi
    have := hc.one i hi
    omega
theorem tight_le_a {n : Nat} {a : Nat → Nat → Int} (hn : n ≤ 4) (ha : ZgM 5000 (flo n a)) : LeM n (tightM n a) a := fun i j hi hj => Int.le_trans (tight_le hn ha i j hi hj) flo_le
theorem LeM.trans {n : Nat} {a b c : Nat → Nat → Int} (h : LeM n a b) (k : LeM n b c) : LeM n a c := fun i j hi hj => Int.le_trans (h i j hi hj) (k i j hi hj)
theorem LeM.refl {n : Nat} {a : Nat → Nat → Int} : LeM n a a := fun _ _ _ _ => Int.le_refl _
/-- Equal where it matters. -/
theorem tight_self {n : Nat} {c : Nat → Nat → Int} (hn : n ≤ 4) (hc : TightOk n c) (h5 : ZgM 5000 (flo n c)) : tightM n c = c := by
  funext x y
  by_cases h : x < n ∧ y < n
  · exact Int.le_antisymm (tight_le_a hn h5 x y h.1 h.2) (tight_greatest hn h5 hc LeM.refl x y h.1 h.2)
  · exact tight_out (by omega)
theorem tight_nonempty {n : Nat} {c : Nat → Nat → Int} (hc : TightOk n c) : emptyB n c = false := by
  cases hb : emptyB n c with
  | false => rfl
  | true =>
    obtain ⟨i, hi, h1⟩ := emptyB_iff.1 hb
    have := hc.one i hi
    omega
/-- The same closed ones below: the same strictest one. -/
theorem tight_same {n : Nat} {a b : Nat → Nat → Int} (hn : n ≤ 4) (ha : ZgM 5000 (flo n a)) (hb : ZgM 5000 (flo n b)) (h : ∀ c, TightOk n c → (LeM n c a ↔ LeM n c b)) :
    emptyB n (tightM n a) = emptyB n (tightM n b) ∧ (emptyB n (tightM n a) = false → ∀ i j, i < n → j < n → tightM n a i j = tightM n b i j) := by
  constructor
  · cases h1 : emptyB n (tightM n a) with
    | false => exact (greatest_nonempty hn hb (tight_ok' hn ha h1) ((h _ (tight_ok' hn ha h1)).1 (tight_le_a hn ha))).symm
    | true => cases h2 : emptyB n (tightM n b) with
      | true => rfl
      | false => rw [greatest_nonempty hn ha (tight_ok' hn hb h2) ((h _ (tight_ok' hn hb h2)).2 (tight_le_a hn hb))] at h1; cases h1
  · intro h1 i j hi hj
    have k1 := tight_ok' hn ha h1
    have k2 := (h _ k1).1 (tight_le_a hn ha)
    have k3 := tight_ok' hn hb (greatest_nonempty hn hb k1 k2)
    exact Int.le_antisymm (tight_greatest hn hb k1 k2 i j hi hj) (tight_greatest hn ha k3 ((h _ k3).2 (tight_le_a hn hb)) i j hi hj)

theorem TightOk.tri' {n : Nat} {F : Nat → Nat → Int} (h : TightOk n F) {i k j : Nat} (hi : i < n) (hk : k < n) (hj : j < n) : F i j ≤ bsum (F i k) (F k j) := by
  have := h.tri i k j hi hk hj
  show _
  rw [show OM.add (dec2 F i k) (dec2 F k j) = dec (bsum (F i k) (F k j)) from (dec_bsum (h.good i k).top (h.good k j).top).symm] at this
  exact (dec_le (h.good i j).top (Lim.mono (bsum_good (h.good i k) (h.good k j)) (by decide) (by decide))).1 this
theorem tri_of {n : Nat} {F : Nat → Nat → Int} (hg : ZgM 20480000 F) (h : ∀ i k j, i < n → k < n → j < n → F i j ≤ bsum (F i k) (F k j)) : Closed n (dec2 F) := fun i k j hi hk hj => by
  rw [show OM.add (dec2 F i k) (dec2 F k j) = dec (bsum (F i k) (F k j)) from (dec_bsum (hg i k).top (hg k j).top).symm]
  exact (dec_le (hg i j).top (Lim.mono (bsum_good (hg i k) (hg k j)) (by decide) (by decide))).2 (h i k j hi hk hj)

/-- Waiting leaves it closed. -/
theorem del_ok {n : Nat} {F : Nat → Nat → Int} (h : TightOk n F) : TightOk n (delM n F) := by
  have hg : ZgM 20480000 (delM n F) := fun x y => by
    unfold delM delP
    split
    · exact .inl rfl
    · exact h.good x y
  refine ⟨fun i hi => ?_, fun j hj => ?_, tri_of hg fun i k j hi hk hj => ?_, hg⟩
  · unfold delM delP; rw [if_neg (by omega)]; exact h.one i hi
  · unfold delM delP; rw [if_neg (by omega)]; exact h.zero j hj
  · unfold delM delP
    by_cases hc : j = 0 ∧ 1 ≤ i ∧ i < n
    · rw [if_pos hc]
      by_cases hk0 : k = 0
      · rw [if_pos (show k = 0 ∧ 1 ≤ i ∧ i < n by omega), bsum_n1]; exact Int.le_refl _
      · rw [if_pos (show j = 0 ∧ 1 ≤ k ∧ k < n by omega), bsum_n2]; exact Int.le_refl _
    · rw [if_neg hc]
      by_cases hk1 : k = 0 ∧ 1 ≤ i ∧ i < n
      · rw [if_pos hk1, bsum_n1]
        have := h.good i j; unfold Zg Lim at this; omega
      · rw [if_neg hk1]
        by_cases hk2 : j = 0 ∧ 1 ≤ k ∧ k < n
        · rw [if_pos hk2, bsum_n2]
          have := h.good i j; unfold Zg Lim at this; omega
        · rw [if_neg hk2]; exact h.tri' hi hk hj
theorem del_del {n : Nat} {F : Nat → Nat → Int} : delM n (delM n F) = delM n F := by
  funext x y
  unfold delM delP
  split <;> rfl
theorem del_ge {n : Nat} {F : Nat → Nat → Int} (hg : ZgM 20480000 F) : LeM n F (delM n F) := fun i j _ _ => by
  unfold delM delP
  split
  · have := hg i j; unfold Zg Lim at this; omega
  · exact Int.le_refl _
theorem del_out {n : Nat} {F : Nat → Nat → Int} {x y : Nat} (h : n ≤ x ∨ n ≤ y) (_ : 1 ≤ n) : delM n F x y = F x y := by
  unfold delM delP
  rw [if_neg (by omega)]

/-- Where a clock is read once it is reset. -/
def rho (s m c : Nat) : Nat := if 1 ≤ c ∧ c ≤ m ∧ s.testBit c then 0 else c
theorem res_eq {n s : Nat} {F : Nat → Nat → Int} : ∀ {m : Nat}, m < n → ∀ x y, x < n → y < n → resP n s F m x y = F (rho s m x) (rho s m y)
  | 0, _, x, y, _, _ => by unfold rho; rw [if_neg (by omega), if_neg (by omega)]; rfl
  | m + 1, hm, x, y, hx, hy => by
    have ih := @res_eq n s F m (by omega)
    cases hb : s.testBit (m + 1) with
    | false =>
      have e : ∀ c, rho s (m + 1) c = rho s m c := fun c => by
        unfold rho
        by_cases hc : c = m + 1
        · subst hc; rw [hb, if_neg (by simp), if_neg (by omega)]
        · by_cases h1 : 1 ≤ c ∧ c ≤ m ∧ s.testBit c = true
          · rw [if_pos h1, if_pos ⟨h1.1, by omega, h1.2.2⟩]
          · rw [if_neg h1, if_neg (fun h => h1 ⟨h.1, by omega, h.2.2⟩)]
      rw [resP, hb, e, e]
      exact ih x y hx hy
    | true =>
      have e0 : rho s (m + 1) (m + 1) = 0 := by unfold rho; rw [if_pos ⟨by omega, Nat.le_refl _, hb⟩]
      have e1 : ∀ c, c ≠ m + 1 → rho s (m + 1) c = rho s m c := fun c hc => by
        unfold rho
        by_cases h1 : 1 ≤ c ∧ c ≤ m ∧ s.testBit c = true
        · rw [if_pos h1, if_pos ⟨h1.1, by omega, h1.2.2⟩]
        · rw [if_neg h1, if_neg (fun h => h1 ⟨h.1, by omega, h.2.2⟩)]
      have ez : ∀ q, rho s q 0 = 0 := fun q => by unfold rho; rw [if_neg (by omega)]
      rw [resP, hb, if_pos rfl]
      unfold oneR colP rowR
      by_cases hyc : y = m + 1
      · rw [if_pos ⟨hyc, hx⟩]
        subst hyc
        rw [e0]
        by_cases hxc : x = m + 1
        · subst hxc
          rw [if_pos rfl, e0, ih 0 0 (by omega) (by omega), ez]
        · rw [if_neg hxc, e1 x hxc, ih x 0 hx (by omega), ez]
      · rw [if_neg (by omega), e1 y hyc]
        by_cases hxc : x = m + 1
        · subst hxc
          rw [if_pos rfl, e0, ih 0 y (by omega) hy, ez]
        · rw [if_neg hxc, e1 x hxc, ih x y hx hy]
theorem rho_lt {s m c n : Nat} (hc : c < n) : rho s m c < n := by unfold rho; split <;> omega
theorem rho_rho {s m c : Nat} : rho s m (rho s m c) = rho s m c := by
  unfold rho
  split
  · rw [if_neg (by omega)]
  · rfl
theorem rho_zero {s m : Nat} : rho s m 0 = 0 := by unfold rho; rw [if_neg (by omega)]
theorem resM_eq {n s : Nat} {F : Nat → Nat → Int} {x y : Nat} (hx : x < n) (hy : y < n) : resM n s F x y = F (rho s (n - 1) x) (rho s (n - 1) y) := res_eq (by omega) x y hx hy
theorem res_out {n s : Nat} {F : Nat → Nat → Int} {x y : Nat} (hF : ∀ x y, n ≤ x ∨ n ≤ y → F x y = 0) (h : n ≤ x ∨ n ≤ y) : ∀ {m : Nat}, m < n → resP n s F m x y = 0
  | 0, _ => hF x y h
  | m + 1, hm => by
    have ih := @fun x y h => @res_out n s F x y hF h m (by omega)
    rw [resP]
    split
    · unfold oneR colP rowR
      by_cases h1 : y = m + 1 ∧ x < n
      · omega
      · rw [if_neg h1]
        by_cases h2 : x = m + 1
        · rw [if_pos h2]; exact ih 0 y (by omega)
        · rw [if_neg h2]; exact ih x y h
    · exact ih x y h
theorem res_good {n s : Nat} {F : Nat → Nat → Int} {b : Int} (hF : ZgM b F) : ∀ {m : Nat}, ZgM b (resP n s F m)
  | 0 => hF
  | m + 1 => fun x y => by
    have ih := @res_good n s F b hF m
    rw [resP]
    split
    · unfold oneR colP rowR
      split
      · split <;> exact ih _ _
      · split <;> exact ih _ _
    · exact ih x y
theorem res_ok {n s : Nat} {F : Nat → Nat → Int} (h : TightOk n F) : TightOk n (resM n s F) := by
  have hg : ZgM 20480000 (resM n s F) := res_good h.good
  refine ⟨fun i hi => ?_, fun j hj => ?_, tri_of hg fun i k j hi hk hj => ?_, hg⟩
  · rw [resM_eq hi hi]; exact h.one _ (rho_lt hi)
  · rw [resM_eq (by omega) hj, rho_zero]; exact h.zero _ (rho_lt hj)
  · rw [resM_eq hi hj, resM_eq hi hk, resM_eq hk hj]; exact h.tri' (rho_lt hi) (rho_lt hk) (rho_lt hj)
theorem res_res {n s : Nat} {F : Nat → Nat → Int} {x y : Nat} (hx : x < n) (hy : y < n) : resM n s (resM n s F) x y = resM n s F x y := by
  rw [resM_eq hx hy, resM_eq (rho_lt hx) (rho_lt hy), resM_eq hx hy, rho_rho, rho_rho]
end Go.Zn

end
section
/-
  Unequal truths; zones that are read again.
-/
namespace Go.Vm
section
variable {P : Program} {σ : List VObj} {kn : Kn} {dst : Option Tmp} {ty : TypeId} {pos : String} {af : Array Edge} {g : Option (Nat × Bool)}
theorem K.neqB {t u : TypeId} {x y : Operand} {a b : Bool} (ht : P.underlying t = some .bool) (hx : evK kn x = some (.d (DB a))) (hy : evK kn y = some (.d (DB b))) :
    KEv P ⟨dst, .binOp .neq t x y u, ty, pos, af, g⟩ σ kn (.d (DB (!(a == b)))) σ 0 :=
  K.bin hx hy (by
    rw [pureRun_bind]
    show (some ()).bind _ = _
    simp only [Option.bind_some]
    show pureRun P (do pure (Value.bool (!(← Op.equal t (.bool a) (.bool b)))) : Sem Value) = _
    rw [pureRun_bind, equal_bool ht]; rfl)
end
end Go.Vm
namespace Go.Zn
open Go.Vm
theorem validZ_lens {z : List (List Int)} {i : Nat} (h : validZ z = true) (hi : i < z.length) : (z.getD i []).length = z.length := by
  rw [show z.getD i [] = z[i] by simp [hi]]
  exact ((validZ_rows h).2.2 _ (List.getElem_mem hi)).1
theorem zf_out {z : List (List Int)} {x y : Nat} (h : validZ z = true) (ho : z.length ≤ x ∨ z.length ≤ y) : zf z x y = 0 := by
  unfold zf
  by_cases hx : x < z.length
  · rw [getD_over (by rw [validZ_lens h hx]; omega)]
  · rw [getD_over (l := z) (by omega)]; rfl
theorem genM_row' {n : Nat} {a : Nat → Nat → Int} {x : Nat} (hx : x < n) : (genM n n a).getD x [] = (List.range n).map (a x) := by
  unfold genM
  rw [List.getD_eq_getElem?_getD, List.getElem?_map, List.getElem?_range hx]; rfl
/-- The zone of a matrix reads as that matrix. -/
theorem zf_gen {n : Nat} {a : Nat → Nat → Int} (h : ∀ x y, n ≤ x ∨ n ≤ y → a x y = 0) : zf (genM n n a) = a := by
  funext x y
  unfold zf
  by_cases hx : x < n
  · rw [genM_row' hx]
    by_cases hy : y < n
    · rw [List.getD_eq_getElem?_getD, List.getElem?_map, List.getElem?_range hy]; rfl
    · rw [getD_over (by simp; omega), h x y (by omega)]
  · rw [getD_over (l := genM n n a) (by rw [show (genM n n a).length = n by simp [genM]]; omega), h x y (by omega)]; rfl
theorem genM_length {n : Nat} {a : Nat → Nat → Int} : (genM n n a).length = n := by simp [genM]
theorem genM_eq' {n : Nat} {f g : Nat → Nat → Int} (h : ∀ i, i < n → ∀ j, j < n → f i j = g i j) : genM n n f = genM n n g := by
  unfold genM
  refine List.map_congr_left fun i hi => List.map_congr_left fun j hj => h i (List.mem_range.1 hi) j (List.mem_range.1 hj)
theorem genM_ext' {n : Nat} {f g : Nat → Nat → Int} (h : genM n n f = genM n n g) {i j : Nat} (hi : i < n) (hj : j < n) : f i j = g i j := by
  have h1 := genM_row' (a := f) hi
  rw [h, genM_row' hi] at h1
  have := congrArg (fun l => l.getD j 0) h1
  simp [hj] at this
  exact this.symm
theorem lim5 {n : Nat} {a : Nat → Nat → Int} (h : ZgM 2001 a) : ZgM 5000 (flo n a) := flo_lim (by omega) fun i j => Lim.mono (h i j) (by omega) (by omega)
/-- A valid zone that is closed is its own tight one. -/
theorem valid_self {n : Nat} {F : Nat → Nat → Int} (hn : n ≤ 4) (h : TightOk n F) (ho : ∀ x y, n ≤ x ∨ n ≤ y → F x y = 0) (hv : validZ (genM n n F) = true) : tightM n F = F ∧ zf (genM n n F) = F ∧ ZgM 2001 F := by
  have e := zf_gen ho
  have := zf_lim hv
  rw [e] at this
  exact ⟨tight_self hn h (lim5 this), e, this⟩
end Go.Zn

end
