import Derived.Test.YtdgahcbalabjdaaGreatCyP
import Derived.Shelf.Sort.AssemblyIn
import Derived.MapKept
import Derived.Laws.RangeString
import Derived.Lib.SliceRun
import Derived.Laws.Strings
import Derived.Laws.Closers25b
section
/-
  KARP'S THEOREM on greatest means of cycles, without any program.
-/
namespace Go.Cy

/-- Two of n + 1 nodes below n are equal. -/
theorem pigeon : ∀ (n : Nat) (p : Nat → Nat), (∀ m, m ≤ n → p m < n) → ∃ s t, s < t ∧ t ≤ n ∧ p s = p t
  | 0, p, h => absurd (h 0 (Nat.le_refl _)) (by omega)
  | n + 1, p, h => by
    by_cases he : ∃ s, s < n + 1 ∧ p s = p (n + 1)
    · obtain ⟨s, h1, h2⟩ := he; exact ⟨s, n + 1, h1, Nat.le_refl _, h2⟩
    · have hne : ∀ s, s < n + 1 → p s ≠ p (n + 1) := fun s hs e => he ⟨s, hs, e⟩
      obtain ⟨s, t, h1, h2, h3⟩ := pigeon n (fun m => if p m = n then p (n + 1) else p m) fun m hm => by
        have a1 := h m (by omega)
        have a2 := h (n + 1) (Nat.le_refl _)
        have a3 := hne m (by omega)
        split <;> omega
      refine ⟨s, t, h1, by omega, ?_⟩
      have a1 := hne s (by omega)
      have a2 := hne t (by omega)
      split at h3 <;> split at h3 <;> omega

/-- The weight of the first k arcs of a path. -/
def wt (A : TM) (p : Nat → Nat) : Nat → O
  | 0 => some 0
  | k + 1 => oadd (wt A p k) (A (p k) (p (k + 1)))

theorem oadd_assoc (a b c : O) : oadd (oadd a b) c = oadd a (oadd b c) := by
  cases a <;> cases b <;> cases c <;> simp [oadd, Int.add_assoc]

theorem wt_add {A : TM} {p : Nat → Nat} (s : Nat) : ∀ d, wt A p (s + d) = oadd (wt A p s) (wt A (fun m => p (s + m)) d)
  | 0 => (add_zero _).symm
  | d + 1 => by
    show oadd (wt A p (s + d)) _ = _
    rw [wt_add s d, oadd_assoc]; rfl
theorem wt_congr {A : TM} {p q : Nat → Nat} : ∀ {k : Nat}, (∀ m, m ≤ k → p m = q m) → wt A p k = wt A q k
  | 0, _ => rfl
  | k + 1, h => by
    show oadd _ _ = oadd _ _
    rw [wt_congr (k := k) fun m hm => h m (by omega), h k (by omega), h (k + 1) (Nat.le_refl _)]

theorem wt_pow {n : Nat} {A : TM} {p : Nat → Nat} (hs : Sup n A) (h0 : p 0 < n) : ∀ {k : Nat} {w : Int}, wt A p k = some w → ∃ w', tpow n A k (p 0) (p k) = some w' ∧ w ≤ w'
  | 0, w, h => by cases h; exact ⟨0, by show tone n _ _ = _; unfold tone; rw [if_pos ⟨rfl, h0⟩], Int.le_refl _⟩
  | k + 1, w, h => by
    obtain ⟨x, y, hx, hy, rfl⟩ := add_some.1 h
    obtain ⟨x', h1, h2⟩ := wt_pow hs h0 hx
    have hk : p k < n := Classical.byContradiction fun hn => by rw [hs _ _ fun h => hn h.1] at hy; cases hy
    obtain ⟨w', h3, h4⟩ := mul_ge (n := n) hk h1 hy
    exact ⟨w', h3, by omega⟩
theorem pow_wt {n : Nat} {A : TM} (hs : Sup n A) : ∀ {k i j : Nat} {w : Int}, tpow n A k i j = some w → ∃ p : Nat → Nat, p 0 = i ∧ p k = j ∧ wt A p k = some w ∧ ∀ m, m ≤ k → p m < n
  | 0, i, j, w, h => by
    have h' : tone n i j = some w := h
    unfold tone at h'
    split at h'
    · rename_i e; obtain ⟨rfl, hi⟩ := e; cases h'; exact ⟨fun _ => i, rfl, rfl, rfl, fun _ _ => hi⟩
    · cases h'
  | k + 1, i, j, w, h => by
    obtain ⟨l, x, y, hl, hx, hy, rfl⟩ := mul_some h
    obtain ⟨p, h1, h2, h3, h4⟩ := pow_wt hs hx
    have hj : j < n := Classical.byContradiction fun hn => by rw [hs _ _ fun h => hn h.2] at hy; cases hy
    refine ⟨fun m => if m ≤ k then p m else j, by simp [h1], if_neg (by omega), ?_, fun m hm => ?_⟩
    · show oadd (wt A _ k) (A _ _) = _
      rw [wt_congr (q := p) fun m hm => by simp [hm], h3]
      have e1 : (if k ≤ k then p k else j) = l := by simp [h2]
      have e2 : (if k + 1 ≤ k then p (k + 1) else j) = j := if_neg (by omega)
      show oadd _ (A (if k ≤ k then p k else j) (if k + 1 ≤ k then p (k + 1) else j)) = _
      rw [e1, e2, hy]; rfl
    · simp only; split
      · exact h4 m (by assumption)
      · exact hj

/-- A path that meets a node twice is made of a closed part and a shorter path. -/
theorem cut_path {n : Nat} {A : TM} (hs : Sup n A) {p : Nat → Nat} {k s t : Nat} {w : Int} (hst : s < t) (htk : t ≤ k) (he : p s = p t) (hw : wt A p k = some w) (hn : ∀ m, m ≤ k → p m < n) :
    ∃ w1 w2 c1 c2, w ≤ c1 + c2 ∧ w1 ≤ c1 ∧ w2 ≤ c2 ∧ tpow n A (t - s) (p s) (p s) = some c1 ∧ tpow n A (k - (t - s)) (p 0) (p k) = some c2 := by
  have e1 : wt A p k = oadd (wt A p t) (wt A (fun m => p (t + m)) (k - t)) := by rw [← wt_add]; congr 1; omega
  have e2 : wt A p t = oadd (wt A p s) (wt A (fun m => p (s + m)) (t - s)) := by rw [← wt_add]; congr 1; omega
  rw [e1] at hw
  obtain ⟨x, z, hx, hz, rfl⟩ := add_some.1 hw
  rw [e2] at hx
  obtain ⟨x, y, hx, hy, rfl⟩ := add_some.1 hx
  obtain ⟨c1, h1, h2⟩ := wt_pow (n := n) hs (p := fun m => p (s + m)) (hn _ (by omega)) hy
  simp only [Nat.add_zero] at h1
  rw [show s + (t - s) = t by omega, ← he] at h1
  have hq : wt A (fun m => if m ≤ s then p m else p (m + (t - s))) (k - (t - s)) = some (x + z) := by
    rw [show k - (t - s) = s + (k - t) by omega, wt_add, wt_congr (q := p) (k := s) fun m hm => by simp [hm], show wt A p s = some x by assumption, wt_congr (q := fun m => p (t + m)) (k := k - t) fun m hm => by
      split
      · rename_i hle
        rw [show m = 0 by omega]; simpa using he
      · rw [show s + m + (t - s) = t + m by omega], hz]; rfl
  obtain ⟨c2, h3, h4⟩ := wt_pow (n := n) hs (by simp; exact hn 0 (by omega)) hq
  refine ⟨y, x + z, c1, c2, by omega, h2, h4, h1, ?_⟩
  have e3 : (if k - (t - s) ≤ s then p (k - (t - s)) else p (k - (t - s) + (t - s))) = p k := by
    split
    · rename_i hle
      have : k = t := by omega
      subst this
      rw [show k - (k - s) = s by omega]; exact he
    · rw [show k - (t - s) + (t - s) = k by omega]
  simp only [Nat.zero_le, if_true] at h3
  rw [e3] at h3
  exact h3

/-- No closed path has a weight above 0. -/
def NP (n : Nat) (A : TM) : Prop := ∀ k i, 0 < k → Ub (tpow n A k i i) 0

/-- It is enough to ask the short ones. -/
theorem np_of_short {n : Nat} {A : TM} (hs : Sup n A) (h : ∀ k i, 0 < k → k ≤ n → Ub (tpow n A k i i) 0) : NP n A := by
  intro k
  induction k using Nat.strongRecOn with
  | _ k ih =>
    intro i hk w hw
    by_cases hkn : k ≤ n
    · exact h k i hk hkn w hw
    · obtain ⟨p, h1, h2, h3, h4⟩ := pow_wt hs hw
      obtain ⟨s, t, a1, a2, a3⟩ := pigeon n p fun m hm => h4 m (by omega)
      obtain ⟨w1, w2, c1, c2, b1, _, _, b4, b5⟩ := cut_path hs a1 (by omega) a3 h3 h4
      have := h (t - s) (p s) (by omega) (by omega) c1 b4
      rw [h1, h2] at b5
      have := ih (k - (t - s)) (by omega) i (by omega) c2 b5
      omega

/-- Without them, ways of fewer than n arcs are no worse. -/
theorem short_way {n : Nat} {A : TM} (hs : Sup n A) (hp : NP n A) : ∀ (k i j : Nat) (w : Int), tpow n A k i j = some w → ∃ m w', m < n ∧ m ≤ k ∧ tpow n A m i j = some w' ∧ w ≤ w' := by
  intro k
  induction k using Nat.strongRecOn with
  | _ k ih =>
    intro i j w hw
    by_cases hkn : k < n
    · exact ⟨k, w, hkn, Nat.le_refl _, hw, Int.le_refl _⟩
    · obtain ⟨p, h1, h2, h3, h4⟩ := pow_wt hs hw
      obtain ⟨s, t, a1, a2, a3⟩ := pigeon n p fun m hm => h4 m (by omega)
      obtain ⟨w1, w2, c1, c2, b1, _, _, b4, b5⟩ := cut_path hs a1 (by omega) a3 h3 h4
      have := hp (t - s) (p s) (by omega) c1 b4
      rw [h1, h2] at b5
      obtain ⟨m, w', d1, d2, d3, d4⟩ := ih (k - (t - s)) (by omega) i j c2 b5
      exact ⟨m, w', d1, by omega, d3, by omega⟩

/-- The greatest weights of ways. -/
def star (n : Nat) (A : TM) : TM := tsum n A (n - 1)
theorem ub_star {n : Nat} {A : TM} (hs : Sup n A) (hp : NP n A) {i j : Nat} {u : Int} : Ub (star n A i j) u ↔ ∀ k, Ub (tpow n A k i j) u := by
  unfold star
  rw [ub_tsum]
  constructor
  · intro h k w hw
    obtain ⟨m, w', h1, _, h2, h3⟩ := short_way hs hp k i j w hw
    have := h m (by omega) w' h2; omega
  · intro h m _; exact h m
theorem tsum_some {n : Nat} {A : TM} {i j : Nat} {w : Int} : ∀ {k : Nat}, tsum n A k i j = some w → ∃ m, m ≤ k ∧ tpow n A m i j = some w
  | 0, h => ⟨0, Nat.le_refl _, h⟩
  | k + 1, h => by
    have h' : omax (tsum n A k i j) (tpow n A (k + 1) i j) = some w := h
    cases ha : tsum n A k i j with
    | none => rw [ha] at h'; exact ⟨k + 1, Nat.le_refl _, h'⟩
    | some x =>
      rw [ha] at h'
      cases hb : tpow n A (k + 1) i j with
      | none =>
        rw [hb] at h'
        obtain ⟨m, h1, h2⟩ := tsum_some (ha.trans h')
        exact ⟨m, by omega, h2⟩
      | some y =>
        rw [hb] at h'
        simp only [omax, Option.some.injEq] at h'
        by_cases hxy : x ≤ y
        · exact ⟨k + 1, Nat.le_refl _, by rw [hb, ← h', Int.max_eq_right hxy]⟩
        · obtain ⟨m, h1, h2⟩ := tsum_some ha
          exact ⟨m, by omega, by rw [h2, ← h', Int.max_eq_left (by omega)]⟩
theorem star_some {n : Nat} {A : TM} {i j : Nat} {w : Int} (h : star n A i j = some w) : ∃ m, tpow n A m i j = some w := by
  obtain ⟨m, _, h⟩ := tsum_some h; exact ⟨m, h⟩
theorem star_ge {n : Nat} {A : TM} (hs : Sup n A) (hp : NP n A) {k i j : Nat} {w : Int} (h : tpow n A k i j = some w) : ∃ w', star n A i j = some w' ∧ w ≤ w' := by
  cases hc : star n A i j with
  | none =>
    have h1 : Ub (star n A i j) (w - 1) := by rw [hc]; intro z hz; cases hz
    have := (ub_star hs hp).1 h1 k w h; omega
  | some x =>
    have h1 : Ub (star n A i j) x := by rw [hc]; intro z hz; cases hz; omega
    exact ⟨x, rfl, (ub_star hs hp).1 h1 k w h⟩

/-- The greatest weights of ways of k arcs to a node, from anywhere. -/
def dk (n : Nat) (A : TM) (k j : Nat) : O := osup n fun i => tpow n A k i j
theorem dk_succ {n : Nat} {A : TM} (k j : Nat) : dk n A (k + 1) j = osup n fun i => oadd (dk n A k i) (A i j) := by
  refine ub_ext fun u => ?_
  unfold dk
  rw [ub_sup, ub_sup]
  constructor
  · intro h l hl
    refine ub_add.2 fun x y hx hy => ?_
    obtain ⟨i, hi, e⟩ := sup_some hx
    exact ub_mul.1 (h i hi) l x y hl e hy
  · intro h i hi
    refine ub_mul.2 fun l x y hl hx hy => ?_
    obtain ⟨x', e, hle⟩ := sup_ge (f := fun i => tpow n A k i l) hi hx
    have := ub_add.1 (h l hl) x' y e hy; omega
theorem dk_zero {n : Nat} {A : TM} {j : Nat} (hj : j < n) : dk n A 0 j = some 0 := by
  refine ub_ext fun u => ?_
  unfold dk
  rw [ub_sup]
  constructor
  · intro h x hx; cases hx
    refine h j hj 0 ?_
    show tone n j j = some 0
    unfold tone; rw [if_pos ⟨rfl, hj⟩]
  · intro h i hi x hx
    have hx' : tone n i j = some x := hx
    unfold tone at hx'
    split at hx'
    · cases hx'; exact h 0 rfl
    · cases hx'

/-- Where there is a way of many arcs to a node, there is one of fewer. -/
theorem dk_down {n : Nat} {A : TM} (hs : Sup n A) {k m j : Nat} {x : Int} (h : dk n A k j = some x) (hm : m ≤ k) : ∃ y, dk n A m j = some y := by
  obtain ⟨i, hi, e⟩ := sup_some h
  obtain ⟨p, h1, h2, h3, h4⟩ := pow_wt hs e
  have e1 : wt A p k = oadd (wt A p (k - m)) (wt A (fun q => p (k - m + q)) m) := by rw [← wt_add]; congr 1; omega
  rw [e1] at h3
  obtain ⟨a, b, _, hb, _⟩ := add_some.1 h3
  obtain ⟨w, h5, _⟩ := wt_pow (n := n) hs (p := fun q => p (k - m + q)) (h4 _ (by omega)) hb
  simp only [Nat.add_zero] at h5
  rw [show k - m + m = k by omega, h2] at h5
  obtain ⟨y, h6, _⟩ := sup_ge (f := fun i => tpow n A m i j) (h4 (k - m) (by omega)) h5
  exact ⟨y, h6⟩

/-- KARP, one half: the way of n arcs is no better than some shorter one. -/
theorem karp_le {n : Nat} {A : TM} (hs : Sup n A) (hp : NP n A) {j : Nat} {x : Int} (h : dk n A n j = some x) : ∃ k y, k < n ∧ dk n A k j = some y ∧ x ≤ y := by
  obtain ⟨i, hi, e⟩ := sup_some h
  obtain ⟨m, w', h1, _, h2, h3⟩ := short_way hs hp n i j x e
  obtain ⟨y, h4, h5⟩ := sup_ge (f := fun i => tpow n A m i j) hi h2
  exact ⟨m, y, h1, h4, by omega⟩

theorem mod_path {A : TM} {p : Nat → Nat} {L : Nat} (hL : 0 < L) (hc : p 0 = p L) (hw : wt A p L = some 0) : ∀ q, wt A (fun m => p (m % L)) (L * q) = some 0
  | 0 => rfl
  | q + 1 => by
    rw [Nat.mul_succ, wt_add, mod_path hL hc hw q]
    have : wt A (fun m => p ((L * q + m) % L)) L = wt A p L := wt_congr fun m hm => by
      rw [Nat.mul_add_mod]
      by_cases e : m = L
      · subst e; rw [Nat.mod_self]; exact hc
      · rw [Nat.mod_eq_of_lt (by omega)]
    rw [this, hw]; rfl

/-- .. the other half: at some node it is as good as any. -/
theorem karp_ge {n : Nat} {A : TM} (hs : Sup n A) (hp : NP n A) {L c : Nat} (hL : 0 < L) (hc : tpow n A L c c = some 0) : ∃ j x, dk n A n j = some x ∧ ∀ k y, dk n A k j = some y → y ≤ x := by
  obtain ⟨p, h1, h2, h3, h4⟩ := pow_wt hs hc
  have hcn : c < n := by rw [← h1]; exact h4 0 (by omega)
  -- the best way to c
  have hbest : ∃ m b, m < n ∧ dk n A m c = some b ∧ ∀ k y, dk n A k c = some y → y ≤ b := by
    have key : ∀ N, ∃ m b, m ≤ N ∧ dk n A m c = some b ∧ ∀ k y, k ≤ N → dk n A k c = some y → y ≤ b := by
      intro N
      induction N with
      | zero => exact ⟨0, 0, Nat.le_refl _, dk_zero hcn, fun k y hk hy => by rw [show k = 0 by omega, dk_zero hcn] at hy; cases hy; omega⟩
      | succ N ih =>
        obtain ⟨m, b, k1, k2, k3⟩ := ih
        cases hd : dk n A (N + 1) c with
        | none => exact ⟨m, b, by omega, k2, fun k y hk hy => by
            by_cases e : k = N + 1
            · subst e; rw [hd] at hy; cases hy
            · exact k3 k y (by omega) hy⟩
        | some z =>
          by_cases hz : z ≤ b
          · exact ⟨m, b, by omega, k2, fun k y hk hy => by
              by_cases e : k = N + 1
              · subst e; rw [hd] at hy; cases hy; exact hz
              · exact k3 k y (by omega) hy⟩
          · exact ⟨N + 1, z, Nat.le_refl _, hd, fun k y hk hy => by
              by_cases e : k = N + 1
              · subst e; rw [hd] at hy; cases hy; omega
              · have := k3 k y (by omega) hy; omega⟩
    obtain ⟨m, b, k1, k2, k3⟩ := key (n - 1)
    refine ⟨m, b, by omega, k2, fun k y hy => ?_⟩
    obtain ⟨i, hi, e⟩ := sup_some hy
    obtain ⟨m', w', q1, _, q2, q3⟩ := short_way hs hp k i c y e
    obtain ⟨z, q4, q5⟩ := sup_ge (f := fun i => tpow n A m' i c) hi q2
    have := k3 m' z (by omega) q4; omega
  obtain ⟨m, b, hm, hb, hmax⟩ := hbest
  let q : Nat → Nat := fun x => p (x % L)
  let t := n - m
  have hq0 : q 0 = c := by show p (0 % L) = c; rw [Nat.zero_mod, h1]
  have hqn : ∀ x, q x < n := fun x => h4 _ (by have := Nat.mod_lt x hL; omega)
  have hz : wt A q (L * t) = some 0 := mod_path hL (h1.trans h2.symm) h3 t
  have htL : t ≤ L * t := Nat.le_mul_of_pos_left t hL
  have hsplit : wt A q (L * t) = oadd (wt A q t) (wt A (fun x => q (t + x)) (L * t - t)) := by rw [← wt_add]; congr 1; omega
  rw [hz] at hsplit
  obtain ⟨x1, x2, e1, e2, e3⟩ := add_some.1 hsplit.symm
  -- on from c to the node
  obtain ⟨i, hi, ei⟩ := sup_some hb
  obtain ⟨u1, f1, f2⟩ := wt_pow (n := n) hs (hqn 0) e1
  rw [hq0] at f1
  have g1 : ∃ w', tpow n A (m + t) i (q t) = some w' ∧ b + u1 ≤ w' := by
    rw [tpow_add hs]; exact mul_ge hcn ei f1
  obtain ⟨w', g1, g2⟩ := g1
  rw [show m + t = n by omega] at g1
  obtain ⟨x, g3, g4⟩ := sup_ge (f := fun i => tpow n A n i (q t)) hi g1
  refine ⟨q t, x, g3, fun k y hy => ?_⟩
  -- back to c
  obtain ⟨u2, f3, f4⟩ := wt_pow (n := n) hs (p := fun x => q (t + x)) (hqn _) e2
  simp only [Nat.add_zero] at f3
  rw [show t + (L * t - t) = L * t by omega, show q (L * t) = c by show p (L * t % L) = c; rw [Nat.mul_mod_right, h1]] at f3
  obtain ⟨i2, hi2, ei2⟩ := sup_some hy
  have g5 : ∃ w, tpow n A (k + (L * t - t)) i2 c = some w ∧ y + u2 ≤ w := by
    rw [tpow_add hs]; exact mul_ge (hqn t) ei2 f3
  obtain ⟨w, g5, g6⟩ := g5
  obtain ⟨z, g7, g8⟩ := sup_ge (f := fun i => tpow n A (k + (L * t - t)) i c) hi2 g5
  have := hmax _ _ g7
  omega

/-- How far the arcs are above num/den. -/
def gain (A : TM) (num den : Int) : TM := fun i j => (A i j).map fun x => den * x - num
theorem gain_sup {n : Nat} {A : TM} (hs : Sup n A) (num den : Int) : Sup n (gain A num den) := fun i j h => by unfold gain; rw [hs i j h]; rfl
theorem pow_gain {n : Nat} {A : TM} {num den : Int} (hd : 0 < den) : ∀ k i j, tpow n (gain A num den) k i j = (tpow n A k i j).map fun x => den * x - num * (k : Int)
  | 0, i, j => by
    show tone n i j = (tone n i j).map _
    unfold tone; split <;> simp
  | k + 1, i, j => by
    show tmul n _ _ i j = (tmul n _ _ i j).map _
    refine ub_ext fun u => ?_
    have hub : ∀ (o : O) (f : Int → Int) (u : Int), Ub (o.map f) u ↔ ∀ x, o = some x → f x ≤ u := fun o f u => by
      cases o with
      | none => exact ⟨fun _ x hx => (by cases hx), fun _ x hx => (by cases hx)⟩
      | some z => exact ⟨fun h x hx => by cases hx; exact h _ rfl, fun h x hx => by cases hx; exact h z rfl⟩
    rw [hub, ub_mul]
    constructor
    · intro h w hw
      obtain ⟨l, x, y, hl, hx, hy, rfl⟩ := mul_some hw
      have := h l (den * x - num * k) (den * y - num) hl (by rw [pow_gain hd k, hx]; rfl) (by unfold gain; rw [hy]; rfl)
      simp only [Int.mul_add, Int.natCast_add]; simp; omega
    · intro h l x y hl hx hy
      rw [pow_gain hd k] at hx
      obtain ⟨a, ha, rfl⟩ := Option.map_eq_some_iff.1 hx
      unfold gain at hy
      obtain ⟨b, hb, rfl⟩ := Option.map_eq_some_iff.1 hy
      obtain ⟨w, hw, hle⟩ := mul_ge (n := n) hl ha hb
      have h1 := h w hw
      have h2 := Int.mul_le_mul_of_nonneg_left hle (Int.le_of_lt hd)
      simp only [Int.mul_add, Int.natCast_add] at h1 h2; simp at h1; omega
end Go.Cy

end
section
/-
  THE GREATEST MEAN OF A CYCLE: that there is one, that it is one number, and that Karp's way finds it.
-/
namespace Go.Cy

/-- num/den is the mean of A: no closed path is above it, and one has it. -/
structure MeanOf (n : Nat) (A : TM) (num den : Int) : Prop where
  pos : 0 < den
  le : ∀ k i w, 0 < k → tpow n A k i i = some w → den * w ≤ num * (k : Int)
  eq : ∃ k c w, 0 < k ∧ tpow n A k c c = some w ∧ den * w = num * (k : Int)

theorem MeanOf.np {n : Nat} {A : TM} {num den : Int} (h : MeanOf n A num den) : NP n (gain A num den) := fun k i hk w hw => by
  rw [pow_gain h.pos] at hw
  obtain ⟨x, hx, rfl⟩ := Option.map_eq_some_iff.1 hw
  have := h.le k i x hk hx; omega
theorem MeanOf.zero {n : Nat} {A : TM} {num den : Int} (h : MeanOf n A num den) : ∃ L c, 0 < L ∧ tpow n (gain A num den) L c c = some 0 := by
  obtain ⟨k, c, w, h1, h2, h3⟩ := h.eq
  exact ⟨k, c, h1, by rw [pow_gain h.pos, h2]; simp; omega⟩
theorem MeanOf.of_gain {n : Nat} {A : TM} {num den : Int} (hd : 0 < den) (h1 : NP n (gain A num den)) (h2 : ∃ L c, 0 < L ∧ tpow n (gain A num den) L c c = some 0) : MeanOf n A num den := by
  refine ⟨hd, fun k i w hk hw => ?_, ?_⟩
  · have := h1 k i hk (den * w - num * k) (by rw [pow_gain hd, hw]; rfl); omega
  · obtain ⟨L, c, hL, h⟩ := h2
    rw [pow_gain hd] at h
    obtain ⟨x, hx, he⟩ := Option.map_eq_some_iff.1 h
    exact ⟨L, c, x, hL, hx, by omega⟩

/-- The means are equal as fractions. -/
theorem MeanOf.uniq {n : Nat} {A : TM} {p q p' q' : Int} (h : MeanOf n A p q) (h' : MeanOf n A p' q') : p * q' = p' * q := by
  obtain ⟨k, c, w, h1, h2, h3⟩ := h.eq
  obtain ⟨k', c', w', h1', h2', h3'⟩ := h'.eq
  have e1 := h'.le k c w h1 h2
  have e2 := h.le k' c' w' h1' h2'
  have hk : (0 : Int) < k := by omega
  have hk' : (0 : Int) < k' := by omega
  have hq := h.pos
  have hq' := h'.pos
  -- q' w <= p' k, q w = p k: multiply
  have f1 : k * (p * q') ≤ k * (p' * q) := by
    have : q * (q' * w) ≤ q * (p' * k) := Int.mul_le_mul_of_nonneg_left e1 (by omega)
    have a : q * (q' * w) = k * (p * q') := by rw [show q * (q' * w) = q' * (q * w) by rw [← Int.mul_assoc, Int.mul_comm q q', Int.mul_assoc], h3, ← Int.mul_assoc, Int.mul_comm q' p, Int.mul_comm]
    have b : q * (p' * k) = k * (p' * q) := by rw [← Int.mul_assoc, Int.mul_comm q p', Int.mul_comm]
    omega
  have f2 : k' * (p' * q) ≤ k' * (p * q') := by
    have : q' * (q * w') ≤ q' * (p * k') := Int.mul_le_mul_of_nonneg_left e2 (by omega)
    have a : q' * (q * w') = k' * (p' * q) := by rw [show q' * (q * w') = q * (q' * w') by rw [← Int.mul_assoc, Int.mul_comm q' q, Int.mul_assoc], h3', ← Int.mul_assoc, Int.mul_comm q p', Int.mul_comm]
    have b : q' * (p * k') = k' * (p * q') := by rw [← Int.mul_assoc, Int.mul_comm q' p, Int.mul_comm]
    omega
  exact Int.le_antisymm (Int.le_of_mul_le_mul_left f1 hk) (Int.le_of_mul_le_mul_left f2 hk')

/-- Another name of the same fraction. -/
theorem MeanOf.scale {n : Nat} {A : TM} {p q p' q' : Int} (h : MeanOf n A p q) (hq' : 0 < q') (e : p * q' = p' * q) : MeanOf n A p' q' := by
  have hq := h.pos
  refine ⟨hq', fun k i w hk hw => ?_, ?_⟩
  · have h1 := Int.mul_le_mul_of_nonneg_left (h.le k i w hk hw) (show 0 ≤ q' by omega)
    refine Int.le_of_mul_le_mul_left (a := q) ?_ hq
    have a : q * (q' * w) = q' * (q * w) := by rw [← Int.mul_assoc, Int.mul_comm q q', Int.mul_assoc]
    have b : q * (p' * k) = q' * (p * k) := by rw [← Int.mul_assoc, ← Int.mul_assoc, Int.mul_comm q p', Int.mul_comm q' p, e]
    omega
  · obtain ⟨k, c, w, h1, h2, h3⟩ := h.eq
    refine ⟨k, c, w, h1, h2, ?_⟩
    refine Int.eq_of_mul_eq_mul_left (a := q) (by omega) ?_
    rw [show q * (q' * w) = q' * (q * w) by rw [← Int.mul_assoc, Int.mul_comm q q', Int.mul_assoc], h3, ← Int.mul_assoc, ← Int.mul_assoc, Int.mul_comm q p', Int.mul_comm q' p, e]

/-- A greatest fraction of finitely many. -/
theorem max_frac {α : Type} (num den : α → Int) (hd : ∀ a, 0 < den a) : ∀ (l : List α), l ≠ [] → ∃ a ∈ l, ∀ b ∈ l, num b * den a ≤ num a * den b
  | [], h => absurd rfl h
  | [a], _ => ⟨a, by simp, fun b hb => by simp at hb; subst hb; exact Int.le_refl _⟩
  | a :: b :: l, _ => by
    obtain ⟨m, h1, h2⟩ := max_frac num den hd (b :: l) (by simp)
    by_cases hc : num a * den m ≤ num m * den a
    · exact ⟨m, by simp [List.mem_cons.1 h1], fun c hc' => by
        rcases List.mem_cons.1 hc' with rfl | hc'
        · exact hc
        · exact h2 c hc'⟩
    · refine ⟨a, by simp, fun c hc' => ?_⟩
      rcases List.mem_cons.1 hc' with rfl | hc'
      · exact Int.le_refl _
      · have e1 := h2 c hc'
        have hm := hd m
        have ha := hd a
        have hcd := hd c
        refine Int.le_of_mul_le_mul_left (a := den m) ?_ hm
        have s1 : den a * (num c * den m) ≤ den a * (num m * den c) := Int.mul_le_mul_of_nonneg_left e1 (by omega)
        have s2 : den c * (num m * den a) ≤ den c * (num a * den m) := Int.mul_le_mul_of_nonneg_left (by omega) (by omega)
        have a1 : den a * (num c * den m) = den m * (num c * den a) := by rw [Int.mul_comm, Int.mul_assoc, Int.mul_comm (den m), ← Int.mul_assoc, Int.mul_comm]
        have a2 : den a * (num m * den c) = den c * (num m * den a) := by rw [Int.mul_comm, Int.mul_assoc, Int.mul_comm (den c), ← Int.mul_assoc, Int.mul_comm]
        have a3 : den c * (num a * den m) = den m * (num a * den c) := by rw [Int.mul_comm, Int.mul_assoc, Int.mul_comm (den m), ← Int.mul_assoc, Int.mul_comm]
        omega

/-- Where there is a closed path, there is a mean. -/
theorem mean_ex {n : Nat} {A : TM} (hs : Sup n A) {k0 c0 : Nat} {w0 : Int} (hk0 : 0 < k0) (h0 : tpow n A k0 c0 c0 = some w0) : ∃ p q, MeanOf n A p q := by
  -- a short closed path
  have hshort : ∀ (k i : Nat) (w : Int), 0 < k → tpow n A k i i = some w → ∃ k' i' w', 0 < k' ∧ k' ≤ n ∧ i' < n ∧ tpow n A k' i' i' = some w' := by
    intro k i w hk hw
    obtain ⟨p, h1, h2, h3, h4⟩ := pow_wt hs hw
    by_cases hkn : k ≤ n
    · exact ⟨k, i, w, hk, hkn, by rw [← h1]; exact h4 0 (by omega), hw⟩
    · obtain ⟨s, t, a1, a2, a3⟩ := pigeon n p fun m hm => h4 m (by omega)
      obtain ⟨w1, w2, c1, c2, _, _, _, b4, _⟩ := cut_path hs a1 (by omega) a3 h3 h4
      exact ⟨t - s, p s, c1, by omega, by omega, h4 s (by omega), b4⟩
  obtain ⟨k1, c1, w1, p1, p2, p3, p4⟩ := hshort k0 c0 w0 hk0 h0
  -- the candidates
  let cand : List (Nat × Nat) := (List.range n).flatMap fun k => (List.range n).map fun i => (k, i)
  have hcand : ∀ k i, (k, i) ∈ cand ↔ k < n ∧ i < n := fun k i => by simp [cand]
  let good := cand.filter fun q => (tpow n A (q.1 + 1) q.2 q.2).isSome
  have hgood : ∀ k i, (k, i) ∈ good ↔ (k < n ∧ i < n) ∧ (tpow n A (k + 1) i i).isSome = true := fun k i => by
    show (k, i) ∈ List.filter _ _ ↔ _
    rw [List.mem_filter, hcand]
  have hne : good ≠ [] := fun e => by
    have : (k1 - 1, c1) ∈ good := (hgood _ _).2 ⟨⟨by omega, p3⟩, by rw [show k1 - 1 + 1 = k1 by omega, p4]; rfl⟩
    rw [e] at this; cases this
  obtain ⟨a, ha, hmax⟩ := max_frac (fun q : Nat × Nat => (tpow n A (q.1 + 1) q.2 q.2).getD 0) (fun q => ((q.1 + 1 : Nat) : Int)) (fun q => by omega) good hne
  obtain ⟨ka, ia⟩ := a
  have ha' := (hgood _ _).1 ha
  obtain ⟨wa, hwa⟩ := Option.isSome_iff_exists.1 ha'.2
  have hle : ∀ k i, 0 < k → k ≤ n → ∀ w, tpow n A k i i = some w → ((ka + 1 : Nat) : Int) * w ≤ wa * k := fun k i hk hkn w hw => by
    have hi : i < n := Classical.byContradiction fun hi => by rw [tpow_sup hs k i i fun h => hi h.1] at hw; cases hw
    have := hmax (k - 1, i) ((hgood _ _).2 ⟨⟨by omega, hi⟩, by rw [show k - 1 + 1 = k by omega, hw]; rfl⟩)
    simp only [hwa, show k - 1 + 1 = k by omega, hw, Option.getD_some] at this
    rw [Int.mul_comm]; exact this
  refine ⟨wa, ((ka + 1 : Nat) : Int), MeanOf.of_gain (by omega) (np_of_short (gain_sup hs _ _) fun k i hk hkn w hw => ?_) ⟨ka + 1, ia, by omega, by rw [pow_gain (by omega), hwa]; simp; rw [Int.mul_comm]; omega⟩⟩
  rw [pow_gain (by omega)] at hw
  obtain ⟨x, hx, rfl⟩ := Option.map_eq_some_iff.1 hw
  have := hle k i hk hkn x hx; omega

theorem map_max {den c : Int} (hd : 0 < den) (a b : O) : (omax a b).map (fun x => den * x - c) = omax (a.map fun x => den * x - c) (b.map fun x => den * x - c) := by
  cases a with
  | none => cases b <;> rfl
  | some x => cases b with
    | none => rfl
    | some y =>
      simp only [omax, Option.map_some, Option.some.injEq]
      rcases Int.le_total x y with h | h
      · have := Int.mul_le_mul_of_nonneg_left h (Int.le_of_lt hd)
        rw [Int.max_eq_right h, Int.max_eq_right (by omega)]
      · have := Int.mul_le_mul_of_nonneg_left h (Int.le_of_lt hd)
        rw [Int.max_eq_left h, Int.max_eq_left (by omega)]
theorem map_sup {den c : Int} (hd : 0 < den) (f : Nat → O) : ∀ n, (osup n f).map (fun x => den * x - c) = osup n fun k => (f k).map fun x => den * x - c
  | 0 => rfl
  | n + 1 => by rw [osup, map_max hd, map_sup hd f n]; rfl
theorem dk_gain {n : Nat} {A : TM} {num den : Int} (hd : 0 < den) (k j : Nat) : dk n (gain A num den) k j = (dk n A k j).map fun x => den * x - num * (k : Int) := by
  unfold dk
  rw [map_sup hd]
  exact sup_congr fun i _ => pow_gain hd k i j

/-- KARP'S THEOREM, with the mean. -/
theorem karp_a {n : Nat} {A : TM} {p q : Int} (hs : Sup n A) (h : MeanOf n A p q) {j : Nat} {x : Int} (hx : dk n A n j = some x) : ∃ k y, k < n ∧ dk n A k j = some y ∧ q * (x - y) ≤ p * ((n : Int) - k) := by
  obtain ⟨k, y, h1, h2, h3⟩ := karp_le (gain_sup hs p q) h.np (j := j) (x := q * x - p * n) (by rw [dk_gain h.pos, hx]; rfl)
  rw [dk_gain h.pos] at h2
  obtain ⟨z, hz, rfl⟩ := Option.map_eq_some_iff.1 h2
  refine ⟨k, z, h1, hz, ?_⟩
  rw [Int.mul_sub, Int.mul_sub]; omega
theorem karp_b {n : Nat} {A : TM} {p q : Int} (hs : Sup n A) (h : MeanOf n A p q) : ∃ j x, j < n ∧ dk n A n j = some x ∧ ∀ k y, dk n A k j = some y → p * ((n : Int) - k) ≤ q * (x - y) := by
  obtain ⟨L, c, hL, hc⟩ := h.zero
  obtain ⟨j, x, h1, h2⟩ := karp_ge (gain_sup hs p q) h.np hL hc
  have hj : j < n := Classical.byContradiction fun hj => by
    obtain ⟨i, _, e⟩ := sup_some h1
    rw [tpow_sup (gain_sup hs p q) _ _ _ fun h => hj h.2] at e; cases e
  rw [dk_gain h.pos] at h1
  obtain ⟨z, hz, rfl⟩ := Option.map_eq_some_iff.1 h1
  refine ⟨j, z, hj, hz, fun k y hy => ?_⟩
  have := h2 k (q * y - p * k) (by rw [dk_gain h.pos, hy]; rfl)
  rw [Int.mul_sub, Int.mul_sub]; omega

/-- A way of n arcs meets a node twice. -/
theorem closed_of_dk {n : Nat} {A : TM} (hs : Sup n A) {j : Nat} {x : Int} (h : dk n A n j = some x) : ∃ k c w, 0 < k ∧ tpow n A k c c = some w := by
  obtain ⟨i, hi, e⟩ := sup_some h
  obtain ⟨p, h1, h2, h3, h4⟩ := pow_wt hs e
  obtain ⟨s, t, a1, a2, a3⟩ := pigeon n p fun m hm => h4 m (by omega)
  obtain ⟨w1, w2, c1, c2, _, _, _, b4, _⟩ := cut_path hs a1 (by omega) a3 h3 h4
  exact ⟨t - s, p s, c1, by omega, b4⟩
theorem dk_of_closed {n : Nat} {A : TM} (hs : Sup n A) {k c : Nat} {w : Int} (hk : 0 < k) (h : tpow n A k c c = some w) : ∃ j x, j < n ∧ dk n A n j = some x := by
  obtain ⟨p, q, hm⟩ := mean_ex hs hk h
  obtain ⟨j, x, h1, h2, _⟩ := karp_b hs hm
  exact ⟨j, x, h1, h2⟩

/-- Karp's way. -/
def bestI (n : Nat) (a : Nat → Nat → Int) : Nat → Nat → Int
  | 0, _ => 0
  | k + 1, j => gre ((List.range n).map fun i => aft (bestI n a k i) (a i j))
def belowI (f g : Int × Int) : Bool := decide (f.1 * g.2 < g.1 * f.2)
/-- The least rate of a node, over the first k numbers of arcs. -/
def rateI (n : Nat) (a : Nat → Nat → Int) (j : Nat) : Nat → Int × Int
  | 0 => (0, 0)
  | k + 1 => let r := (bestI n a n j - bestI n a k j, (n : Int) - k)
    if k = 0 ∨ belowI r (rateI n a j k) = true then r else rateI n a j k
/-- The greatest of the first j nodes. -/
def topI (n : Nat) (a : Nat → Nat → Int) : Nat → Option (Int × Int)
  | 0 => none
  | j + 1 => if bestI n a n j = Nv then topI n a j else
    match topI n a j with
    | none => some (rateI n a j n)
    | some m => if belowI m (rateI n a j n) then some (rateI n a j n) else some m
def lowI (f : Int × Int) : Int × Int := (f.1.tdiv (Int.gcd f.1 f.2), f.2.tdiv (Int.gcd f.1 f.2))
def meanI (n : Nat) (a : Nat → Nat → Int) : Option (Int × Int) := (topI n a n).map lowI

theorem best_good {n : Nat} {b : Int} {a : Nat → Nat → Int} (ha : GoodM b a) (hb : 0 ≤ b) : ∀ (k : Nat) (j : Nat), Good (k * b) (bestI n a k j)
  | 0, j => .inr (by simp [bestI])
  | k + 1, j => by
    refine gre_good fun x hx => ?_
    obtain ⟨i, _, rfl⟩ := List.mem_map.1 hx
    have := aft_good (best_good (n := n) ha hb k i) (ha i j)
    rwa [show (((k + 1 : Nat) : Int) * b) = (k : Int) * b + b by rw [Int.natCast_add, Int.add_mul]; simp]
theorem best_dec {n : Nat} {b : Int} {a : Nat → Nat → Int} (ha : GoodM b a) (hb : 0 ≤ b) : ∀ {k : Nat}, (k : Int) * b ≤ 1000000000000 → ∀ j, j < n → dec (bestI n a k j) = dk n (DM a) k j
  | 0, _, j, hj => by rw [dk_zero hj]; exact dec_some (by unfold Nv; simp [bestI])
  | k + 1, h, j, hj => by
    have e : (((k + 1 : Nat) : Int) * b) = (k : Int) * b + b := by rw [Int.natCast_add, Int.add_mul]; simp
    show dec (gre _) = _
    rw [gre_range (b := (k : Int) * b + b) (by omega) fun i _ => aft_good (best_good ha hb k i) (ha i j), dk_succ]
    refine sup_congr fun i hi => ?_
    rw [aft_dec (best_good ha hb k i) (ha i j) (by omega), best_dec ha hb (by omega) i hi]
    rfl

/-- What the least rate is. -/
theorem rate_spec {n : Nat} {a : Nat → Nat → Int} {j : Nat} : ∀ {k : Nat}, 0 < k → k ≤ n → (∃ k0, k0 < k ∧ rateI n a j k = (bestI n a n j - bestI n a k0 j, (n : Int) - k0)) ∧
    ∀ m, m < k → (rateI n a j k).1 * ((n : Int) - m) ≤ (bestI n a n j - bestI n a m j) * (rateI n a j k).2
  | 0, h, _ => absurd h (by omega)
  | k + 1, _, hn => by
    by_cases hk : k = 0
    · subst hk
      have e : rateI n a j 1 = (bestI n a n j - bestI n a 0 j, (n : Int) - (0 : Nat)) := by
        unfold rateI; exact if_pos (.inl rfl)
      refine ⟨⟨0, by omega, e⟩, fun m hm => ?_⟩
      rw [show m = 0 by omega, e]; exact Int.le_refl _
    · obtain ⟨⟨k0, h1, h2⟩, h3⟩ := rate_spec (n := n) (a := a) (j := j) (k := k) (by omega) (by omega)
      by_cases hb : belowI (bestI n a n j - bestI n a k j, (n : Int) - k) (rateI n a j k) = true
      · have e : rateI n a j (k + 1) = (bestI n a n j - bestI n a k j, (n : Int) - k) := if_pos (.inr hb)
        refine ⟨⟨k, by omega, e⟩, fun m hm => ?_⟩
        rw [e]
        by_cases em : m = k
        · subst em; exact Int.le_refl _
        · have g1 := h3 m (by omega)
          have g2 := of_decide_eq_true hb
          rw [h2] at g1 g2
          simp only at g1 g2 ⊢
          refine Int.le_of_mul_le_mul_left (a := (n : Int) - k0) ?_ (by omega)
          have s1 := Int.mul_le_mul_of_nonneg_left g1 (show (0 : Int) ≤ (n : Int) - k by omega)
          have s2 := Int.mul_le_mul_of_nonneg_left (Int.le_of_lt g2) (show (0 : Int) ≤ (n : Int) - m by omega)
          simp only [Int.mul_comm, Int.mul_left_comm] at s1 s2 ⊢
          exact Int.le_trans s2 s1
      · have e : rateI n a j (k + 1) = rateI n a j k := if_neg (by rintro (h | h); exact hk h; exact hb h)
        rw [e]
        refine ⟨⟨k0, by omega, h2⟩, fun m hm => ?_⟩
        by_cases em : m = k
        · subst em
          have g2 : ¬ ((bestI n a n j - bestI n a m j) * (rateI n a j m).2 < (rateI n a j m).1 * ((n : Int) - m)) := fun h => hb (decide_eq_true h)
          omega
        · exact h3 m (by omega)

/-- What the greatest of them is. -/
theorem top_spec {n : Nat} {a : Nat → Nat → Int} (hn : 0 < n) : ∀ {j : Nat},
    (topI n a j = none → ∀ i, i < j → bestI n a n i = Nv) ∧
    ∀ m, topI n a j = some m → (∃ i, i < j ∧ bestI n a n i ≠ Nv ∧ m = rateI n a i n) ∧ ∀ i, i < j → bestI n a n i ≠ Nv → (rateI n a i n).1 * m.2 ≤ m.1 * (rateI n a i n).2
  | 0 => ⟨fun _ i h => by omega, fun m h => by cases h⟩
  | j + 1 => by
    obtain ⟨h1, h2⟩ := top_spec (a := a) hn (j := j)
    have hpos : ∀ i, 0 < (rateI n a i n).2 := fun i => by
      obtain ⟨⟨k0, h3, h4⟩, _⟩ := rate_spec (a := a) (j := i) hn (Nat.le_refl n)
      rw [h4]; simp only; omega
    by_cases hb : bestI n a n j = Nv
    · have e : topI n a (j + 1) = topI n a j := by show (if _ then _ else _) = _; rw [if_pos hb]
      rw [e]
      refine ⟨fun h i hi => ?_, fun m hm => ?_⟩
      · by_cases ei : i = j
        · subst ei; exact hb
        · exact h1 h i (by omega)
      · obtain ⟨⟨i0, k1, k2, k3⟩, k4⟩ := h2 m hm
        refine ⟨⟨i0, by omega, k2, k3⟩, fun i hi hne => ?_⟩
        by_cases ei : i = j
        · subst ei; exact absurd hb hne
        · exact k4 i (by omega) hne
    · cases ht : topI n a j with
      | none =>
        have e : topI n a (j + 1) = some (rateI n a j n) := by show (if _ then _ else _) = _; rw [if_neg hb, ht]
        rw [e]
        refine ⟨(by simp), fun m hm => ?_⟩
        cases hm
        refine ⟨⟨j, by omega, hb, rfl⟩, fun i hi hne => ?_⟩
        by_cases ei : i = j
        · subst ei; exact Int.le_refl _
        · exact absurd (h1 ht i (by omega)) hne
      | some m0 =>
        obtain ⟨⟨i0, k1, k2, k3⟩, k4⟩ := h2 m0 ht
        by_cases hlt : belowI m0 (rateI n a j n) = true
        · have e : topI n a (j + 1) = some (rateI n a j n) := by show (if _ then _ else _) = _; rw [if_neg hb, ht]; simp only [hlt, if_true]
          rw [e]
          refine ⟨(by simp), fun m hm => ?_⟩
          cases hm
          refine ⟨⟨j, by omega, hb, rfl⟩, fun i hi hne => ?_⟩
          by_cases ei : i = j
          · subst ei; exact Int.le_refl _
          · have g1 := k4 i (by omega) hne
            have g2 := of_decide_eq_true hlt
            have hm0 : 0 < m0.2 := by rw [k3]; exact hpos _
            refine Int.le_of_mul_le_mul_left (a := m0.2) ?_ hm0
            have s1 := Int.mul_le_mul_of_nonneg_left g1 (Int.le_of_lt (hpos j))
            have s2 := Int.mul_le_mul_of_nonneg_left (Int.le_of_lt g2) (Int.le_of_lt (hpos i))
            simp only [Int.mul_comm, Int.mul_left_comm, Int.mul_assoc] at s1 s2 ⊢
            exact Int.le_trans s1 s2
        · have e : topI n a (j + 1) = some m0 := by show (if _ then _ else _) = _; rw [if_neg hb, ht]; simp only [hlt]; rfl
          rw [e]
          refine ⟨(by simp), fun m hm => ?_⟩
          cases hm
          refine ⟨⟨i0, by omega, k2, k3⟩, fun i hi hne => ?_⟩
          by_cases ei : i = j
          · subst ei
            have g2 : ¬ (m0.1 * (rateI n a i n).2 < (rateI n a i n).1 * m0.2) := fun h => hlt (decide_eq_true h)
            omega
          · exact k4 i (by omega) hne

/-- The lowest terms of a fraction. -/
theorem low_spec {f : Int × Int} (h : 0 < f.2) : 0 < (lowI f).2 ∧ f.1 * (lowI f).2 = (lowI f).1 * f.2 ∧ Int.gcd (lowI f).1 (lowI f).2 = 1 := by
  have hg : 0 < Int.gcd f.1 f.2 := Int.gcd_pos_iff.2 (.inr (by omega))
  have d1 : ((Int.gcd f.1 f.2 : Nat) : Int) ∣ f.1 := Int.gcd_dvd_left ..
  have d2 : ((Int.gcd f.1 f.2 : Nat) : Int) ∣ f.2 := Int.gcd_dvd_right ..
  obtain ⟨x, hx⟩ := d1
  obtain ⟨y, hy⟩ := d2
  have hgz : ((Int.gcd f.1 f.2 : Nat) : Int) ≠ 0 := by omega
  have e1 : (lowI f).1 = x := (congrArg (fun z => Int.tdiv z _) hx).trans (Int.mul_tdiv_cancel_left _ hgz)
  have e2 : (lowI f).2 = y := (congrArg (fun z => Int.tdiv z _) hy).trans (Int.mul_tdiv_cancel_left _ hgz)
  rw [e1, e2]
  refine ⟨?_, ?_, ?_⟩
  · refine Classical.byContradiction fun hn => ?_
    have : ((Int.gcd f.1 f.2 : Nat) : Int) * y ≤ 0 := Int.mul_nonpos_of_nonneg_of_nonpos (by omega) (by omega)
    omega
  · have : f.1 * y = x * f.2 := by
      have a := congrArg (· * y) hx
      have b := congrArg (x * ·) hy
      have a' : f.1 * y = (Int.gcd f.1 f.2 : Int) * x * y := a
      have b' : x * f.2 = x * ((Int.gcd f.1 f.2 : Int) * y) := b
      rw [a', b', Int.mul_comm _ x, Int.mul_assoc]
    exact this
  · have e : Int.gcd f.1 f.2 = Int.gcd f.1 f.2 * Int.gcd x y := by
      have := Int.gcd_mul_left (m := (Int.gcd f.1 f.2 : Int)) (n := x) (k := y)
      rw [← hx, ← hy] at this
      simpa using this
    exact Nat.eq_of_mul_eq_mul_left hg (by omega)

/-- KARP'S WAY FINDS THE MEAN. -/
theorem mean_none {n : Nat} {b : Int} {a : Nat → Nat → Int} (hn : 0 < n) (ha : GoodM b a) (hb : 0 ≤ b) (hs : Sup n (DM a)) (hB : (n : Int) * b ≤ 1000000000000) (h : meanI n a = none) : ∀ k c, 0 < k → tpow n (DM a) k c c = none := by
  intro k c hk
  cases hw : tpow n (DM a) k c c with
  | none => rfl
  | some w =>
    obtain ⟨j, x, h1, h2⟩ := dk_of_closed hs hk hw
    have ht : topI n a n = none := by
      unfold meanI at h
      cases ht : topI n a n with
      | none => rfl
      | some m => rw [ht] at h; cases h
    have := (top_spec hn).1 ht j h1
    rw [← best_dec ha hb hB j h1, this, dec_nv] at h2; cases h2
theorem mean_some {n : Nat} {b : Int} {a : Nat → Nat → Int} (hn : 0 < n) (ha : GoodM b a) (hb : 0 ≤ b) (hs : Sup n (DM a)) (hB : (n : Int) * b ≤ 1000000000000) {m : Int × Int} (h : meanI n a = some m) :
    MeanOf n (DM a) m.1 m.2 ∧ Int.gcd m.1 m.2 = 1 := by
  unfold meanI at h
  cases ht : topI n a n with
  | none => rw [ht] at h; cases h
  | some r =>
    rw [ht] at h
    cases h
    obtain ⟨⟨i, h1, h2, h3⟩, h4⟩ := (top_spec hn).2 r ht
    have hdk : ∀ k j, k ≤ n → j < n → dec (bestI n a k j) = dk n (DM a) k j := fun k j hk hj => best_dec ha hb (Int.le_trans (Int.mul_le_mul_of_nonneg_right (by omega) hb) hB) j hj
    have hx : dk n (DM a) n i = some (bestI n a n i) := by rw [← hdk n i (Nat.le_refl _) h1, dec_some h2]
    obtain ⟨k, c, w, g1, g2⟩ := closed_of_dk hs hx
    obtain ⟨p, q, hm⟩ := mean_ex hs g1 g2
    have hq := hm.pos
    obtain ⟨⟨k0, s1, s2⟩, s3⟩ := rate_spec (a := a) (j := i) hn (Nat.le_refl n)
    have hr2 : 0 < r.2 := by rw [h3, s2]; simp only; omega
    -- at most the mean
    have le1 : q * r.1 ≤ p * r.2 := by
      obtain ⟨k, y, t1, t2, t3⟩ := karp_a hs hm hx
      have hy : bestI n a k i = y := by
        have := hdk k i (by omega) h1
        rw [t2] at this
        unfold dec at this
        split at this
        · cases this
        · simpa using this
      have := s3 k t1
      rw [hy, ← h3] at this
      refine Int.le_of_mul_le_mul_left (a := (n : Int) - k) ?_ (by omega)
      have u1 := Int.mul_le_mul_of_nonneg_left this (Int.le_of_lt hq)
      have u2 := Int.mul_le_mul_of_nonneg_left t3 (Int.le_of_lt hr2)
      simp only [Int.mul_comm, Int.mul_left_comm, Int.mul_assoc] at u1 u2 ⊢
      exact Int.le_trans u1 u2
    have le2 : p * r.2 ≤ q * r.1 := by
      obtain ⟨j, x, t1, t2, t3⟩ := karp_b hs hm
      have hx' : bestI n a n j ≠ Nv ∧ bestI n a n j = x := by
        have := hdk n j (Nat.le_refl _) t1
        rw [t2] at this
        unfold dec at this
        split at this
        · cases this
        · rename_i hne; exact ⟨hne, by simpa using this⟩
      have u0 := h4 j t1 hx'.1
      obtain ⟨⟨k1, v1, v2⟩, _⟩ := rate_spec (a := a) (j := j) hn (Nat.le_refl n)
      rw [v2] at u0
      simp only at u0
      obtain ⟨y, hy⟩ := dk_down hs t2 (show k1 ≤ n by omega)
      have hy' : bestI n a k1 j = y := by
        have := hdk k1 j (by omega) t1
        rw [hy] at this
        unfold dec at this
        split at this
        · cases this
        · simpa using this
      rw [hx'.2, hy'] at u0
      have t4 := t3 k1 y hy
      refine Int.le_of_mul_le_mul_left (a := (n : Int) - k1) ?_ (by omega)
      have u1 := Int.mul_le_mul_of_nonneg_left u0 (Int.le_of_lt hq)
      have u2 := Int.mul_le_mul_of_nonneg_left t4 (Int.le_of_lt hr2)
      simp only [Int.mul_comm, Int.mul_left_comm, Int.mul_assoc] at u1 u2 ⊢
      exact Int.le_trans u2 u1
    obtain ⟨l1, l2, l3⟩ := low_spec hr2
    refine ⟨(hm.scale hr2 (p' := r.1) ?_).scale l1 l2, l3⟩
    rw [Int.mul_comm r.1]; omega
end Go.Cy

end
section
/-
  MATRICES OF INTS as deep values: by functions of the row and the column.
-/
namespace Go.Cy
open Go.Vm Go.RowKit

theorem genM_len (R N : Nat) (f : Nat → Nat → Int) : (genM R N f).length = R := by simp [genM]
theorem genM_row {R N : Nat} {f : Nat → Nat → Int} {i : Nat} (h : i < (genM R N f).length) : (genM R N f)[i] = (List.range N).map (f i) := by simp [genM]
theorem genM_get {R N : Nat} {f : Nat → Nat → Int} {i j : Nat} (h : i < (genM R N f).length) (h' : j < ((genM R N f)[i]).length) : ((genM R N f)[i])[j] = f i j := by simp [genM]
/-- A matrix as a function: never outside. -/
def mf (m : List (List Int)) : Nat → Nat → Int := fun i j => (m.getD i []).getD j Nv
def okX (L x : Int) : Bool := decide (x = Nv) || (decide (-L ≤ x) && decide (x ≤ L))
def okRow (n : Nat) (L : Int) (r : List Int) : Bool := decide (r.length = n) && r.all (okX L)
def validB (L : Int) (m : List (List Int)) : Bool := (decide (1 ≤ m.length) && decide (m.length ≤ 6)) && m.all (okRow m.length L)

theorem genM_mf {m : List (List Int)} {n : Nat} (hn : m.length = n) (hr : ∀ r ∈ m, r.length = n) : m = genM n n (mf m) := by
  refine List.ext_getElem (by simp [genM, hn]) fun i h1 h2 => ?_
  refine List.ext_getElem (by simp [genM]; exact hr _ (List.getElem_mem h1)) fun j h3 h4 => ?_
  rw [genM_get]
  simp [mf, h1, h3]
theorem valid_of {L : Int} {m : List (List Int)} (h : validB L m = true) : 1 ≤ m.length ∧ m.length ≤ 6 ∧ m = genM m.length m.length (mf m) ∧ GoodM L (mf m) ∧ Sup m.length (DM (mf m)) := by
  unfold validB at h
  simp only [Bool.and_eq_true, decide_eq_true_eq, List.all_eq_true] at h
  obtain ⟨⟨h1, h2⟩, h3⟩ := h
  have hr : ∀ r ∈ m, r.length = m.length ∧ ∀ x ∈ r, x = Nv ∨ (-L ≤ x ∧ x ≤ L) := fun r hr => by
    have := h3 r hr
    simp only [okRow, Bool.and_eq_true, decide_eq_true_eq, List.all_eq_true, okX, Bool.or_eq_true] at this
    exact this
  refine ⟨h1, h2, genM_mf rfl fun r h => (hr r h).1, fun i j => ?_, fun i j hij => ?_⟩
  · unfold mf
    by_cases hi : i < m.length
    · have e : m.getD i [] = m[i] := by simp [hi]
      rw [e]
      by_cases hj : j < m[i].length
      · have e2 : m[i].getD j Nv = m[i][j] := by simp [hj]
        rw [e2]; exact (hr _ (List.getElem_mem hi)).2 _ (List.getElem_mem hj)
      · left; simp [hj]
    · left; simp [hi]
  · show dec _ = none
    have : mf m i j = Nv := by
      unfold mf
      by_cases hi : i < m.length
      · have e : m.getD i [] = m[i] := by simp [hi]
        rw [e]
        have hj : ¬ j < m[i].length := fun h => hij ⟨hi, by rw [← (hr _ (List.getElem_mem hi)).1]; exact h⟩
        simp [hj]
      · simp [hi]
    rw [this, dec_nv]

theorem gre_take {l : List Int} {i : Nat} (h : i < l.length) : gre (l.take (i + 1)) = max (gre (l.take i)) l[i] := by
  rw [List.take_succ_eq_append_getElem h]; exact foldl_snoc _ _ _
theorem gre_end {l : List Int} {i : Nat} (h : l.length ≤ i) : l.take i = l := List.take_of_length_le h
theorem wrapI {x : Int} (h : -9223372036854775808 ≤ x ∧ x ≤ 9223372036854775807) : IntKind.i64.wrap x = x := wrap_id (by omega)

/-- Cells of a slice of ints of one's own. -/
def icells (l : List Int) : List XV := l.map fun x => .d (DI x)
theorem icells_get {l : List Int} {i : Nat} (h : i < l.length) : (icells l)[0 + i]? = some (.d (DI l[i])) := by simp [icells, h]
end Go.Cy

end
section
/-
  MATRICES THAT ARE MADE BY A FUNCTION VALUE, behind other objects.
-/
namespace Go.Vm
open Go.RowKit

/-- A contract on deep values, among objects. -/
theorem DeepCall.own {P : Program} {f : FuncId} {args : List DV} {res : DV} (h : DeepCall P f args res) (σ : List VObj) : OwnCall P f σ (args.map .d) σ (.d res) := by
  intro M W0 ι w vs hm hl hx
  refine (h (Forb M ι σ) w vs hm.forb_lt (by simpa using hl) fun i v x hv hx' => ?_).mono fun e w' => ?_
  · have := hx i v (.d x) hv (by simp [hx'])
    cases this with
    | d h => exact h
  · rintro ⟨v, rfl, h1, h2⟩
    obtain ⟨g1, g2⟩ := hm.grown h2
    exact ⟨ι, σ, .d res, v, rfl, g1, g2, .d h1, rfl, rfl⟩

section
variable (L N : Nat) (f : Nat → Nat → Int)
def oslL (k : Nat) : XV := .osl (L + k + 1) 0 N 1 N true
def gP (i : Nat) : List VObj := ⟨updL N (oslL L N) (.d Dnil) i, 0⟩ :: doneG N f i
def gQ (i j : Nat) : List VObj := ⟨updL N (oslL L N) (.d Dnil) (i + 1), 0⟩ :: (doneG N f i ++ [⟨rowC N f i j, 0⟩])
end
section
variable {L N : Nat} {f : Nat → Nat → Int} {pre : List VObj}
theorem gP_zero : gP L N f 0 = [⟨List.replicate N (.d Dnil), 0⟩] := by rw [updL_zero (f := oslL L N)]; rfl
theorem gP_len (i : Nat) : (gP L N f i).length = i + 1 := by simp [gP, doneG_len]
theorem gP_at (h : pre.length = L) (i : Nat) : (pre ++ gP L N f i)[L]? = some ⟨updL N (oslL L N) (.d Dnil) i, 0⟩ := by
  rw [List.getElem?_append_right (by omega), h]; simp [gP]
theorem gQ_at (h : pre.length = L) (i j : Nat) : (pre ++ gQ L N f i j)[L]? = some ⟨updL N (oslL L N) (.d Dnil) (i + 1), 0⟩ := by
  rw [List.getElem?_append_right (by omega), h]; simp [gQ]
theorem gP_start (h : pre.length = L) {i : Nat} (hi : i < N) :
    ((pre ++ gP L N f i) ++ [(⟨List.replicate N (XV.d (.lit (.int .i64 0))), 0⟩ : VObj)]).set L ⟨(updL N (oslL L N) (.d Dnil) i).set (0 + i) (.osl (pre ++ gP L N f i).length 0 N 1 N true), 0⟩ = pre ++ gQ L N f i 0 := by
  rw [List.append_assoc, List.set_append_right _ _ (by omega), h, List.length_append, gP_len, h, Nat.zero_add, show XV.osl (L + (i + 1)) 0 N 1 N true = oslL L N i from rfl, updL_set hi, updL_zero (f := rowF f i), Nat.sub_self]
  rfl
theorem gQ_row (h : pre.length = L) (i j : Nat) : (pre ++ gQ L N f i j)[L + i + 1]? = some ⟨rowC N f i j, 0⟩ := by
  rw [List.getElem?_append_right (by omega), show L + i + 1 - pre.length = i + 1 by omega]
  simp only [gQ, List.getElem?_cons_succ]
  rw [List.getElem?_append_right (by rw [doneG_len]; omega), doneG_len]; simp
theorem gQ_step (h : pre.length = L) {i j : Nat} (hj : j < N) : (pre ++ gQ L N f i j).set (L + i + 1) ⟨(rowC N f i j).set (0 + j) (.d (DI (f i j))), 0⟩ = pre ++ gQ L N f i (j + 1) := by
  rw [Nat.zero_add, show rowC N f i j = updL N (rowF f i) _ j from rfl, show XV.d (DI (f i j)) = rowF f i j from rfl, updL_set hj, List.set_append_right _ _ (by omega), show L + i + 1 - pre.length = i + 1 by omega]
  simp only [gQ, List.set_cons_succ]
  rw [List.set_append_right _ _ (by rw [doneG_len]; omega), doneG_len]
  simp [rowC]
theorem gQ_end (i : Nat) : gQ L N f i N = gP L N f (i + 1) := by rw [gQ, gP, doneG_succ]
theorem oslL_get {i : Nat} (hi : i < N) : (updL N (oslL L N) (.d Dnil) (i + 1))[0 + i]? = some (.osl (L + i + 1) 0 N 1 N true) := by
  rw [Nat.zero_add, updL_get hi (by omega)]; rfl
theorem gP_fin (h : pre.length = L) : deepen (freezeAll (pre ++ gP L N f N)) 5 (.osl L 0 N 1 N true) = some (genD N N f) := by
  have hf : freezeAll (gP L N f N) = ⟨updL N (oslL L N) (.d Dnil) N, 1⟩ :: (List.range N).map fun i => (⟨((List.range N).map fun j => DI (f i j)).map XV.d, 1⟩ : VObj) := by
    simp [freezeAll, gP, doneG, Function.comp_def, rowC, updL_full, rowF]
  have hpl : (freezeAll pre).length = L := by simp [freezeAll, h]
  have hfa : freezeAll (pre ++ gP L N f N) = freezeAll pre ++ freezeAll (gP L N f N) := by simp [freezeAll]
  have hlen : (updL N (oslL L N) (.d Dnil) N).length = N := updL_len
  rw [hfa, hf, deepen_osl (ob := ⟨updL N (oslL L N) (.d Dnil) N, 1⟩) (by rw [List.getElem?_append_right (by omega), hpl]; simp) rfl (by simp [hlen])]
  have h2 : ((updL N (oslL L N) (.d Dnil) N).drop 0).take (N * 1) = (List.range N).map (oslL L N) := by rw [List.drop_zero, Nat.mul_one, List.take_of_length_le (by omega), updL_full (Nat.le_refl _)]
  rw [show ((⟨updL N (oslL L N) (.d Dnil) N, 1⟩ : VObj).cells.drop 0).take (N * 1) = (List.range N).map (oslL L N) from h2]
  have hall : ∀ (l : List Nat), (∀ i ∈ l, i < N) → (l.map (oslL L N)).mapM (deepen (freezeAll pre ++ (⟨updL N (oslL L N) (.d Dnil) N, 1⟩ :: (List.range N).map fun i => (⟨((List.range N).map fun j => DI (f i j)).map XV.d, 1⟩ : VObj))) 4) = some (l.map fun k => rowG N (f k)) := by
    intro l
    induction l with
    | nil => intro _; rfl
    | cons i l ih =>
      intro hl
      have hi := hl i (by simp)
      rw [List.map_cons, List.mapM_cons, ih (fun k hk => hl k (by simp [hk]))]
      rw [show oslL L N i = .osl (L + i + 1) 0 N 1 N true from rfl, deepen_cells (k := 2) (R := N) (ds := (List.range N).map fun j => DI (f i j)) (by
        rw [List.getElem?_append_right (by omega), hpl, show L + i + 1 - L = i + 1 by omega]; simp [hi]) rfl (by simp)]
      rfl
  rw [hall (List.range N) (fun i hi => by simpa using hi)]; rfl
theorem keeps_pre {pre2 τ : List VObj} (h : pre.length = L) (h2 : pre2.length = L) : KeepsZ (fun id => id < L) (pre ++ τ) (pre2 ++ τ) := fun id ob hz ho => by
  simp only [Nat.not_lt] at hz
  refine ⟨ob, ?_, rfl, Iff.rfl⟩
  rw [List.getElem?_append_right (by omega)] at ho ⊢
  rw [h2, ← h]; exact ho
end
end Go.Vm
namespace Go.Vm
/-- Cells of which the first k have turned. -/
def mixL (n : Nat) (f old : Nat → XV) (k : Nat) : List XV := (List.range n).map fun q => if q < k then f q else old q
theorem mixL_len {n : Nat} {f old : Nat → XV} {k : Nat} : (mixL n f old k).length = n := by simp [mixL]
theorem mixL_zero {n : Nat} {f old : Nat → XV} : mixL n f old 0 = (List.range n).map old := by simp [mixL]
theorem mixL_full {n : Nat} {f old : Nat → XV} : mixL n f old n = (List.range n).map f := by
  refine List.map_congr_left fun q hq => ?_
  rw [if_pos (by simpa using hq)]
theorem mixL_set {n : Nat} {f old : Nat → XV} {k : Nat} (_ : k < n) : (mixL n f old k).set (0 + k) (f k) = mixL n f old (k + 1) := by
  refine List.ext_getElem (by simp [mixL]) fun i h1 h2 => ?_
  simp only [mixL, Nat.zero_add, List.getElem_set, List.getElem_map, List.getElem_range]
  by_cases e : k = i
  · subst e; simp
  · rw [if_neg e]
    by_cases h : i < k
    · rw [if_pos h, if_pos (by omega)]
    · rw [if_neg h, if_neg (by omega)]
end Go.Vm
namespace Go.Vm
section
variable {P : Program} {σ : List VObj} {kn : Kn} {dst : Option Tmp} {ty : TypeId} {pos : String} {af : Array Edge} {g : Option (Nat × Bool)}
/-- A function value that brings variables. -/
theorem K.makeF {fn : Fn} {caps : Array Operand} {xs : List XV} {x : Operand} {v : XV} {m : Nat} (ha : caps.toList.mapM (evK kn) = some xs) (hx : caps[m]? = some x) (hv : evK kn x = some v) (hl : litOf v = none) :
    KEv P ⟨dst, .makeFunc fn #[] caps, ty, pos, af, g⟩ σ kn (.fn fn [] xs) σ 0 := ev_op fun env he => by
  have e1 := evK_evalX he hv
  unfold evalOp
  rw [litOp_none (x := x) (by simpa [Op.operands] using Array.mem_of_getElem? hx) (by rw [e1]; exact hl)]
  have := mapM_evK he ha
  simp [this]
end
end Go.Vm
namespace Go.Vm
theorem mixL_put {n : Nat} {f old : Nat → XV} {k : Nat} {v : XV} (_ : k < n) : (mixL n f old k).set (0 + k) v = mixL n f (fun q => if q = k then v else old q) k := by
  refine List.ext_getElem (by simp [mixL]) fun i h1 h2 => ?_
  simp only [mixL, Nat.zero_add, List.getElem_set, List.getElem_map, List.getElem_range]
  by_cases e : k = i
  · subst e; simp
  · rw [if_neg e]
    by_cases h : i < k
    · rw [if_pos h, if_pos h]
    · rw [if_neg h, if_neg h, if_neg (fun e' => e e'.symm)]
theorem mixL_put2 {n : Nat} {f old : Nat → XV} {k : Nat} {v w : XV} (hk : k < n) : (mixL n f (fun q => if q = k then v else old q) k).set (0 + k) w = mixL n f (fun q => if q = k then w else old q) k := by
  rw [mixL_put hk]; congr 1; funext q; split <;> rfl
theorem mixL_done {n : Nat} {f old : Nat → XV} {k : Nat} (hk : k < n) : mixL n f (fun q => if q = k then f k else old q) k = mixL n f old (k + 1) := by
  rw [← mixL_put hk, mixL_set hk]
theorem mixL_get {n : Nat} {f old : Nat → XV} {k : Nat} {v : XV} (hk : k < n) : (mixL n f (fun q => if q = k then v else old q) k)[0 + k]? = some v := by
  simp [mixL, hk]
theorem mixL_rep {n : Nat} {f : Nat → XV} {v : XV} : List.replicate n v = mixL n f (fun _ => v) 0 := by
  rw [mixL_zero, List.map_const', List.length_range]
end Go.Vm
namespace Go.Cy
theorem gre_ge (l : List Int) : Nv ≤ gre l := by
  have key : ∀ (l : List Int) (z : Int), Nv ≤ z → Nv ≤ l.foldl max z := by
    intro l
    induction l with
    | nil => intro z hz; exact hz
    | cons x l ih => intro z hz; exact ih _ (by omega)
  exact key l Nv (Int.le_refl _)
/-- The greatest of the first k values. -/
def greR (k : Nat) (f : Nat → Int) : Int := gre ((List.range k).map f)
theorem greR_succ (k : Nat) (f : Nat → Int) : greR (k + 1) f = max (greR k f) (f k) := by
  unfold greR
  rw [List.range_succ, List.map_append]
  exact foldl_snoc _ _ _
end Go.Cy

end
section
/-
  VALUES WITHOUT ADDRESSES: what a cell of one's own, or a slot, stands for may be told in another way.
-/
namespace Go.Vm
open Go.RowKit

theorem Mem.recell {M : Nat → Prop} {W0 w : World} {ι : List Nat} {σ : List VObj} (hm : Mem M W0 ι σ w) {id i : Nat} {ob : VObj} {x : XV} {d : DV} (ho : σ[id]? = some ob) (h2 : ob.mode < 2) (hx : ob.cells[i]? = some x)
    (hd : ∀ v, XRep w ι (Forb M ι σ) v x → DRep w (Forb M ι σ) v d) : Mem M W0 ι (σ.set id ⟨ob.cells.set i (.d d), ob.mode⟩) w ∧ Ext M ι σ w ι (σ.set id ⟨ob.cells.set i (.d d), ob.mode⟩) w := by
  have hlt := (List.getElem?_eq_some_iff.1 ho).1
  have hback : ∀ (j : Nat) (o : VObj), (σ.set id ⟨ob.cells.set i (.d d), ob.mode⟩)[j]? = some o → ∃ o1, σ[j]? = some o1 ∧ o.mode = o1.mode ∧ o.cells.length = o1.cells.length := by
    intro j o h
    by_cases e : id = j
    · subst e
      rw [List.getElem?_set_self hlt] at h
      cases h
      exact ⟨ob, ho, rfl, by simp⟩
    · rw [List.getElem?_set_ne e] at h
      exact ⟨o, h, rfl, rfl⟩
  have hmt : ∀ c, Mut ι (σ.set id ⟨ob.cells.set i (.d d), ob.mode⟩) c → Mut ι σ c := by
    rintro c ⟨j, p, h1, h2, h3⟩
    obtain ⟨o, k1, k2, _⟩ := hback j p h1
    exact ⟨j, o, k1, h2, by rw [← k2]; exact h3⟩
  have hext : Ext M ι σ w ι (σ.set id ⟨ob.cells.set i (.d d), ob.mode⟩) w := ⟨fun _ _ h => h, fun _ _ _ => rfl, Nat.le_refl _, fun c _ h => hmt c h, fun _ _ h => h, fun _ r h => ⟨r, h⟩⟩
  refine ⟨⟨by rw [hm.len]; simp, ?_, fun j o b h1 h2' h3 => by
    by_cases e : id = j
    · subst e
      rw [List.getElem?_set_self hlt] at h1
      cases h1
      simp only at h3; omega
    · rw [List.getElem?_set_ne e] at h1
      exact (hm.spec j o b h1 h2' h3).ext hext rfl, hm.fresh, ?_, hm.below, hm.outer⟩, hext⟩
  · intro j o b h1 h2' h3
    by_cases e : id = j
    · subst e
      rw [List.getElem?_set_self hlt] at h1
      cases h1
      obtain ⟨cur, ty, q1, q2, q3⟩ := hm.objs id ob b ho h2' h2
      refine ⟨cur, ty, q1, by simpa using q2, fun m y hy => ?_⟩
      by_cases em : i = m
      · subst em
        rw [List.getElem?_set_self (List.getElem?_eq_some_iff.1 hx).1] at hy
        cases hy
        obtain ⟨v, kv, kx⟩ := q3 i x hx
        exact ⟨v, kv, (XRep.d (hd v kx)).ext hext⟩
      · rw [List.getElem?_set_ne em] at hy
        obtain ⟨v, kv, kx⟩ := q3 m y hy
        exact ⟨v, kv, kx.ext hext⟩
    · rw [List.getElem?_set_ne e] at h1
      obtain ⟨cur, ty, q1, q2, q3⟩ := hm.objs j o b h1 h2' h3
      exact ⟨cur, ty, q1, q2, fun m y hy => by
        obtain ⟨v, kv, kx⟩ := q3 m y hy
        exact ⟨v, kv, kx.ext hext⟩⟩
  · intro i' j oi oj bi bj hij h1 h2' h3 h4 h5 h6
    obtain ⟨o1, a1, a2, _⟩ := hback i' oi h1
    obtain ⟨o2, b1, b2, _⟩ := hback j oj h2'
    exact hm.apart i' j o1 o2 bi bj hij a1 b1 h3 h4 (by rw [← a2]; exact h5) (by omega)

section
variable {P : Program} {M : Nat → Prop} {W0 : World} {n : Nat} {σ : List VObj} {kn : Kn}
/-- A cell that refers to an object which is only read from here on. -/
theorem KC.ghostC {c : Code} {T : Exit → List VObj → Kn → Prop} (ids : List Nat) (m : Nat) {id i : Nat} {ob : VObj} {x : XV} {d : DV} (ho : (freezeIds σ ids)[id]? = some ob) (h2 : ob.mode < 2) (hx : ob.cells[i]? = some x) (hd : deepen (freezeIds σ ids) m x = some d)
    (h : KC P M W0 n c ((freezeIds σ ids).set id ⟨ob.cells.set i (.d d), ob.mode⟩) kn T) : KC P M W0 n c σ kn T := by
  intro env he C ι a w hF Q hQ
  obtain ⟨f1, f2⟩ := freezeIds_tamed hF.mem ids
  obtain ⟨g1, g2⟩ := f1.recell ho h2 hx fun v hv => deepen_sound f1 m v x d hv hd
  exact h env he C ι a w ⟨g1, fun s => ((hF.env s).ext f2).ext g2, hF.size, (hF.defers.ext f2).ext g2, fun l hl => let ⟨r, hr⟩ := hF.round l hl; (f2.trans g2).loops l r hr⟩ Q fun e ι' s' a' w' hT hFr hE => hQ e ι' s' a' w' hT hFr (f2.trans (g2.trans hE))
/-- A slot that is told in another way. -/
theorem KC.ghostX {c : Code} {T : Exit → List VObj → Kn → Prop} {t : Nat} {x y : XV} (hl : look kn t = some x) (hd : ∀ (w : World) (ι : List Nat) (F : Nat → Prop) (v : Value), XRep w ι F v x → XRep w ι F v y)
    (h : KC P M W0 n c σ (extK (some t) y kn) T) : KC P M W0 n c σ kn T := by
  intro env he C ι a w hF Q hQ
  refine h (putE env (some t) y) (he.ext (some t) y) C ι a w ⟨hF.mem, fun s => ?_, hF.size, hF.defers, hF.round⟩ Q hQ
  have hs := hF.env s
  simp only [putE, upd]
  split
  · rename_i e
    subst e
    have he' : env s = x := he s x hl
    simp only [he'] at hs
    exact hd _ _ _ _ hs
  · exact hs
theorem osl_loose {w : World} {ι : List Nat} {F : Nat → Prop} {v : Value} {id off len k lo : Nat} (h : XRep w ι F v (.osl id off len k lo true)) : XRep w ι F v (.osl id off len k lo false) := by
  cases h with
  | osl hb hl hlo hex hs => exact .osl hb hl hlo (fun h => by cases h) hs
end
end Go.Vm

end
section
/-
  VALUES WITHOUT ADDRESSES, 35: slices.Sort on a slice of ints of the call's own: the library's contract, told among objects.
-/
namespace Go.Vm
open Go.RowKit Go.Sort Go.Shelf

/-- The numbers in ascending order. -/
def sortI (zs : List Int) : List Int := zs.mergeSort fun x y => decide (x ≤ y)

theorem length_sortI (zs : List Int) : (sortI zs).length = zs.length := List.length_mergeSort zs

theorem sortI_perm (zs : List Int) : (sortI zs).Perm zs := List.mergeSort_perm zs _

theorem sortI_sorted (zs : List Int) : (sortI zs).Pairwise (· ≤ ·) := by
  have h := List.pairwise_mergeSort (le := fun x y : Int => decide (x ≤ y)) (fun a b c h1 h2 => by simp at *; omega) (fun a b => by simp; omega) zs
  exact h.imp fun h => by simpa using h

section
variable {P : Program} {ρ : Ren}

/-- What the fence of the library's contract asks is asked of no one. -/
theorem calls_of_in {F : List FuncId} {n : Nat} {f : FuncId} {args : Array Value} {w : World} {R : Ending → World → Prop} (h : ∀ D, CallsIn (Fence.list F (some D)) n P f args w R) : Calls P f args w R := fun cs => by
  obtain ⟨e, w', fr, r, s, x⟩ := (h (cs.length + 1 + n)).2 cs (fun d hd => by cases hd; omega)
  exact ⟨e, w', fr, r, s.comes, x⟩

theorem setRow_eq_mapBlock (w : World) (b : Nat) (f : Array Value → Array Value) {cur : Array Value} {ty : TypeId} {fr : Nat × Nat} (h : w.heap[b]? = some (.cells cur ty fr)) : mapBlock w b f = w.setRow b (f cur) := by
  unfold mapBlock World.setRow
  congr 1
  apply Array.ext_getElem?
  intro k
  simp only [Array.getElem?_modify]
  by_cases hk : b = k
  · subst hk
    simp only [if_true, h, Option.map_some, onCells]
  · simp [hk]

/-- SORT. -/
theorem sort_own (Ly : Go.Proofs.Lays.n189 P ρ) {σ : List VObj} {id lo : Nat} {ex : Bool} {zs : List Int} {rest : List XV} (ho : σ[id]? = some ⟨(zs.map fun z => XV.d (DI z)) ++ rest, 0⟩) (hn : zs.length < 4611686018427387904) :
    OwnCall P (ρ.f 189) σ [.osl id 0 zs.length 1 lo ex] (σ.set id ⟨((sortI zs).map fun z => XV.d (DI z)) ++ rest, 0⟩) (.d (.lit (.tuple #[]))) := by
  intro M W0 ι w vs hm hl hx
  match vs, hl with
  | [v0], _ =>
  have h0 := hx 0 v0 _ rfl rfl
  cases h0 with
  | @osl b off len cap _ _ _ _ hb hl' hlo hex hs =>
  obtain ⟨cur, ty, k1, k2, k3⟩ := hm.objs id _ b ho hb (by simp)
  simp only [List.length_append, List.length_map] at k2
  have hcell : ∀ j (h : j < zs.length), cur[j]? = some (.int .i64 zs[j]) := fun j h => by
    obtain ⟨v, e1, e2⟩ := k3 j (.d (DI zs[j])) (by rw [List.getElem?_append_left (by simpa using h)]; simp [h])
    cases e2 with | d e2 => cases e2 with | lit => exact e1
  have hH : Holds (Value.int .i64) w b 0 zs.toArray := fun j hj => by
    have hj' : j < zs.length := by simpa using hj
    refine ⟨?_, by simp [World.frozen?, k1]⟩
    simp [World.cell?, k1, hcell j hj', hj']
  have hcall := calls_of_in (P := P) fun D => Go.Proofs.AnyS.slices_Sort_int_in Ly D b 0 cap zs w hH (hm.fresh _ _ hb).2 hn
  refine hcall.mono fun e w' => ?_
  rintro ⟨rfl, n, os, rfl⟩
  -- the count of draws
  have hb1 : Below w.heap.size w (Sort.ahead w n) := ⟨rfl, rfl, rfl, Nat.le_refl _, fun _ _ => rfl⟩
  obtain ⟨m1, x1⟩ := hm.grown hb1
  -- the cells
  have hlen := length_sortI zs
  have hw := m1.write ho hb rfl (cur := cur) (ty := ty) k1 0 ((sortI zs).map (Value.int .i64)) ((sortI zs).map fun z => XV.d (DI z)) (by simp) (by simp [hlen]) (fun i v x hv hx => by
    simp only [List.getElem?_map, Option.map_eq_some_iff] at hv hx
    obtain ⟨z, hz, rfl⟩ := hv
    obtain ⟨z', hz', rfl⟩ := hx
    rw [hz] at hz'; cases hz'
    exact .d (.lit _))
  have e1 : splice ((zs.map fun z => XV.d (DI z)) ++ rest) 0 ((sortI zs).map fun z => XV.d (DI z)) = ((sortI zs).map fun z => XV.d (DI z)) ++ rest := by
    unfold splice
    rw [List.take_zero, List.nil_append, Nat.zero_add, List.length_map, hlen, List.drop_append_of_le_length (by simp), List.drop_of_length_le (by simp), List.nil_append]
  have e2 : putRow (Value.int .i64) (Sort.ahead w n) b 0 (zs.mergeSort fun x y => decide (x ≤ y)).toArray = (Sort.ahead w n).setRow b (splice cur.toList 0 ((sortI zs).map (Value.int .i64))).toArray := by
    unfold putRow
    rw [setRow_eq_mapBlock (Sort.ahead w n) b _ (show (Sort.ahead w n).heap[b]? = _ from k1)]
    congr 1
    apply Array.ext_getElem?
    intro i
    conv => rhs; rw [List.getElem?_toArray, getElem?_splice _ _ _ (by simp [hlen]; omega)]
    simp only [putCells, Array.getElem?_mapIdx, Nat.zero_add, Nat.sub_zero, Nat.zero_le, true_and, List.size_toArray, List.length_map, Array.getElem?_toList]
    have hs : (zs.mergeSort fun x y => decide (x ≤ y)).length = zs.length := List.length_mergeSort zs
    by_cases hi : i < zs.length
    · have hc : i < cur.size := by omega
      rw [Array.getElem?_eq_getElem hc, Option.map_some, if_pos (by rw [hs]; exact hi), if_pos (by rw [hlen]; exact hi)]
      have hi2 : i < (zs.mergeSort fun x y => decide (x ≤ y)).length := by rw [hs]; exact hi
      rw [List.getElem?_map, show (sortI zs)[i]? = some ((zs.mergeSort fun x y => decide (x ≤ y))[i]) from List.getElem?_eq_getElem hi2, Option.map_some]
      congr 2
      rw [getElem!_pos _ i (by simpa using hi2)]; rfl
    · rw [if_neg (by rw [hlen]; exact hi)]
      cases cur[i]? with
      | none => rfl
      | some v => rw [Option.map_some, if_neg (by rw [hs]; exact hi)]
  rw [e1, ← e2] at hw
  obtain ⟨m2, x2⟩ := hw
  -- new blocks
  have hb3 : Below (putRow (Value.int .i64) (Sort.ahead w n) b 0 (zs.mergeSort fun x y => decide (x ≤ y)).toArray).heap.size (putRow (Value.int .i64) (Sort.ahead w n) b 0 (zs.mergeSort fun x y => decide (x ≤ y)).toArray) (grow (putRow (Value.int .i64) (Sort.ahead w n) b 0 (zs.mergeSort fun x y => decide (x ≤ y)).toArray) os) :=
    ⟨rfl, rfl, rfl, by simp, fun k hk => by simp only [grow]; exact Array.getElem?_append_left hk⟩
  obtain ⟨m3, x3⟩ := m2.grown hb3
  exact ⟨ι, _, _, _, rfl, m3, x1.trans (x2.trans x3), .d (.lit _), rfl, rfl⟩
end
end Go.Vm

end
section
/-
  HEAT: streams, levels, surpluses, cascades: pure functions.
-/
namespace Go.Ht
open Go.Vm

/-- A stream: where it begins, where it ends, its heat for each degree. -/
structure Sm where
  a : Int
  b : Int
  r : Int
  deriving Inhabited, DecidableEq

def Sm.ok (s : Sm) : Bool := decide (0 ≤ s.a) && decide (s.a ≤ 200) && (decide (0 ≤ s.b) && decide (s.b ≤ 200)) && decide (s.a ≠ s.b) && (decide (1 ≤ s.r) && decide (s.r ≤ 20))
def hot (s : Sm) : Bool := decide (s.b < s.a)
def up (gap : Int) (s : Sm) : Int := if hot s then s.a - gap else s.b
def lo (gap : Int) (s : Sm) : Int := if hot s then s.b - gap else s.a
/-- The heat of a stream between two shifted temperatures. -/
def ht (gap : Int) (s : Sm) (u d : Int) : Int := s.r * max 0 (min u (up gap s) - max d (lo gap s))
/-- .. counted for a hot stream, against for a cold one. -/
def hs (gap : Int) (u d : Int) (s : Sm) : Int := if hot s then ht gap s u d else - ht gap s u d
/-! ### Levels -/
def ends (gap : Int) (l : List Sm) : List Int := l.flatMap fun s => [up gap s, lo gap s]
/-! ### The cascade -/
end Go.Ht

end
section
/-
  A STATEMENT WHOSE ORDER IS OPEN, WALKED THROUGH EVERY ORDER: for statements that make two objects.
-/
namespace Go.Vm
open Go.RowKit

/-- The operations that are left, in every order. -/
def KA (P : Program) (M : Nat → Prop) (W0 : World) (n : Nat) (ops : Array Oper) (T : List VObj → Kn → Prop) (fuel : Nat) (listed : Array Bool) (σ : List VObj) (kn : Kn) : Prop :=
  ∀ env, Agree kn env → ∀ (C : Ctx) (ι : List Nat) (a : Act) (w : World), Fr M W0 C n ι ⟨σ, env⟩ a w → ∀ Q : Exit → Act → World → Prop,
    (∀ (ι' : List Nat) (s' : St) (kn' : Kn) (a' : Act) (w' : World), T s'.σ kn' → Agree kn' s'.env → Fr M W0 C n ι' s' a' w' → Ext M ι σ w ι' s'.σ w' → Q .normal a' w') → wpAnyIn (FR C.ro) 0 P .any ops Q fuel listed a w

/-- One of them next. -/
def KO (P : Program) (M : Nat → Prop) (W0 : World) (n : Nat) (ops : Array Oper) (T : List VObj → Kn → Prop) (fuel : Nat) (listed : Array Bool) (σ : List VObj) (kn : Kn) (i : Nat) : Prop :=
  ∃ (o : Oper) (x : XV) (σ' : List VObj) (fl : Nat), ops[i]? = some o ∧ guardK ops kn o = some true ∧ dstOk n o.dst = true ∧ KEv P o σ kn x σ' fl ∧
    KA P M W0 n ops T fuel (listed.setIfInBounds i true) σ' (extK o.dst x kn)

def KAll (p : Nat → Prop) : List Nat → Prop
  | [] => True
  | i :: l => p i ∧ KAll p l
theorem KAll.mem {p : Nat → Prop} : ∀ {l : List Nat}, KAll p l → ∀ i ∈ l, p i
  | [], _, _, h => by simp at h
  | j :: l, h, i, hi => by
    rcases List.mem_cons.1 hi with e | e
    · subst e; exact h.1
    · exact h.2.mem i e

section
variable {P : Program} {M : Nat → Prop} {W0 : World} {n : Nat} {ops : Array Oper} {T : List VObj → Kn → Prop} {fuel : Nat} {listed : Array Bool} {σ : List VObj} {kn : Kn}
theorem KA.done (hr : Region.ready .any ops listed = []) (h : T σ kn) : KA P M W0 n ops T fuel listed σ kn := by
  intro env ha C ι a w hf Q hq
  have := hq ι ⟨σ, env⟩ kn a w h ha hf (.refl _ _ _ _)
  cases fuel with
  | zero => exact ⟨hr, this⟩
  | succ f => exact ⟨fun _ => this, fun i hi => by rw [hr] at hi; simp at hi⟩
theorem KA.next {i0 : Nat} {r : List Nat} (hr : Region.ready .any ops listed = i0 :: r) (h : KAll (KO P M W0 n ops T fuel listed σ kn) (i0 :: r)) : KA P M W0 n ops T (fuel + 1) listed σ kn := by
  intro env ha C ι a w hf Q hq
  refine ⟨fun h0 => by rw [hr] at h0; simp at h0, fun i hi => ?_⟩
  rw [hr] at hi
  obtain ⟨o, x, σ', fl, ho, hg, hd, he, hk⟩ := h.mem i hi
  unfold wpOpIn
  rw [ho]
  simp only
  rw [if_pos (by rw [guardX_sound hf.env (guardK_X ha hg)])]
  refine (he env ha).wp hf.mem hf.env fun ι' v w' h1 h2 h3 => ?_
  exact hk (putE env o.dst x) (ha.ext o.dst x) C ι' _ w' (hf.put hd h1 h2 h3) Q fun ι'' s' kn' a' w'' k0 k1 k2 k3 => hq ι'' s' kn' a' w'' k0 k1 k2 (h2.trans k3)
theorem KO.op {i : Nat} {o : Oper} {x : XV} {σ' : List VObj} {fl : Nat} (ho : ops[i]? = some o) (hg : guardK ops kn o = some true) (hd : dstOk n o.dst = true) (he : KEv P o σ kn x σ' fl)
    (h : KA P M W0 n ops T fuel (listed.setIfInBounds i true) σ' (extK o.dst x kn)) : KO P M W0 n ops T fuel listed σ kn i := ⟨o, x, σ', fl, ho, hg, hd, he, h⟩
theorem KC.orders (hm : P.follows .mixedOrders = true) {rid : Nat} {T : Exit → List VObj → Kn → Prop} (h : KA P M W0 n ops (T .normal) ops.size (Array.replicate ops.size false) σ kn) : KC P M W0 n (.region rid ops true) σ kn T := by
  intro env ha C ι a w hf Q hq
  have hmem : Mem M W0 ι σ { w with drawn := w.drawn + 1 } ∧ Ext M ι σ w ι σ { w with drawn := w.drawn + 1 } := hf.mem.grown (Below.drew (Below.refl _ _))
  exact wpIn_region_any hm (h env ha C ι a _ ⟨hmem.1, fun t => (hf.env t).ext hmem.2, hf.size, hf.defers.ext hmem.2, hf.round⟩ Q fun ι' s' kn' a' w' k0 k1 k2 k3 => hq .normal ι' s' a' w' ⟨kn', k1, k0⟩ k2 (hmem.2.trans k3))
end
end Go.Vm

end
section
/-
  WHAT A STATEMENT OPENS, for types that hold themselves: by the depth of the reading.
-/
namespace Go.Vm
open Go.RowKit Go.ChangeShapes Go.WideShapes Go.Deep

/-- The same, for readings of so many levels. -/
def OpnB (B : Nat) (P : Program) (t : TypeId) (R : List DV → Prop) : Prop :=
  ∀ (H : Type) (enc : TypeId × Value → H) (w : World) (held : Bool) (fuel : Nat) (cs : List Value) (x : DataW H × List MemPlace), fuel ≤ B → DataW.trod enc P w 0 (fun _ => true) held fuel t cs = some x → ∃ ds, DReps w cs ds ∧ R ds
section
variable {P : Program} {t e : TypeId}
theorem OpnB.all {R : List DV → Prop} (h : ∀ B, OpnB B P t R) : Opn P t R := fun H enc w held fuel cs x hx => h fuel H enc w held fuel cs x (Nat.le_refl _) hx
theorem Opn.b {R : List DV → Prop} (h : Opn P t R) (B : Nat) : OpnB B P t R := fun H enc w held fuel cs x _ hx => h H enc w held fuel cs x hx
theorem OpnB.less {R : List DV → Prop} {B C : Nat} (h : OpnB C P t R) (hb : B ≤ C) : OpnB B P t R := fun H enc w held fuel cs x hB hx => h H enc w held fuel cs x (Nat.le_trans hB hb) hx
theorem OpnB.mono {B : Nat} {R R' : List DV → Prop} (h : OpnB B P t R) (hr : ∀ ds, R ds → R' ds) : OpnB B P t R' := fun H enc w held fuel cs x hB hx => by
  obtain ⟨ds, h1, h2⟩ := h H enc w held fuel cs x hB hx
  exact ⟨ds, h1, hr _ h2⟩
theorem OpnB.slice {B : Nat} {R : List DV → Prop} {k : Nat} (ht : P.underlying t = some (.slice e)) (hk : P.cellsOf e = k) (he : OpnB B P e R) : OpnB (B + 1) P t (One (VecP k R)) := fun H enc w held fuel cs x hB h => by
  rcases DataW.trod_slice ht h with ⟨rfl, _⟩ | ⟨a, len, cap, elems, rest, n, hfu, rfl, _, _, hl, hm, hlen, hel, _, _⟩
  · exact ⟨[Dnil], .one (.lit _), _, rfl, .nil⟩
  · have each : ∀ i, i < len → ∃ y : List Value × List DV, w.cells? 0 (a.add (i * k)) k = some y.1 ∧ DReps w y.1 y.2 ∧ R y.2 := by
      intro i hi
      have h1 := hel i hi
      rw [List.getElem?_eq_getElem (by omega), hk] at h1
      obtain ⟨c, hc, hd⟩ := Option.bind_eq_some_iff.1 h1
      obtain ⟨ds, h2, h3⟩ := he H enc w held n c _ (by omega) hd
      exact ⟨(c, ds), hc, h2, h3⟩
    obtain ⟨y, hy⟩ := choose_lt each
    have hcl : ∀ i, i < len → (y i).1.length = k ∧ (y i).2.length = k := fun i hi => by
      obtain ⟨_, h2, _⟩ := World.cells?_some (hy i hi).1
      exact ⟨h2, by rw [← (hy i hi).2.1.1]; exact h2⟩
    have f2 := rows_flat k ((List.range len).map fun i => (y i).2) (fun l hl' => by
      obtain ⟨i, hi, rfl⟩ := List.mem_map.1 hl'
      exact (hcl i (by simpa using hi)).2)
    have f1 := rows_flat k ((List.range len).map fun i => (y i).1) (fun l hl' => by
      obtain ⟨i, hi, rfl⟩ := List.mem_map.1 hl'
      exact (hcl i (by simpa using hi)).1)
    simp only [List.length_map, List.length_range] at f1 f2
    refine ⟨[.sl ((List.range len).map fun i => (y i).2).flatten len none], .one ?_, _, rfl, .sl f2.1 (by have := maxLen_is; omega) fun i hi => ?_⟩
    · have split : ∀ p, p < len * k → ∃ i j, i < len ∧ j < k ∧ p = i * k + j := fun p hp => by
        have hk0 : 0 < k := by
          cases k with
          | zero => simp at hp
          | succ k => omega
        exact ⟨p / k, p % k, by rw [Nat.div_lt_iff_lt_mul hk0]; exact hp, Nat.mod_lt _ hk0, by rw [Nat.mul_comm]; exact (Nat.div_add_mod p k).symm⟩
      have cellAt : ∀ i j, i < len → j < k → w.cell? (a.add (i * k + j)) = (y i).1[j]? ∧ ((List.range len).map fun i => (y i).1).flatten[i * k + j]? = (y i).1[j]? ∧ ((List.range len).map fun i => (y i).2).flatten[i * k + j]? = (y i).2[j]? := by
        intro i j hi hj
        obtain ⟨_, _, h3⟩ := World.cells?_some (hy i hi).1
        have h4 := f1.2 i (y i).1 (by simp [hi])
        have h5 := f2.2 i (y i).2 (by simp [hi])
        refine ⟨?_, ?_, ?_⟩
        · rw [← h3 j hj, add_add']
        · conv => rhs; rw [← h4]
          rw [List.getElem?_take, if_pos hj, List.getElem?_drop]
        · conv => rhs; rw [← h5]
          rw [List.getElem?_take, if_pos hj, List.getElem?_drop]
      have key : len * k ≠ 0 → a.spot = none := by
        intro h0
        obtain ⟨i, j, hi, hj, he⟩ := split 0 (by omega)
        have h1 := (cellAt i j hi hj).1
        rw [← he, List.getElem?_eq_getElem (by rw [(hcl i hi).1]; exact hj)] at h1
        have := World.cell?_spot h1
        simpa [Addr.add] using this
      refine .sl ((List.range len).map fun i => (y i).1).flatten hl (fun c h => by cases h) (by rw [f1.1, f2.1]) (fun hne => ⟨key ?_, fun h => h⟩) (fun p v hv => ?_) (fun p v x hv hx => ?_)
      · intro h0
        apply hne
        rw [← List.length_eq_zero_iff, f2.1, h0]
      · have hp : p < len * k := by rw [← f1.1]; exact (List.getElem?_eq_some_iff.1 hv).1
        obtain ⟨i, j, hi, hj, rfl⟩ := split p hp
        obtain ⟨c1, c2, c3⟩ := cellAt i j hi hj
        have hs := key (by omega)
        obtain ⟨b, off, spot⟩ := a
        simp only at hs
        subst hs
        rw [c2, ← c1, add_plain] at hv
        exact hv
      · have hp : p < len * k := by rw [← f1.1]; exact (List.getElem?_eq_some_iff.1 hv).1
        obtain ⟨i, j, hi, hj, rfl⟩ := split p hp
        obtain ⟨c1, c2, c3⟩ := cellAt i j hi hj
        rw [c2] at hv
        rw [c3] at hx
        exact (hy i hi).2.1.2 j v x hv hx
    · rw [f2.2 i (y i).2 (by simp [hi])]
      exact (hy i hi).2.2

/-- A struct, field by field. -/
theorem OpnB.struct {B : Nat} {fs : Array Field} (ht : P.underlying t = some (.struct fs)) (Rs : List (Nat × (List DV → Prop))) (off : Nat → Nat) (h0 : off 0 = 0) (hs : Rs.length = fs.size) (hc : P.cellsOf t = off fs.size)
    (hf : ∀ (i : Nat) (f : Field) (q : Nat × (List DV → Prop)), fs[i]? = some f → Rs[i]? = some q → f.offset = off i ∧ P.cellsOf f.type = q.1 ∧ off (i + 1) = off i + q.1 ∧ OpnB B P f.type q.2) : OpnB (B + 1) P t (Parts Rs) := fun H enc w held fuel cs x hB h => by
  obtain ⟨xs, n, hfu, _, hlen, hxl, hx⟩ := DataW.trod_struct ht h
  have go : ∀ (m i : Nat), m = fs.size - i → i ≤ fs.size → ∃ ds, DReps w (cs.drop (off i)) ds ∧ Parts (Rs.drop i) ds := by
    intro m
    induction m with
    | zero =>
      intro i hm hi
      have : i = fs.size := by omega
      subst this
      rw [List.drop_eq_nil_of_le (by omega), List.drop_eq_nil_of_le (by omega)]
      exact ⟨[], .nil, rfl⟩
    | succ m ih =>
      intro i hm hi
      have hlt : i < fs.size := by omega
      have hlt' : i < Rs.length := by omega
      obtain ⟨a1, a2, a3, a4⟩ := hf i fs[i] Rs[i] (Array.getElem?_eq_getElem hlt) (List.getElem?_eq_getElem hlt')
      obtain ⟨ds', b1, b2⟩ := ih (i + 1) (by omega) (by omega)
      have hx' := hx i fs[i] (Array.getElem?_eq_getElem hlt)
      rw [List.getElem?_eq_getElem (by omega)] at hx'
      obtain ⟨d, c1, c2⟩ := a4 H enc w held n _ _ (by omega) hx'
      rw [a1, a2] at c1
      have hle : off i + Rs[i].1 ≤ cs.length := by
        have mono : ∀ k, i + 1 + k ≤ fs.size → off (i + 1) ≤ off (i + 1 + k) := by
          intro k
          induction k with
          | zero => intro _; exact Nat.le_refl _
          | succ k ihk =>
            intro hk
            have hk1 : i + 1 + k < fs.size := by omega
            obtain ⟨_, _, a3', _⟩ := hf (i + 1 + k) fs[i + 1 + k] Rs[i + 1 + k] (Array.getElem?_eq_getElem hk1) (List.getElem?_eq_getElem (by omega))
            have := ihk (by omega)
            have e : i + 1 + (k + 1) = i + 1 + k + 1 := by omega
            rw [e]; omega
        have := mono (fs.size - (i + 1)) (by omega)
        rw [show i + 1 + (fs.size - (i + 1)) = fs.size by omega] at this
        omega
      refine ⟨d ++ ds', ?_, ?_⟩
      · have e : cs.drop (off i) = (cs.drop (off i)).take Rs[i].1 ++ cs.drop (off (i + 1)) := by
          rw [a3, ← List.drop_drop, List.take_append_drop]
        rw [e]
        exact c1.append b1
      · rw [List.drop_eq_getElem_cons hlt']
        refine ⟨d, ds', rfl, ?_, c2, b2⟩
        rw [← c1.1]; simp; omega
  obtain ⟨ds, h1, h2⟩ := go _ 0 rfl (Nat.zero_le _)
  rw [h0] at h1
  exact ⟨ds, by simpa using h1, by simpa using h2⟩


end
end Go.Vm

end
section
/-
  SLICES whose elements are of k cells each, as values; streams as cells.
-/
namespace Go.Vm
theorem chunk {α : Type} {k : Nat} : ∀ (n : Nat) (cs : List α), cs.length = n * k → ((List.range n).map fun i => (cs.drop (i * k)).take k).flatten = cs
  | 0, cs, h => by
    rw [Nat.zero_mul] at h
    rw [List.eq_nil_of_length_eq_zero h]; rfl
  | n + 1, cs, h => by
    have h2 : (cs.drop k).length = n * k := by rw [List.length_drop, h, Nat.add_mul, Nat.one_mul]; omega
    have ih := chunk n (cs.drop k) h2
    rw [List.range_succ_eq_map, List.map_cons, List.map_map, List.flatten_cons]
    have e : ((fun i => (cs.drop (i * k)).take k) ∘ Nat.succ) = fun i => ((cs.drop k).drop (i * k)).take k := funext fun i => by
      show (cs.drop ((i + 1) * k)).take k = _
      rw [List.drop_drop, Nat.add_mul, Nat.one_mul, Nat.add_comm]
    rw [e, ih, Nat.zero_mul, List.drop_zero, List.take_append_drop]
theorem VecP.rows {k : Nat} {R : List DV → Prop} {d : DV} (h : VecP k R d) : d = Dnil ∨ ∃ (rows : List (List DV)) (cap : Option Nat), d = .sl rows.flatten rows.length cap ∧ rows.length ≤ 9223372036854775807 ∧ ∀ r ∈ rows, R r := by
  cases h with
  | nil => exact .inl rfl
  | @sl cs len cap hn hl h =>
    refine .inr ⟨(List.range len).map fun i => (cs.drop (i * k)).take k, cap, ?_, by simpa using hl, fun r hr => ?_⟩
    · rw [chunk len cs hn, List.length_map, List.length_range]
    · obtain ⟨i, hi, rfl⟩ := List.mem_map.1 hr
      exact h i (List.mem_range.1 hi)
theorem list_of {α β : Type} {Q : α → β → Prop} : ∀ (rows : List α), (∀ r ∈ rows, ∃ b, Q r b) → ∃ L : List β, L.length = rows.length ∧ ∀ i (h1 : i < rows.length) (h2 : i < L.length), Q rows[i] L[i]
  | [], _ => ⟨[], rfl, fun i h1 _ => absurd h1 (Nat.not_lt_zero _)⟩
  | r :: rows, h => by
    obtain ⟨b, hb⟩ := h r (by simp)
    obtain ⟨L, h1, h2⟩ := list_of rows fun r hr => h r (List.mem_cons_of_mem _ hr)
    refine ⟨b :: L, by simp [h1], fun i k1 k2 => ?_⟩
    cases i with
    | zero => exact hb
    | succ i => exact h2 i (by simpa using k1) (by simpa using k2)
/-- A slice whose elements stand as k cells each. -/
inductive FlD {α : Type} (k : Nat) (f : α → List DV) : DV → List α → Prop
  | nil : FlD k f Dnil []
  | sl {l : List α} {cap : Option Nat} : FlD k f (.sl (l.flatMap f) l.length cap) l

theorem flat_len {α : Type} {k : Nat} {f : α → List DV} (hf : ∀ a, (f a).length = k) : ∀ l : List α, (l.flatMap f).length = l.length * k
  | [] => by simp
  | a :: l => by rw [List.flatMap_cons, List.length_append, hf, flat_len hf l, List.length_cons, Nat.add_mul]; omega

theorem flat_drop {α : Type} {k : Nat} {f : α → List DV} (hf : ∀ a, (f a).length = k) : ∀ (l : List α) (m : Nat) (hm : m < l.length), (l.flatMap f).drop (m * k) = f l[m] ++ (l.drop (m + 1)).flatMap f
  | [], m, hm => absurd hm (Nat.not_lt_zero _)
  | a :: l, 0, _ => by simp
  | a :: l, m + 1, hm => by
    rw [List.flatMap_cons, show (m + 1) * k = k + m * k by rw [Nat.add_mul]; omega, ← List.drop_drop, List.drop_append_of_le_length (by rw [hf]; exact Nat.le_refl _), List.drop_of_length_le (l := f a) (by rw [hf]; exact Nat.le_refl _), List.nil_append]
    exact flat_drop hf l m (by simpa using hm)

/-- The value that stands for a list of an own slice. -/
def flV {α : Type} (f : α → List DV) (l : List α) : DV := match l with | [] => Dnil | _ => .sl (l.flatMap f) l.length none
theorem flV_ok {α : Type} {k : Nat} {f : α → List DV} (l : List α) : FlD k f (flV f l) l := by
  cases l with
  | nil => exact .nil
  | cons a l => exact .sl

theorem own_fl {α : Type} {k : Nat} {f : α → List DV} (hf : ∀ a, (f a).length = k) (hk : 0 < k) {σ : List VObj} {n : Nat} {x : XV} {l : List α} (h : OwnK k σ x ((l.flatMap f).map .d)) (hne : l = [] → x = .d Dnil) : deepen (freezeAll σ) (n + 2) x = some (flV f l) := by
  cases l with
  | nil => rw [hne rfl]; rfl
  | cons a l =>
    generalize hc : ((a :: l).flatMap f).map XV.d = cells at h
    have hcl := congrArg List.length hc
    rw [List.length_map, flat_len hf, List.length_cons, Nat.add_mul] at hcl
    cases h with
    | nil => simp at hcl; omega
    | @sl id m cells h hn =>
      subst hc
      have hm : m = (a :: l).length := by
        rw [List.length_map, flat_len hf] at hn
        exact (Nat.mul_right_cancel hk hn).symm
      subst hm
      have h1 : (freezeAll σ)[id]? = some ⟨((a :: l).flatMap f).map .d, 1⟩ := by simp [freezeAll, h]
      rw [deepen_osl h1 rfl (by rw [List.length_map, flat_len hf]; omega)]
      rw [List.drop_zero, List.take_of_length_le (by rw [List.length_map, flat_len hf]; omega), mapM_deep]; rfl

section
variable {P : Program} {n : Nat} {ops : Array Oper} {l : List Oper} {σ : List VObj} {kn : Kn} {dst : Option Tmp} {ty : TypeId} {pos : String} {af : Array Edge} {g : Option (Nat × Bool)}
  {R : List Nat → List VObj → Kn → Prop} {α : Type} {k : Nat} {f : α → List DV}
theorem K.lenF {x : Operand} {t e : TypeId} {d : DV} {ks : List α} (hx : evK kn x = some (.d d)) (hd : FlD k f d ks) (ht : P.underlying t = some (.slice e)) :
    KEv P ⟨dst, .call ⟨.builtin .len, #[x], #[t]⟩, ty, pos, af, g⟩ σ kn (.d (DI (ks.length : Nat))) σ 0 := by
  cases hd with
  | nil => exact K.len (R := fun _ (_ : Nat) => True) (l := []) hx .nil ht
  | sl => exact K.lenD hx ht
theorem K.idxF (hf : ∀ a, (f a).length = k) {x i : Operand} {t e : TypeId} {d : DV} {ks : List α} {m : Nat} (hx : evK kn x = some (.d d)) (hd : FlD k f d ks)
    (hi : evK kn i = some (.d (DI (m : Nat)))) (hm : m < ks.length) (ht : P.underlying t = some (.slice e)) (hs : sizeT P e = some k) :
    KEv P ⟨dst, .indexAddr t x i, ty, pos, af, g⟩ σ kn (.d (.ptr (f ks[m] ++ (ks.drop (m + 1)).flatMap f))) σ 0 := by
  cases hd with
  | nil => simp at hm
  | sl =>
    have hK := K.idxDK (P := P) (σ := σ) (dst := dst) (ty := ty) (pos := pos) (af := af) (g := g) (k := k) hx hi hm ht hs
    rwa [flat_drop hf _ _ hm] at hK
/-- The whole element. -/
theorem K.loadFl {x : Operand} {t : TypeId} {cs rest : List DV} {m : Nat} (hm : cs.length = m) (hx : evK kn x = some (.d (.ptr (cs ++ rest)))) (ht : isAggT P t = some true) (hs : sizeT P t = some m) :
    KEv P ⟨dst, .load t x, ty, pos, af, g⟩ σ kn (.d (.agg cs)) σ 0 := by
  have h := K.loadAgg (σ := σ) (dst := dst) (ty := ty) (pos := pos) (af := af) (g := g) (cs := cs ++ rest) (m := m) hx ht hs (by simp; omega)
  rwa [List.take_append_of_le_length (by omega), List.take_of_length_le (by omega)] at h

/-- A slice that is appended to: made so, or a literal. -/
inductive OwnL (k : Nat) (σ : List VObj) : XV → List XV → Prop
  | own {x : XV} {cells : List XV} (h : OwnK k σ x cells) : OwnL k σ x cells
  | lit {id n : Nat} {cells : List XV} (h : σ[id]? = some ⟨cells, 0⟩) (hn : cells.length = n * k) : OwnL k σ (.osl id 0 n k n true) cells
theorem OwnL.keep {k : Nat} {σ σ' : List VObj} {x : XV} {cells : List XV} (h : OwnL k σ x cells) (hk : ∀ j, idX x = some j → σ'[j]? = σ[j]?) : OwnL k σ' x cells := by
  cases h with
  | own h => exact .own (h.keep hk)
  | lit h hn => exact .lit (by rw [hk _ rfl]; exact h) hn
theorem OwnL.lt {k : Nat} {σ : List VObj} {x : XV} {cells : List XV} (h : OwnL k σ x cells) {j : Nat} (hj : idX x = some j) : j < σ.length := by
  cases h with
  | own h => exact h.lt hj
  | lit h hn => cases hj; exact (List.getElem?_eq_some_iff.1 h).1
theorem OwnL.pushed {k : Nat} {σ : List VObj} {x : XV} {cells : List XV} (h : OwnL k σ x cells) (o : VObj) : OwnL k (σ ++ [o]) x cells := by
  cases h with
  | own h => exact .own (h.pushed o)
  | lit h hn => exact .lit (getElem?_pre _ _ _ _ h) hn
end
end Go.Vm
namespace Go.Ht
open Go.Vm
def c3 (s : Sm) : List DV := [DI s.a, DI s.b, DI s.r]
def c5 (gap : Int) (s : Sm) : List DV := [DI s.a, DI s.b, DI s.r, DI (up gap s), DI (lo gap s)]
/-- Whole numbers of an own slice. -/
def ints (l : List Int) : List DV := l.map fun n => DI n
theorem ints_ok {l : List Int} {cap : Option Nat} : Ints (.sl (ints l) l.length cap) l := by
  refine .sl (by simp [ints]) fun i c x hc hx => ?_
  unfold ints at hc
  rw [List.getElem?_map, hx] at hc
  exact (Option.some.inj hc).symm
end Go.Ht

end
section
/-
  VALUES WITHOUT ADDRESSES, 30: maps whose keys are strings, walks over strings, checks for nil.
-/
namespace Go.Vm
open Go.RowKit

section
variable {P : Program} {σ : List VObj} {kn : Kn} {dst : Option Tmp} {ty : TypeId} {pos : String} {af : Array Edge} {g : Option (Nat × Bool)}

theorem K.semP {o : Oper} {x : XV} (hs : ∀ env, Agree kn env → ∀ (F : Nat → Prop) (ι : List Nat) (w : World) (ev : Operand → Value), (∀ y ∈ o.op.operands, XRep w ι F (ev y) (evalX env y)) → ∃ v, (execOp ev o).run P w = .ok (.value v) w ∧ XRep w ι F v x) : KEv P o σ kn x σ 0 :=
  fun env he => .semP (s := ⟨σ, env⟩) (hs env he)

theorem K.semG {o : Oper} {x : XV} {τ : List VObj} (hs : ∀ env, Agree kn env → ∀ (M : Nat → Prop) (W0 : World) (ι : List Nat) (w : World) (ev : Operand → Value), Mem M W0 ι σ w → (∀ y ∈ o.op.operands, XRep w ι (Forb M ι σ) (ev y) (evalX env y)) → Good P M W0 ι σ w (execOp ev o) x (σ ++ τ)) : KEv P o σ kn x (σ ++ τ) 3 :=
  fun env he => .semG (s := ⟨σ, env⟩) (hs env he)

theorem K.semW {o : Oper} {x : XV} {σ' : List VObj} (hs : ∀ env, Agree kn env → ∀ (M : Nat → Prop) (W0 : World) (ι : List Nat) (w : World) (ev : Operand → Value), Mem M W0 ι σ w → (∀ y ∈ o.op.operands, XRep w ι (Forb M ι σ) (ev y) (evalX env y)) → Good P M W0 ι σ w (execOp ev o) x σ') : KEv P o σ kn x σ' 2 :=
  fun env he => .semW (s := ⟨σ, env⟩) (hs env he)

end
end Go.Vm

end
section
/-
  RULES: clear of an own slice of whole numbers, parts of own slices, a slice without its first element.
-/
namespace Go.Vm
open Go.RowKit
section
variable {P : Program} {σ : List VObj} {kn : Kn} {dst : Option Tmp} {ty : TypeId} {pos : String} {af : Array Edge} {g : Option (Nat × Bool)}

/-- s[m:] of an own slice. -/
theorem K.sliceOF {x h : Operand} {t e : TypeId} {id off len lo m : Nat} {ex : Bool} (hx : evK kn x = some (.osl id off len 1 lo ex)) (hh : evK kn h = some (.d (DI (m : Int)))) (hm : m ≤ len) (hl : len ≤ lo) (hmo : m < lo ∨ m = 0) (ht : P.underlying t = some (.slice e)) (hs : sizeT P e = some 1) :
    KEv P ⟨dst, .slice t x (some h) none none, ty, pos, af, g⟩ σ kn (.osl id (off + m) (len - m) 1 (lo - m) ex) σ 0 := ev_op fun env he => by
  have e1 := evK_evalX he hx
  have e2 := evK_evalX he hh
  unfold evalOp
  rw [litOp_none (x := x) (by simp [Op.operands]) (by rw [e1]; rfl)]
  simp [e1, e2, opSlice, ht, hs, boundOf, litOf, hm, hl, hmo]

/-- s[:m] of an own slice. -/
theorem K.sliceOT {x h : Operand} {t e : TypeId} {id off len lo m : Nat} {ex : Bool} (hx : evK kn x = some (.osl id off len 1 lo ex)) (hh : evK kn h = some (.d (DI (m : Int)))) (hm : m ≤ lo) (ht : P.underlying t = some (.slice e)) (hs : sizeT P e = some 1) :
    KEv P ⟨dst, .slice t x none (some h) none, ty, pos, af, g⟩ σ kn (.osl id off m 1 lo ex) σ 0 := ev_op fun env he => by
  have e1 := evK_evalX he hx
  have e2 := evK_evalX he hh
  unfold evalOp
  rw [litOp_none (x := x) (by simp [Op.operands]) (by rw [e1]; rfl)]
  simp [e1, e2, opSlice, ht, hs, boundOf, litOf, hm]

/-- A struct that is built, of plain values or not. -/
theorem K.buildS {t : TypeId} {parts : Array (Nat × Operand)} {qs : List (Nat × XV)} {r : XV} (hp : parts.toList.mapM (fun p => (evK kn p.2).map fun v => (p.1, v)) = some qs) (hr : opBuild P t qs = some r) : KEv P ⟨dst, .build t parts, ty, pos, af, g⟩ σ kn r σ 0 := by
  refine K.semP fun env he F ι w ev h => ?_
  have hex : ∀ ev : Operand → Value, execOp ev ⟨dst, .build t parts, ty, pos, af, g⟩ = (do pure (.value (← Instr.build t (parts.map fun (i, x) => (i, ev x))))) := fun _ => rfl
  rw [hex]
  obtain ⟨h1, h2⟩ := mapM_get hp
  obtain ⟨v, k1, k2⟩ := opBuild_sound (P := P) (w := w) (ι := ι) (F := F) (ps := (parts.map fun p => (p.1, ev p.2)).toList) (by simpa using h1) (fun i p q hpi hqi => by
    simp only [Array.toList_map, List.getElem?_map, Option.map_eq_some_iff] at hpi
    obtain ⟨p', hp', rfl⟩ := hpi
    have h3 := h2 i p' q hp' hqi
    obtain ⟨u, hu, rfl⟩ := Option.map_eq_some_iff.1 h3
    refine ⟨rfl, ?_⟩
    have := h p'.2 (by
      simp only [Op.operands, List.mem_toArray, List.mem_map]
      exact ⟨p', List.mem_of_getElem? hp', rfl⟩)
    rw [evK_evalX he hu] at this
    exact this) hr
  refine ⟨v, ?_, k2⟩
  rw [Array.toArray_toList] at k1
  simp [k1, Result.andThen]

/-- A call of a function value with what it brings. -/
theorem K.callC {c : Operand} {v : XV} {f : FuncId} {args : Array Operand} {ts : Array TypeId} {ds cs : List DV} {res : DV} (hv : evK kn c = some v) (hf : asFn v = some (f, [], cs.map .d)) (ha : args.toList.mapM (evK kn) = some (ds.map .d))
    (hp : plainFn P f = true) (hc : DeepCall P f (ds ++ cs) res) : KEv P ⟨dst, .call ⟨.value c, args, ts⟩, ty, pos, af, g⟩ σ kn (.d res) σ 0 := fun env he =>
  .call (first := []) (caps := cs.map .d) rfl (by rw [evK_evalX he hv]; exact hf) hp (by rw [mapM_evK he ha]; simp) hc
/-- One result, that lies in a variable. -/
theorem resK_c {fn : Func} {a t id m md : Nat} (ds : List DV) (hr : fn.results = #[.cell a t]) (hl : look kn a = some (.optr id 0)) (ho : σ[id]? = some ⟨ds.map .d, md⟩) (h2 : md < 2) (ha : isAggT P t = some true) (hs : sizeT P t = some m) (hm : ds.length = m) :
    resK P fn σ kn = some (.d (.agg ds)) := by
  have := resK_agg (m := m) hr hl ho h2 ha hs (by simp; omega)
  rwa [List.drop_zero, List.take_of_length_le (by simp; omega), aggX_d] at this
end
section
variable {P : Program} {n : Nat} {ops : Array Oper} {l : List Oper} {σ : List VObj} {kn : Kn} {dst : Option Tmp} {ty : TypeId} {pos : String} {af : Array Edge} {g : Option (Nat × Bool)}
  {R : List Nat → List VObj → Kn → Prop}
/-- All cells of a variable are written. -/
theorem KT.putAll {x y : Operand} {t : TypeId} {id : Nat} {cells cs : List XV} {v : XV} (hg : guardK ops kn ⟨dst, .store t x y, ty, pos, af, g⟩ = some true) (hd : dstOk n dst = true) (hx : evK kn x = some (.optr id 0)) (hy : evK kn y = some v)
    (ho : σ[id]? = some ⟨cells, 0⟩) (hc : cellsX v = cs) (hz : cells.length = cs.length) (h1 : cs.all oneX = true) (hs : sizeT P t = some cs.length)
    (h : KT P n ops l (σ.set id ⟨cs, 0⟩) (extK dst undefX kn) (fun fls τ k => R (2 :: fls) τ k)) :
    KT P n ops (⟨dst, .store t x y, ty, pos, af, g⟩ :: l) σ kn R := by
  subst hc
  refine KT.step hg hd (K.storeN hx hy ho (by omega) h1 hs) ?_
  rw [splice_all hz]
  exact h
end
end Go.Vm

end
section
/-
  LISTS of whole numbers in an own slice: how slices.Reverse, slices.Compact and slices.Min go through them.
-/
namespace Go.Ht
open Go.Vm
/-- Cells of whole numbers. -/
def xs (l : List Int) : List XV := l.map fun z => XV.d (DI z)
theorem xs_len (l : List Int) : (xs l).length = l.length := by simp [xs]
theorem xs_get {l : List Int} {i : Nat} (hi : i < l.length) : (xs l)[0 + i]? = some (.d (DI l[i])) := by rw [Nat.zero_add]; simp [xs, hi]
theorem xs_set {l : List Int} {i : Nat} {z : Int} : (xs l).set (0 + i) (.d (DI z)) = xs (l.set i z) := by rw [Nat.zero_add]; unfold xs; rw [List.map_set]
theorem xs_app (l m : List Int) : xs (l ++ m) = xs l ++ xs m := by simp [xs]
theorem xs_ints (l : List Int) : xs l = (ints l).map .d := by simp [xs, ints]
theorem lt_of_get {α : Type} {σ : List α} {id : Nat} {o : α} (h : σ[id]? = some o) : id < σ.length := (List.getElem?_eq_some_iff.1 h).1
/-! ### Pinches -/
/-- The value of an own slice of whole numbers. -/
def intsV (l : List Int) : DV := match l with | [] => Dnil | _ => .sl (ints l) l.length none
theorem intsV_ok (l : List Int) : Ints (intsV l) l := by
  cases l with
  | nil => exact .nil
  | cons a l => exact ints_ok
theorem own_ints {σ : List VObj} {x : XV} {zs : List Int} {k : Nat} (h : OwnK 1 σ x (xs zs)) (hne : zs = [] → x = .d Dnil) : deepen (freezeAll σ) (k + 2) x = some (intsV zs) := by
  cases zs with
  | nil => rw [hne rfl]; rfl
  | cons a l =>
    generalize hc : xs (a :: l) = cs at h
    cases h with
    | nil => have := congrArg List.length hc; rw [xs_len] at this; simp at this
    | @sl id n cells h hn =>
      subst hc
      rw [xs_len, Nat.mul_one] at hn
      subst hn
      have f2 : (freezeAll σ)[id]? = some ⟨xs (a :: l), 1⟩ := by simp [freezeAll, h]
      rw [deepen_osl f2 rfl (by rw [xs_len]; omega), List.drop_zero, Nat.mul_one, List.take_of_length_le (by rw [xs_len]; exact Nat.le_refl _), xs_ints, mapM_deep]; rfl
/-! ### The reference -/
end Go.Ht

end
section
/-
  VALUES WITHOUT ADDRESSES, 31: strings; loops round by round; calls that leave the caller's objects but for some, whatever they made of their own.
-/
namespace Go.Vm
open Go.RowKit

theorem DRep.mono {w : World} {F F1 : Nat → Prop} {v : Value} {x : DV} (h : DRep w F v x) (hf : ∀ b, F1 b → F b) : DRep w F1 v x := h.ext (fun _ _ _ => rfl) (fun b _ h => hf b h)

/-- What reads before and behind a call, told with the objects that were there. -/
theorem XRep.within {w w' : World} {ι ι' : List Nat} {F F' F1 : Nat → Prop} {v0 : Value} {x : XV} (h : XRep w ι F v0 x) (hpre : ∀ (id b : Nat), ι[id]? = some b → ι'[id]? = some b) (hf : ∀ b, F1 b → F' b) :
    ∀ {v : Value}, XRep w' ι' F' v x → XRep w' ι F1 v x := by
  induction h with
  | d _ => intro v k; cases k with | d k => exact .d (k.mono hf)
  | @osl b off len cap id k lo ex hb hl hlo hex hs =>
    intro v k'
    cases k' with
    | osl hb2 hl2 hlo2 hex2 hs2 =>
      have := hpre _ _ hb
      rw [hb2] at this; cases this
      exact .osl hb hl2 hlo2 hex2 hs2
  | @optr b off id hb =>
    intro v k'
    cases k' with
    | optr hb2 =>
      have := hpre _ _ hb
      rw [hb2] at this; cases this
      exact .optr hb
  | @tup vs ds hn hx ih =>
    intro v k'
    cases k' with
    | tup hn2 hx2 =>
      refine .tup hn2 fun i u x hu hxd => ?_
      have hlt : i < vs.size := by rw [hn]; exact (List.getElem?_eq_some_iff.1 hxd).1
      exact ih i vs[i] x (Array.getElem?_eq_getElem hlt) hxd (hx2 i u x hu hxd)
  | @agg vs ds hn hx ih =>
    intro v k'
    cases k' with
    | agg hn2 hx2 =>
      refine .agg hn2 fun i u x hu hxd => ?_
      have hlt : i < vs.size := by rw [hn]; exact (List.getElem?_eq_some_iff.1 hxd).1
      exact ih i vs[i] x (Array.getElem?_eq_getElem hlt) hxd (hx2 i u x hu hxd)
  | @fn f vs us ds es hn hx hm hy ih1 ih2 =>
    intro v k'
    cases k' with
    | fn hn2 hx2 hm2 hy2 =>
      refine .fn hn2 (fun i u x hu hxd => ?_) hm2 (fun i u x hu hxd => ?_)
      · have hlt : i < vs.size := by rw [hn]; exact (List.getElem?_eq_some_iff.1 hxd).1
        exact ih1 i vs[i] x (Array.getElem?_eq_getElem hlt) hxd (hx2 i u x hu hxd)
      · have hlt : i < us.size := by rw [hm]; exact (List.getElem?_eq_some_iff.1 hxd).1
        exact ih2 i us[i] x (Array.getElem?_eq_getElem hlt) hxd (hy2 i u x hu hxd)
  | ifc _ ih =>
    intro v k'
    cases k' with
    | ifc k2 => exact .ifc (ih k2)
  | @omp b id hb =>
    intro v k'
    cases k' with
    | omp hb2 =>
      have := hpre _ _ hb
      rw [hb2] at this; cases this
      exact .omp hb
  | @yl l id hb =>
    intro v k'
    cases k' with
    | yl hb2 =>
      have := hpre _ _ hb
      rw [hb2] at this; cases this
      exact .yl hb

/-- The caller's objects behind a call: as they were, or with plain cells. -/
def Same1 (σ σ1 : List VObj) : Prop := σ1.length = σ.length ∧ ∀ (id : Nat) (o : VObj), σ1[id]? = some o → σ[id]? = some o ∨ (o.mode < 2 ∧ ∀ (i : Nat) (x : XV), o.cells[i]? = some x → ∃ d, x = .d d)

theorem Same1.refl (σ : List VObj) : Same1 σ σ := ⟨rfl, fun _ _ h => .inl h⟩

theorem Same1.put {σ : List VObj} {id md : Nat} {ds : List DV} (hmd : md < 2) : Same1 σ (σ.set id ⟨ds.map .d, md⟩) := by
  refine ⟨by simp, fun j o h => ?_⟩
  rcases set_get _ _ _ _ _ h with ⟨rfl, rfl, _⟩ | ⟨_, h'⟩
  · exact .inr ⟨hmd, fun i x hx => by
      simp only [List.getElem?_map, Option.map_eq_some_iff] at hx
      obtain ⟨d, _, rfl⟩ := hx
      exact ⟨d, rfl⟩⟩
  · exact .inl h'

/-- Objects that a call made are forgotten. -/
theorem Mem.drop {M : Nat → Prop} {W0 w w' : World} {ι ι' : List Nat} {σ σ1 τ : List VObj} (hm : Mem M W0 ι σ w) (hm' : Mem M W0 ι' (σ1 ++ τ) w') (he : Ext M ι σ w ι' (σ1 ++ τ) w') (hs : Same1 σ σ1) :
    Mem M W0 ι σ1 w' ∧ Ext M ι σ w ι σ1 w' ∧ ∀ b, Forb M ι σ1 b → Forb M ι' (σ1 ++ τ) b := by
  obtain ⟨hlen, hsame⟩ := hs
  have hget : ∀ (id : Nat) (o : VObj), σ1[id]? = some o → (σ1 ++ τ)[id]? = some o := fun id o h => by
    rw [List.getElem?_append_left (List.getElem?_eq_some_iff.1 h).1]; exact h
  have hmut : ∀ b, Mut ι σ1 b → Mut ι' (σ1 ++ τ) b := by
    rintro b ⟨id, o, h1, h2, h3⟩
    exact ⟨id, o, hget id o h1, he.pre _ _ h2, h3⟩
  have hforb : ∀ b, Forb M ι σ1 b → Forb M ι' (σ1 ++ τ) b := fun b h => h.imp id (hmut b)
  refine ⟨⟨by rw [hm.len, hlen], ?_, ?_, fun id b h => hm'.fresh id b (he.pre _ _ h), ?_, hm'.below, hm'.outer⟩, ⟨fun _ _ h => h, he.heap, he.size, fun b hb h => he.mt b hb (hmut b h), he.shape, he.loops⟩, hforb⟩
  · intro id o b h1 h2 h3
    obtain ⟨cur, ty, q1, q2, q3⟩ := hm'.objs id o b (hget id o h1) (he.pre _ _ h2) h3
    refine ⟨cur, ty, q1, q2, fun i x hi => ?_⟩
    obtain ⟨v, kv, kx⟩ := q3 i x hi
    refine ⟨v, kv, ?_⟩
    rcases hsame id o h1 with h | ⟨_, h⟩
    · obtain ⟨_, _, _, _, r3⟩ := hm.objs id o b h h2 h3
      obtain ⟨v0, _, kx0⟩ := r3 i x hi
      exact kx0.within he.pre hforb kx
    · obtain ⟨d, rfl⟩ := h i x hi
      cases kx with | d kx => exact .d (kx.mono hforb)
  · intro id o b h1 h2 h3
    rcases hsame id o h1 with h | ⟨h, _⟩
    · have a := hm.spec id o b h h2 h3
      have c := hm'.spec id o b (hget id o h1) (he.pre _ _ h2) h3
      rcases c with ⟨c1, es, clock, c2, c3, c4⟩ | c | ⟨c1, r, L, ev, c2, c3, c4, c5, c6⟩
      · rcases a with ⟨_, es0, _, _, a3, a4⟩ | ⟨a, _⟩ | ⟨a, _⟩
        · refine .inl ⟨c1, es, clock, c2, c3, fun i e cc hi hc => ?_⟩
          obtain ⟨x, k1, k2⟩ := c4 i e cc hi hc
          have hlt : i < es0.size := by rw [a3]; exact (List.getElem?_eq_some_iff.1 hc).1
          obtain ⟨x0, k3, k4⟩ := a4 i es0[i] cc (Array.getElem?_eq_getElem hlt) hc
          rw [k1] at k3
          simp only [XV.ent, XV.tup.injEq, List.cons.injEq, and_true] at k3
          refine ⟨x, k1, ?_⟩
          rw [← k3.2] at k4
          exact k4.within he.pre hforb k2
        · omega
        · omega
      · exact .inr (.inl c)
      · rcases a with ⟨a, _⟩ | ⟨a, _⟩ | ⟨_, r0, L0, ev0, _, a3, _, a5, a6⟩
        · omega
        · omega
        · refine .inr (.inr ⟨c1, r, L, ev, c2, c3, c4, c5, fun i v x hv hx => ?_⟩)
          rw [c3] at a3
          have e0 : ev = ev0 := (List.cons.inj a3).2
          subst e0
          have hlt : i < r0.tmps.size := by rw [a5]; exact (List.getElem?_eq_some_iff.1 hx).1
          exact (a6 i r0.tmps[i] x (Array.getElem?_eq_getElem hlt) hx).within he.pre hforb (c6 i v x hv hx)
    · omega
  · intro i j oi oj bi bj hij h1 h2 h3 h4 h5 h6
    exact hm'.apart i j oi oj bi bj hij (hget _ _ h1) (hget _ _ h2) (he.pre _ _ h3) (he.pre _ _ h4) h5 h6

section
variable {P : Program} {M : Nat → Prop} {W0 : World} {n : Nat} {σ : List VObj} {kn : Kn} {dst : Option Tmp} {ty : TypeId} {pos : String} {af : Array Edge} {g : Option (Nat × Bool)}

/-- A loop that ends within some rounds. -/
def RK (P : Program) (M : Nat → Prop) (W0 : World) (n : Nat) (c : Code) (T : Exit → List VObj → Kn → Prop) : Nat → List VObj → Kn → Prop
  | 0, _, _ => False
  | m + 1, σ, kn => KC P M W0 n c σ kn (thenK (RK P M W0 n c T m) T)

theorem RK.succ {c : Code} {T : Exit → List VObj → Kn → Prop} {m : Nat} (h : KC P M W0 n c σ kn (thenK (RK P M W0 n c T m) T)) : RK P M W0 n c T (m + 1) σ kn := h

theorem KC.loopN {c : Code} {T : Exit → List VObj → Kn → Prop} (m : Nat) (h : RK P M W0 n c T m σ kn) : KC P M W0 n (.loop c) σ kn T := by
  intro env he
  have key : ∀ (m : Nat) (σ : List VObj) (kn : Kn), RK P M W0 n c T m σ kn → ∀ env, Agree kn env → ∀ (C : Ctx) (ι : List Nat) (ac : Act) (w : World), Fr M W0 C n ι ⟨σ, env⟩ ac w → ∀ Q : Exit → Act → World → Prop,
      (∀ (e : Exit) (ι' : List Nat) (s' : St) (a' : Act) (w' : World), (∃ k, Agree k s'.env ∧ T e s'.σ k) → Fr M W0 C n ι' s' a' w' → Ext M ι σ w ι' s'.σ w' → Q e a' w') → Code.roundsIn (FR C.ro) 0 P c Q m ac w := by
    intro m
    induction m with
    | zero => intro σ kn h; exact h.elim
    | succ m ih =>
      intro σ kn h env he C ι ac w hf Q hq
      rw [roundsIn_succ]
      refine h env he C ι ac w hf _ fun e ι' s' a' w' hs h2 h3 => ?_
      obtain ⟨k, k1, k2⟩ := hs
      cases e with
      | normal =>
        obtain ⟨σ', env'⟩ := s'
        exact ih σ' k k2 env' k1 C ι' a' w' h2 Q fun e ι'' s'' a'' w'' q1 q2 q3 => hq e ι'' s'' a'' w'' q1 q2 (h3.trans q3)
      | exit id => exact hq (.exit id) ι' s' a' w' ⟨k, k1, k2⟩ h2 h3
      | goto j => exact hq (.goto j) ι' s' a' w' ⟨k, k1, k2⟩ h2 h3
      | ret => exact hq .ret ι' s' a' w' ⟨k, k1, k2⟩ h2 h3
      | panic c => exact hq (.panic c) ι' s' a' w' ⟨k, k1, k2⟩ h2 h3
      | outgrown => exact hq .outgrown ι' s' a' w' ⟨k, k1, k2⟩ h2 h3
  exact fun C ι ac w hf Q hq => wpIn_loop_rounds m (key m σ kn h env he C ι ac w hf Q hq)

/-- A slice literal of deep values is a deep value: its block is new. -/
theorem K.litSl {t : TypeId} {m k : Nat} {parts : Array (Nat × Operand)} {qs : List (Nat × XV)} {cells : List XV} {lo : Nat} {d : DV} (hp : parts.toList.mapM (fun p => (evK kn p.2).map fun v => (p.1, v)) = some qs) (hq : ∀ q ∈ qs, ∃ e, q.2 = .d e)
    (hr : opBuildSlice P [] t m qs = some (.osl 0 0 m k lo true, [⟨cells, 0⟩])) (hd : deepen [⟨cells, 1⟩] 9 (.osl 0 0 m k lo true) = some d) : KEv P ⟨dst, .buildSlice t m parts, ty, pos, af, g⟩ σ kn (.d d) σ 0 := fun env he => by
  refine .hid (s := ⟨σ, env⟩) fun F ι w ev hF h => ?_
  have hex : ∀ ev : Operand → Value, execOp ev ⟨dst, .buildSlice t m parts, ty, pos, af, g⟩ = (do pure (.value (← Instr.buildSlice t m (parts.map fun (i, x) => (i, ev x))))) := fun _ => rfl
  rw [hex]
  obtain ⟨h1, h2⟩ := mapM_get hp
  have hm := Mem.start F w hF
  obtain ⟨ι', w', v, k1, k2, k3, k4⟩ := opBuildSlice_sound (P := P) hm (ps := (parts.map fun p => (p.1, ev p.2)).toList) (qs := qs) (by simpa using h1) (fun i p q hpi hqi => by
    simp only [Array.toList_map, List.getElem?_map, Option.map_eq_some_iff] at hpi
    obtain ⟨p', hp', rfl⟩ := hpi
    have h3 := h2 i p' q hp' hqi
    obtain ⟨u, hu, rfl⟩ := Option.map_eq_some_iff.1 h3
    obtain ⟨e, he'⟩ := hq _ (List.mem_of_getElem? hqi)
    simp only at he'
    subst he'
    have := h p'.2 (by
      simp only [Op.operands, List.mem_toArray, List.mem_map]
      exact ⟨p', List.mem_of_getElem? hp', rfl⟩)
    rw [evK_evalX he hu] at this
    simp only
    revert this
    generalize ev p'.2 = vv
    intro this
    cases this with
    | d hh => exact ⟨by first | rfl | trivial, .d (hh.mono (forb_nil F))⟩) hr
  obtain ⟨f1, f2⟩ := freezeAll_tamed k2
  have hfr : freezeAll [(⟨cells, 0⟩ : VObj)] = [⟨cells, 1⟩] := rfl
  have hdd := deepen_sound f1 9 v _ d (k4.ext f2) (by rw [hfr]; exact hd)
  refine ⟨v, w', ?_, k2.below, hdd.mono fun b hb => .inl hb⟩
  rw [Array.toArray_toList] at k1
  simp [k1, Result.andThen]

end
end Go.Vm

end
section
/-
  RULES: a literal of two structs; the first streams of a slice; utilities of two streams.
-/
namespace Go.Vm
section
variable {P : Program} {σ : List VObj} {kn : Kn} {dst : Option Tmp} {ty : TypeId} {pos : String} {af : Array Edge} {g : Option (Nat × Bool)}
end
end Go.Vm
namespace Go.Ht
open Go.Vm
end Go.Ht

end
section
/-
  Batch: shops, arcs and longest ways (pure).
-/
namespace Go.Ba
open Go.Vm Go.Ht

def c2 (o : Int × Int) : List DV := [DI o.1, DI o.2]
theorem c2_len (o : Int × Int) : (c2 o).length = 2 := rfl
abbrev PrD : DV → List (Int × Int) → Prop := FlD 2 c2
/-- The jobs of a shop. -/
abbrev JbD : DV → List (List (Int × Int)) → Prop := Vec PrD

theorem all_false_of {α : Type} {p : α → Bool} {l : List α} {a : α} (ha : a ∈ l) (h : p a = false) : l.all p = false := by
  cases hb : l.all p with
  | false => rfl
  | true => rw [List.all_eq_true.1 hb a ha] at h; cases h
def opB (M : Int) (o : Int × Int) : Bool := (decide (0 ≤ o.1) && decide (o.1 ≤ M - 1)) && (decide (1 ≤ o.2) && decide (o.2 ≤ 20))
def jobB (M : Int) (j : List (Int × Int)) : Bool := (decide (1 ≤ j.length) && decide (j.length ≤ 4)) && (j.all (opB M) && decide (j.map Prod.fst).Nodup)
def shopB (M : Int) (J : List (List (Int × Int))) : Bool := (decide (1 ≤ M) && decide (M ≤ 4)) && ((decide (1 ≤ J.length) && decide (J.length ≤ 3)) && (J.all (jobB M) && decide (J.flatten.length ≤ 9)))

structure ShopOk (M : Int) (J : List (List (Int × Int))) : Prop where
  m1 : 1 ≤ M
  m4 : M ≤ 4
  j1 : 1 ≤ J.length
  j3 : J.length ≤ 3
  jb : ∀ j ∈ J, 1 ≤ j.length ∧ j.length ≤ 4 ∧ (∀ o ∈ j, 0 ≤ o.1 ∧ o.1 < M ∧ 1 ≤ o.2 ∧ o.2 ≤ 20) ∧ (j.map Prod.fst).Nodup
  n9 : J.flatten.length ≤ 9
theorem jobB_iff {M : Int} {j : List (Int × Int)} : jobB M j = true ↔ 1 ≤ j.length ∧ j.length ≤ 4 ∧ (∀ o ∈ j, 0 ≤ o.1 ∧ o.1 < M ∧ 1 ≤ o.2 ∧ o.2 ≤ 20) ∧ (j.map Prod.fst).Nodup := by
  simp only [jobB, opB, Bool.and_eq_true, decide_eq_true_eq, List.all_eq_true]
  constructor
  · rintro ⟨⟨h1, h2⟩, h3, h4⟩
    exact ⟨h1, h2, fun o ho => by have := h3 o ho; omega, h4⟩
  · rintro ⟨h1, h2, h3, h4⟩
    exact ⟨⟨h1, h2⟩, fun o ho => by have := h3 o ho; omega, h4⟩
theorem shopB_iff {M : Int} {J : List (List (Int × Int))} : shopB M J = true ↔ ShopOk M J := by
  simp only [shopB, Bool.and_eq_true, decide_eq_true_eq, List.all_eq_true]
  constructor
  · rintro ⟨⟨h1, h2⟩, ⟨h3, h4⟩, h5, h6⟩
    exact ⟨h1, h2, h3, h4, fun j hj => jobB_iff.1 (h5 j hj), h6⟩
  · rintro ⟨h1, h2, h3, h4, h5, h6⟩
    exact ⟨⟨h1, h2⟩, ⟨h3, h4⟩, fun j hj => jobB_iff.2 (h5 j hj), h6⟩

theorem jobB_no1 {M : Int} {j : List (Int × Int)} {o : Int × Int} (ho : o ∈ j) (h : opB M o = false) : jobB M j = false := by
  rw [jobB, all_false_of ho h]; simp
theorem jobB_no2 {M : Int} {j : List (Int × Int)} {i : Nat} (hi : i < j.length) (h : j[i].1 ∈ (j.take i).map Prod.fst) : jobB M j = false := by
  have hn : ¬ (j.map Prod.fst).Nodup := fun hn => by
    rw [← List.take_append_drop i j, List.map_append, List.nodup_append] at hn
    refine hn.2.2 _ h _ ?_ rfl
    rw [List.drop_eq_getElem_cons hi, List.map_cons]; exact List.mem_cons_self
  rw [jobB, decide_eq_false hn]; simp
theorem nodup_take {j : List (Int × Int)} {i : Nat} (hi : i < j.length) (hn : ((j.take i).map Prod.fst).Nodup) (h : ¬ j[i].1 ∈ (j.take i).map Prod.fst) : ((j.take (i + 1)).map Prod.fst).Nodup := by
  rw [List.take_succ_eq_append_getElem hi, List.map_append, List.nodup_append]
  refine ⟨hn, by simp, fun a ha b hb => ?_⟩
  simp at hb; subst hb
  exact fun e => h (e ▸ ha)
theorem shopB_no {M : Int} {J : List (List (Int × Int))} {j : List (Int × Int)} (hj : j ∈ J) (h : jobB M j = false) : shopB M J = false := by
  rw [shopB, all_false_of hj h]; simp

theorem flat_le {J : List (List (Int × Int))} (h : ∀ j ∈ J, j.length ≤ 4) {k : Nat} : (J.take k).flatten.length ≤ 4 * J.length := by
  have : ∀ J : List (List (Int × Int)), (∀ j ∈ J, j.length ≤ 4) → J.flatten.length ≤ 4 * J.length := by
    intro J
    induction J with
    | nil => simp
    | cons j J ih =>
      intro h
      have := ih fun i hi => h i (by simp [hi])
      have := h j (by simp)
      simp at *; omega
  have h1 := this (J.take k) fun j hj => h j (List.mem_of_mem_take hj)
  have h2 : (J.take k).length ≤ J.length := by simp; omega
  omega

/-- Which machines some operations are of: four marks. -/
def usedC (l : List (Int × Int)) : List XV := (List.range 4).map fun (k : Nat) => XV.d (DB (decide ((k : Int) ∈ l.map Prod.fst)))
theorem usedC_len (l : List (Int × Int)) : (usedC l).length = 4 := by simp [usedC]
theorem usedC_get {l : List (Int × Int)} {k : Nat} (h : k < 4) : (usedC l)[k]? = some (.d (DB (decide ((k : Int) ∈ l.map Prod.fst)))) := by
  simp [usedC, h]
theorem usedC_set {l : List (Int × Int)} {o : Int × Int} {k : Nat} (hk : (k : Int) = o.1) : (usedC l).set k (.d (DB true)) = usedC (l ++ [o]) := by
  apply List.ext_getElem
  · simp [usedC]
  · intro i h1 h2
    have hi : i < 4 := by rw [usedC_len] at h2; exact h2
    rw [List.getElem_set]
    by_cases e : k = i
    · subst e
      simp [usedC, hk]
    · rw [if_neg e]
      have : (i : Int) ≠ o.1 := fun h => e (by omega)
      simp [usedC, this]

def tm (ops : List (Int × Int)) (i : Int) : Int := (ops.getD i.toNat (0, 0)).2
def gt (hs : List Int) (i : Int) : Int := hs.getD i.toNat 0
def rlx (ops : List (Int × Int)) (s : List Int × Bool) (a : Int × Int) : List Int × Bool :=
  if gt s.1 a.2 < gt s.1 a.1 + tm ops a.1 then (s.1.set a.2.toNat (gt s.1 a.1 + tm ops a.1), false) else s
def rnd (ops arcs : List (Int × Int)) (hs : List Int) : List Int × Bool := arcs.foldl (rlx ops) (hs, true)
def hdsN (ops arcs : List (Int × Int)) : Nat → List Int → Option (List Int)
  | 0, _ => none
  | n + 1, hs => if (rnd ops arcs hs).2 = true then some (rnd ops arcs hs).1 else hdsN ops arcs n (rnd ops arcs hs).1
def hds (ops arcs : List (Int × Int)) : Option (List Int) := hdsN ops arcs ops.length (List.replicate ops.length 0)

/-- Arcs between operations below n. -/
def ArcsIn (n : Nat) (arcs : List (Int × Int)) : Prop := ∀ a ∈ arcs, 0 ≤ a.1 ∧ a.1 < n ∧ 0 ≤ a.2 ∧ a.2 < n
def Times (ops : List (Int × Int)) : Prop := ∀ o ∈ ops, 1 ≤ o.2 ∧ o.2 ≤ 20
def Bd (B : Int) (hs : List Int) : Prop := ∀ x ∈ hs, 0 ≤ x ∧ x ≤ B

theorem tm_bd {ops : List (Int × Int)} (h : Times ops) {i : Int} (h0 : 0 ≤ i) (hi : i < ops.length) : 1 ≤ tm ops i ∧ tm ops i ≤ 20 := by
  unfold tm
  have h2 : i.toNat < ops.length := by omega
  rw [List.getD_eq_getElem?_getD, List.getElem?_eq_getElem h2]
  exact h _ (List.getElem_mem h2)
theorem gt_bd {hs : List Int} {B : Int} (h : Bd B hs) (hB : 0 ≤ B) (i : Int) : 0 ≤ gt hs i ∧ gt hs i ≤ B := by
  unfold gt
  by_cases h2 : i.toNat < hs.length
  · rw [List.getD_eq_getElem?_getD, List.getElem?_eq_getElem h2]
    exact h _ (List.getElem_mem h2)
  · rw [List.getD_eq_getElem?_getD, List.getElem?_eq_none (by omega)]; simp; exact hB
theorem rlx_len {ops : List (Int × Int)} {s : List Int × Bool} {a : Int × Int} : (rlx ops s a).1.length = s.1.length := by
  unfold rlx; split <;> simp
theorem fold_len {ops : List (Int × Int)} : ∀ (arcs : List (Int × Int)) (s : List Int × Bool), (arcs.foldl (rlx ops) s).1.length = s.1.length
  | [], _ => rfl
  | a :: arcs, s => by rw [List.foldl_cons, fold_len arcs, rlx_len]
theorem rlx_bd {ops : List (Int × Int)} (ht : Times ops) {s : List Int × Bool} {a : Int × Int} {B : Int} (hB : 0 ≤ B) (ha : 0 ≤ a.1 ∧ a.1 < ops.length) (h : Bd B s.1) : Bd (B + 20) (rlx ops s a).1 := by
  unfold rlx
  split
  · intro x hx
    rcases List.mem_or_eq_of_mem_set hx with hx | rfl
    · have := h x hx; omega
    · have := gt_bd h hB a.1; have := tm_bd ht ha.1 ha.2; omega
  · intro x hx
    have := h x hx; omega
theorem fold_bd {ops : List (Int × Int)} (ht : Times ops) : ∀ (arcs : List (Int × Int)) (s : List Int × Bool) (B : Int), 0 ≤ B → ArcsIn ops.length arcs → Bd B s.1 → Bd (B + 20 * arcs.length) (arcs.foldl (rlx ops) s).1
  | [], s, B, _, _, h => by simpa using h
  | a :: arcs, s, B, hB, ha, h => by
    have h1 := rlx_bd ht hB ⟨(ha a (by simp)).1, (ha a (by simp)).2.1⟩ h
    have h2 := fold_bd ht arcs (rlx ops s a) (B + 20) (by omega) (fun b hb => ha b (by simp [hb])) h1
    rw [List.foldl_cons]
    have e : B + 20 + 20 * (arcs.length : Int) = B + 20 * ((a :: arcs).length : Nat) := by simp; omega
    rwa [e] at h2
theorem fold_take {ops arcs : List (Int × Int)} {s : List Int × Bool} {i : Nat} (hi : i < arcs.length) : (arcs.take (i + 1)).foldl (rlx ops) s = rlx ops ((arcs.take i).foldl (rlx ops) s) arcs[i] := by
  rw [List.take_succ_eq_append_getElem hi, List.foldl_append]; rfl
theorem bd_zero (n : Nat) : Bd 0 (List.replicate n (0 : Int)) := fun x hx => by
  rw [(List.mem_replicate.1 hx).2]; omega
theorem gt_get {hs : List Int} {i : Int} {k : Nat} (hk : k < hs.length) (e : i = (k : Int)) : gt hs i = hs[k] := by
  subst e
  unfold gt
  simp [hk]
theorem tm_get {ops : List (Int × Int)} {i : Int} {k : Nat} (hk : k < ops.length) (e : i = (k : Int)) : tm ops i = ops[k].2 := by
  subst e
  unfold tm
  simp [hk]
/-- The greatest end. -/
def spanT (ops : List (Int × Int)) (hs : List Int) (k : Nat) : Int := (List.range k).foldl (fun m i => max m (gt hs (i : Nat) + tm ops (i : Nat))) 0
def spanO (ops : List (Int × Int)) (hs : List Int) : Int := spanT ops hs ops.length
theorem spanT_succ (ops : List (Int × Int)) (hs : List Int) (k : Nat) : spanT ops hs (k + 1) = max (spanT ops hs k) (gt hs (k : Nat) + tm ops (k : Nat)) := by
  unfold spanT; rw [List.range_succ, List.foldl_append]; rfl
theorem hds_len {ops arcs : List (Int × Int)} : ∀ (n : Nat) (hs r : List Int), hdsN ops arcs n hs = some r → r.length = hs.length
  | 0, _, _, h => by cases h
  | n + 1, hs, r, h => by
    unfold hdsN at h
    split at h
    · cases h; exact fold_len arcs _
    · rw [hds_len n _ _ h]; exact fold_len arcs _
theorem hdsN_bd {ops arcs : List (Int × Int)} (ht : Times ops) (ha : ArcsIn ops.length arcs) : ∀ (n : Nat) (hs r : List Int) (B : Int), 0 ≤ B → Bd B hs → hdsN ops arcs n hs = some r → Bd (B + n * (20 * arcs.length)) r
  | 0, _, _, _, _, _, h => by cases h
  | n + 1, hs, r, B, hB, hb, h => by
    have h1 := fold_bd ht arcs (hs, true) B hB ha hb
    have e : ((n + 1 : Nat) : Int) * (20 * (arcs.length : Nat)) = 20 * (arcs.length : Nat) + n * (20 * (arcs.length : Nat)) := by
      rw [Int.natCast_add, Int.add_mul]; omega
    unfold hdsN at h
    split at h
    · cases h
      intro x hx
      have h2 := h1 x hx
      have h3 : (0 : Int) ≤ n * (20 * (arcs.length : Nat)) := Int.mul_nonneg (by omega) (by omega)
      rw [e]; omega
    · have h2 := hdsN_bd ht ha n _ r (B + 20 * arcs.length) (by omega) h1 h
      intro x hx
      have h3 := h2 x hx
      rw [e]; omega
theorem hds_bd {ops arcs : List (Int × Int)} (ht : Times ops) (ha : ArcsIn ops.length arcs) {r : List Int} (h : hds ops arcs = some r) (h9 : ops.length ≤ 9) (hA : arcs.length ≤ 1000000) : Bd 200000000 r := fun x hx => by
  have h1 := hdsN_bd ht ha _ _ _ 0 (by omega) (bd_zero _) h x hx
  have : (ops.length : Int) * (20 * (arcs.length : Nat)) ≤ 9 * (20 * (arcs.length : Nat)) := Int.mul_le_mul_of_nonneg_right (by omega) (by omega)
  omega
/-- Times as they are returned. -/
def hdV (zs : List Int) : DV := .sl (ints zs) zs.length (some zs.length)
theorem hdV_ok (zs : List Int) : Ints (hdV zs) zs := ints_ok
def hdR : Option (List Int) → DV
  | some zs => .tup [hdV zs, DB true]
  | none => .tup [Dnil, DB false]
theorem own_make {σ : List VObj} {id k n : Nat} {zs : List Int} (h : σ[id]? = some ⟨xs zs, 0⟩) (e : zs.length = n) : deepen (freezeAll σ) (k + 2) (.osl id 0 n 1 n true) = some (hdV zs) := by
  subst e
  have f2 : (freezeAll σ)[id]? = some ⟨xs zs, 1⟩ := by simp [freezeAll, h]
  rw [deepen_osl f2 rfl (by rw [xs_len]; omega), List.drop_zero, Nat.mul_one, List.take_of_length_le (by rw [xs_len]; exact Nat.le_refl _), xs_ints, mapM_deep]; rfl
theorem xs_gt {l : List Int} {z : Int} (h0 : 0 ≤ z) (h : z < l.length) : (xs l)[0 + z.toNat]? = some (.d (DI (gt l z))) := by
  rw [xs_get (show z.toNat < l.length by omega), gt_get (show z.toNat < l.length by omega) (by omega)]
theorem rep_xs (n : Nat) : List.replicate n (XV.d (.lit (.int .i64 0))) = xs (List.replicate n 0) := by simp [xs]
end Go.Ba

end
section
/-
  Batch: slices of pairs: cut, and appended to where there is no room.
-/
namespace Go.Ba
open Go.Vm Go.Ht Go.RowKit

/-- A slice of pairs without room behind it. -/
inductive ClipD : DV → List (Int × Int) → Prop
  | nil : ClipD Dnil []
  | sl {l : List (Int × Int)} : ClipD (.sl (l.flatMap c2) l.length (some l.length)) l
section
variable {P : Program} {n : Nat} {ops : Array Oper} {l : List Oper} {σ : List VObj} {kn : Kn} {dst : Option Tmp} {ty : TypeId} {pos : String} {af : Array Edge} {g : Option (Nat × Bool)}
  {R : List Nat → List VObj → Kn → Prop}
/-- s[:n:n] of a slice of n pairs. -/
theorem K.slice3P {x h m : Operand} {t e : TypeId} {ks : List (Int × Int)} {cap : Option Nat} (hx : evK kn x = some (.d (.sl (ks.flatMap c2) ks.length cap))) (hh : evK kn h = some (.d (DI (ks.length : Nat)))) (hm : evK kn m = some (.d (DI (ks.length : Nat))))
    (ht : P.underlying t = some (.slice e)) (hs : sizeT P e = some 2) : KEv P ⟨dst, .slice t x none (some h) (some m), ty, pos, af, g⟩ σ kn (.d (.sl (ks.flatMap c2) ks.length (some ks.length))) σ 0 := ev_op fun env he => by
  have e1 := evK_evalX he hx
  have e2 := evK_evalX he hh
  have e3 := evK_evalX he hm
  have hl : (ks.flatMap c2).length = ks.length * 2 := flat_len c2_len ks
  unfold evalOp
  rw [litOp_none (x := x) (by simp [Op.operands]) (by rw [e1]; rfl)]
  have ht2 : (ks.flatMap c2).take (ks.length * 2) = ks.flatMap c2 := List.take_of_length_le (by omega)
  have h4 : ks.length * 2 ≤ (ks.flatMap c2).length := by omega
  simp only [e1, e2, e3, opSlice, ht, hs, boundOf, litOf, DI, Option.map_some, Option.map_none]
  simp [h4, -List.length_flatMap, ht2]
/-- append of a pair to a slice without room. -/
theorem K.appClip {t e : TypeId} {x y : Operand} {d : DV} {ks : List (Int × Int)} {p : Int × Int} {id : Nat} (hx : evK kn x = some (.d d)) (hc : ClipD d ks) (hy : evK kn y = some (.osl id 0 1 2 1 true)) (hid : σ[id]? = some ⟨(c2 p).map .d, 0⟩)
    (hlen : ks.length < 1073741823) (ht : P.underlying t = some (.slice e)) (hs : sizeT P e = some 2) (hb : bytesT P e ≤ 65536) (hz : (zeroT P e).map (·.cells.size) = some 2) :
    KEv P ⟨dst, .call ⟨.builtin .append, #[x, y], #[t, t]⟩, ty, pos, af, g⟩ σ kn (.osl σ.length 0 (ks.length + 1) 2 (ks.length + 1) false) (σ ++ [⟨((ks ++ [p]).flatMap c2).map .d, 0⟩]) 2 := ev_op fun env he => by
  have e1 := evK_evalX he hx
  have e2 := evK_evalX he hy
  have hsrc : srcCells σ 2 (.osl id 0 1 2 1 true) = some ((c2 p).map .d, 1, 1) := by
    simp [srcCells, hid, c2]
  have h1v : ((c2 p).map XV.d).all oneX = true := rfl
  unfold evalOp
  rw [litOp_none (x := y) (by simp [Op.operands, Call.operands]) (by rw [e2]; rfl)]
  cases hc with
  | nil => simp [e1, e2, opAppend, ht, hs, hsrc, h1v, growTo, hb, hz]
  | sl =>
    have hl : (ks.flatMap c2).length = ks.length * 2 := flat_len c2_len ks
    have h3 : ks.length + 1 ≤ 1073741824 := by omega
    have h4 : ks.length * 2 ≤ (ks.flatMap c2).length := by omega
    have ht2 : (ks.flatMap c2).take (ks.length * 2) = ks.flatMap c2 := List.take_of_length_le (by omega)
    simp only [e1, e2, opAppend, ht, hs, hsrc, h1v, if_true]
    simp [growTo, hb, hz, h3, h4, ht2, -List.length_flatMap]
/-- s[1:] of pairs. -/
theorem K.tailP {x : Operand} {t e : TypeId} {ls : List (Int × Int)} {d : DV} (hx : evK kn x = some (.d d)) (hd : PrD d ls) (hl : 1 ≤ ls.length) (ht : P.underlying t = some (.slice e)) (hs : sizeT P e = some 2) :
    ∃ d2, PrD d2 ls.tail ∧ KEv P ⟨dst, .slice t x (some (.const (.int .i64 1))) none none, ty, pos, af, g⟩ σ kn (.d d2) σ 0 := by
  cases hd with
  | nil => simp at hl
  | @sl _ cap =>
    refine ⟨.sl (ls.tail.flatMap c2) ls.tail.length (cap.map (· - 1)), .sl, ev_op fun env he => ?_⟩
    have e1 := evK_evalX he hx
    unfold evalOp
    rw [litOp_none (x := x) (by simp [Op.operands]) (by rw [e1]; rfl)]
    cases ls with
    | nil => simp at hl
    | cons a ls =>
      have e3 : evalX env (.const (.int .i64 1)) = .d (DI 1) := rfl
      have hl2 : (ls.flatMap c2).length = ls.length * 2 := flat_len c2_len ls
      have h4 : (ls.length + 1) * 2 ≤ ((a :: ls).flatMap c2).length := by rw [flat_len c2_len]; simp
      have h5 : (((a :: ls).flatMap c2).drop (1 * 2)).take ((ls.length + 1 - 1) * 2) = ls.flatMap c2 := by
        rw [List.flatMap_cons, show (1 * 2) = (c2 a).length by rfl, List.drop_left]
        exact List.take_of_length_le (by omega)
      generalize hcs : (a :: ls).flatMap c2 = cs at h4 h5 e1
      simp only [Nat.one_mul, Nat.add_sub_cancel] at h5
      simp [e1, e3, opSlice, ht, hs, boundOf, litOf, DI, h4, h5]
theorem KT.tailP {x : Operand} {t e : TypeId} {ls : List (Int × Int)} {d : DV} (hg : guardK ops kn ⟨dst, .slice t x (some (.const (.int .i64 1))) none none, ty, pos, af, g⟩ = some true) (hd' : dstOk n dst = true)
    (hx : evK kn x = some (.d d)) (hd : PrD d ls) (hl : 1 ≤ ls.length) (ht : P.underlying t = some (.slice e)) (hs : sizeT P e = some 2)
    (hk : ∀ r, PrD r ls.tail → KT P n ops l σ (extK dst (.d r) kn) (fun fls τ k => R (0 :: fls) τ k)) : KT P n ops (⟨dst, .slice t x (some (.const (.int .i64 1))) none none, ty, pos, af, g⟩ :: l) σ kn R := by
  obtain ⟨r, hr, hev⟩ := K.tailP (P := P) (σ := σ) (dst := dst) (ty := ty) (pos := pos) (af := af) (g := g) hx hd hl ht hs
  exact KT.step hg hd' hev (hk r hr)
end
theorem SlD.of_pr {d : DV} {l : List (Int × Int)} (h : PrD d l) : SlD d := by cases h with | nil => exact .nil | sl => exact .sl _ _ _
theorem pr_snoc (ar : List (Int × Int)) (x : Int × Int) : PrD (.sl ((ar ++ [x]).flatMap c2) (ar.length + 1) none) (ar ++ [x]) := by
  have h : PrD (.sl ((ar ++ [x]).flatMap c2) (ar ++ [x]).length none) (ar ++ [x]) := .sl
  simpa using h
theorem one3 {a c : DV} {x : XV} (ha : SlD a) (hc : SlD c) (hx : oneX x = true) : ([.d a, x, .d c] : List XV).all oneX = true := by simp [ha.one, hc.one, hx]
/-- The value of arcs that were appended. -/
theorem own_arcs {σ : List VObj} {id k n : Nat} {zs : List (Int × Int)} (h : σ[id]? = some ⟨(zs.flatMap c2).map .d, 0⟩) (e : zs.length = n) : deepen (freezeAll σ) (k + 2) (.osl id 0 n 2 n false) = some (.sl (zs.flatMap c2) n none) := by
  subst e
  have f2 : (freezeAll σ)[id]? = some ⟨(zs.flatMap c2).map .d, 1⟩ := by simp [freezeAll, h]
  rw [deepen_osl f2 rfl (by rw [List.length_map, flat_len c2_len]; omega), List.drop_zero, List.take_of_length_le (by rw [List.length_map, flat_len c2_len]; exact Nat.le_refl _), mapM_deep]; rfl
/-- A graph's value: its parts and arcs that were appended. -/
theorem deepen_gr {σ : List VObj} {id k n : Nat} {a c : DV} {zs : List (Int × Int)} (h : σ[id]? = some ⟨(zs.flatMap c2).map .d, 0⟩) (e : zs.length = n) : deepen (freezeAll σ) (k + 3) (aggX [.d a, .osl id 0 n 2 n false, .d c]) = some (.agg [a, .sl (zs.flatMap c2) n none, c]) := by
  show (([.d a, .osl id 0 n 2 n false, .d c] : List XV).mapM (deepen (freezeAll σ) (k + 2))).map DV.agg = _
  rw [List.mapM_cons, List.mapM_cons, own_arcs h e]; rfl
/-- Pairs of one machine: x before y. -/
def prsT (l : List Int) (k : Nat) : List (Int × Int) := (List.range k).flatMap fun j => (l.take j).map fun x => (x, l.getD j 0)
def prsA (l : List Int) : List (Int × Int) := prsT l l.length
def rivO (ms : List (List Int)) : List (Int × Int) := ms.flatMap prsA
theorem prsT_succ (l : List Int) (k : Nat) : prsT l (k + 1) = prsT l k ++ (l.take k).map fun x => (x, l.getD k 0) := by
  unfold prsT; rw [List.range_succ, List.flatMap_append]; simp
theorem prsT_len (l : List Int) (k : Nat) : (prsT l k).length ≤ k * l.length := by
  induction k with
  | zero => simp [prsT]
  | succ k ih =>
    rw [prsT_succ, List.length_append, List.length_map, List.length_take, Nat.add_mul]
    omega
theorem riv_len {ms : List (List Int)} (h : ∀ l ∈ ms, l.length ≤ 9) : (rivO ms).length ≤ ms.length * 81 := by
  induction ms with
  | nil => simp [rivO]
  | cons l ms ih =>
    have h1 := ih fun x hx => h x (by simp [hx])
    have h2 := prsT_len l l.length
    have h3 := h l (by simp)
    have h4 : l.length * l.length ≤ 9 * 9 := Nat.mul_le_mul h3 h3
    unfold rivO at h1 ⊢
    rw [List.flatMap_cons, List.length_append, List.length_cons, Nat.add_mul]
    unfold prsA
    unfold prsA at h1
    omega
theorem riv_take {ms : List (List Int)} {i : Nat} (hi : i < ms.length) : rivO (ms.take (i + 1)) = rivO (ms.take i) ++ prsA ms[i] := by
  unfold rivO; rw [List.take_succ_eq_append_getElem hi, List.flatMap_append]; simp
end Go.Ba

end
section
/-
  EVERY ORDER: rules for trees of orders; stores where some loads may come late.
-/
namespace Go.Vm
section
variable {P : Program} {n : Nat} {ops : Array Oper} {Z : Nat → Prop} {l : List Oper} {σ : List VObj} {kn : Kn} {dst : Option Tmp} {ty : TypeId} {pos : String} {af : Array Edge} {g : Option (Nat × Bool)}
/-- A store into what no late load reads. -/
theorem KTZ.storeG {x y : Operand} {t : TypeId} {id off : Nat} {cells : List XV} {v : XV} {R : List Nat → List Nat → List VObj → Kn → Prop} (hg : guardK ops kn ⟨dst, .store t x y, ty, pos, af, g⟩ = some true) (hd : dstOk n dst = true) (hx : evK kn x = some (.optr id off)) (hy : evK kn y = some v)
    (hz : Z id) (ho : σ[id]? = some ⟨cells, 0⟩) (hof : off < cells.length) (hc : cellsX v = [v]) (h1 : oneX v = true) (hs : sizeT P t = some 1)
    (h : ∀ σ', σ'.length = σ.length → σ'[id]? = some ⟨cells.set off v, 0⟩ → (∀ j, j ≠ id → σ'[j]? = σ[j]?) → KTZ P n ops Z l σ' (extK dst undefX kn) (fun fls gs τ k => R (2 :: fls) (2 :: gs) τ k)) :
    KTZ P n ops Z (⟨dst, .store t x y, ty, pos, af, g⟩ :: l) σ kn R := by
  refine KTZ.write hg hd (fun j ob hj hob => ?_) (K.storeO hx hy ho hof hc h1 hs) (h _ (by simp) ?_ fun j hj => ?_)
  · have hne : j ≠ id := fun e => hj (by subst e; exact hz)
    exact ⟨ob, by rw [List.getElem?_set_ne (fun e => hne e.symm)]; exact hob, rfl, Iff.rfl⟩
  · rw [List.getElem?_set, if_pos rfl, if_pos (List.getElem?_eq_some_iff.1 ho).1]
  · rw [List.getElem?_set, if_neg (fun e => hj e.symm)]
theorem KTZ.storeL {x y : Operand} {t : TypeId} {id off : Nat} {cells : List XV} {v : XV} {R : List Nat → List Nat → List VObj → Kn → Prop} (hg : guardK ops kn ⟨dst, .store t x y, ty, pos, af, g⟩ = some true) (hd : dstOk n dst = true) (hx : evK kn x = some (.optr id off)) (hy : evK kn y = some v)
    (ho : σ[id]? = some ⟨cells, 0⟩) (hof : off < cells.length) (hc : cellsX v = [v]) (h1 : oneX v = true) (hs : sizeT P t = some 1)
    (h : ∀ σ', σ'.length = σ.length → σ'[id]? = some ⟨cells.set off v, 0⟩ → (∀ j, j ≠ id → σ'[j]? = σ[j]?) → KTZ P n ops Z l σ' (extK dst undefX kn) (fun fls gs τ k => R (2 :: fls) (0 :: gs) τ k)) :
    KTZ P n ops Z (⟨dst, .store t x y, ty, pos, af, g⟩ :: l) σ kn R := by
  refine KTZ.step hg hd (K.storeO hx hy ho hof hc h1 hs) (h _ (by simp) ?_ fun j hj => ?_)
  · rw [List.getElem?_set, if_pos rfl, if_pos (List.getElem?_eq_some_iff.1 ho).1]
  · rw [List.getElem?_set, if_neg (fun e => hj e.symm)]
end
end Go.Vm

end
section
/-
  Batch: families of own slices; an append in an open order; the graph of a shop (pure).
-/
namespace Go.Vm
open Go.RowKit
def isNilB : DV → Bool
  | .lit _ => true
  | _ => false
section
variable {P : Program} {n : Nat} {ops : Array Oper} {l : List Oper} {σ : List VObj} {kn : Kn} {dst : Option Tmp} {ty : TypeId} {pos : String} {af : Array Edge} {g : Option (Nat × Bool)}
theorem K.appE {t e : TypeId} {x y : Operand} {k : Nat} {sx : XV} {cells vs : List XV} {id : Nat}
    (hx : evK kn x = some sx) (hy : evK kn y = some (.osl id 0 1 k 1 true)) (hown : OwnK k σ sx cells) (hid : σ[id]? = some ⟨vs, 0⟩) (hvs : vs.length = k) (h1v : vs.all oneX = true) (hlen : cells.length < 1073741823)
    (ht : P.underlying t = some (.slice e)) (hs : sizeT P e = some k) (hb : bytesT P e ≤ 65536) (hz : (zeroT P e).map (·.cells.size) = some k) (hk : 0 < k) :
    ∃ σ' x', KEv P ⟨dst, .call ⟨.builtin .append, #[x, y], #[t, t]⟩, ty, pos, af, g⟩ σ kn x' σ' 2 ∧ OwnK k σ' x' (cells ++ vs) ∧ (∀ j, idX sx ≠ some j → j < σ.length → σ'[j]? = σ[j]?) ∧ ∃ j, idX x' = some j ∧ σ.length ≤ j := by
  have hsrc : srcCells σ k (.osl id 0 1 k 1 true) = some (vs, 1, 1) := by
    simp [srcCells, hid, hvs]
    rw [List.take_of_length_le (by omega)]
  cases hown with
  | nil =>
    refine ⟨σ ++ [⟨vs, 0⟩], .osl σ.length 0 1 k 1 false, ev_op fun env he => ?_, .sl (by simp) (by simp [hvs]), fun j _ hj => by rw [List.getElem?_append_left hj], _, rfl, Nat.le_refl _⟩
    have e1 := evK_evalX he hx
    have e2 := evK_evalX he hy
    unfold evalOp
    rw [litOp_none (x := y) (by simp [Op.operands, Call.operands]) (by rw [e2]; rfl)]
    simp [e1, e2, opAppend, ht, hs, hsrc, h1v, growTo, hb, hz]
  | @sl oid m cells ho hn =>
    have hm : m < 1073741823 := by
      have : m * 1 ≤ m * k := Nat.mul_le_mul_left _ hk
      omega
    refine ⟨(σ.set oid ⟨cells, 2⟩) ++ [⟨cells ++ vs, 0⟩], .osl σ.length 0 (m + 1) k (m + 1) false, ev_op fun env he => ?_,
      .sl (by rw [List.getElem?_append_right (by simp)]; simp) (by simp [hn, hvs, Nat.add_mul]), fun j hj hlt => by
        rw [List.getElem?_append_left (by simpa using hlt), List.getElem?_set]
        rw [if_neg (fun e => hj (by rw [e]; rfl))], _, rfl, Nat.le_refl _⟩
    have e1 := evK_evalX he hx
    have e2 := evK_evalX he hy
    unfold evalOp
    rw [litOp_none (x := x) (by simp [Op.operands, Call.operands]) (by rw [e1]; rfl)]
    have h3 : m + 1 ≤ 1073741824 := by omega
    have h4 : ¬ m + 1 ≤ m := by omega
    simp [e1, e2, opAppend, ht, hs, hsrc, h1v, ho, hb, hz, h3, h4, hn]
theorem K.lenOK {x : Operand} {t e : TypeId} {k m : Nat} {sx : XV} {cells : List XV} (hx : evK kn x = some sx) (h : OwnK k σ sx cells) (hm : cells.length = m * k) (hk : 0 < k) (ht : P.underlying t = some (.slice e)) :
    KEv P ⟨dst, .call ⟨.builtin .len, #[x], #[t]⟩, ty, pos, af, g⟩ σ kn (.d (DI (m : Nat))) σ 0 := by
  cases h with
  | nil =>
    have : m = 0 := by
      rcases Nat.mul_eq_zero.1 (show m * k = 0 from hm.symm) with h | h
      · exact h
      · omega
    subst this
    exact K.len (R := fun _ (_ : Nat) => True) (l := []) hx .nil ht
  | @sl id n cells h hn =>
    have : m = n := Nat.mul_right_cancel hk (hm.symm.trans hn)
    subst this
    exact K.lenO hx ht
theorem K.eqNilB {x : Operand} {t u e : TypeId} {d : DV} (hx : evK kn x = some (.d d)) (hd : SlD d) (ht : P.underlying t = some (.slice e)) :
    KEv P ⟨dst, .binOp .eql t x (.const (.slice none 0 0)) u, ty, pos, af, g⟩ σ kn (.d (DB (isNilB d))) σ 0 := by
  cases hd with
  | nil => exact K.eqNilNil hx ht
  | sl cs len cap => exact K.eqNil hx ht
theorem K.neqNilNilB {x : Operand} {t u e : TypeId} (hx : evK kn x = some (.d Dnil)) (ht : P.underlying t = some (.slice e)) :
    KEv P ⟨dst, .binOp .neq t x (.const (.slice none 0 0)) u, ty, pos, af, g⟩ σ kn (.d (DB false)) σ 0 :=
  K.bin hx rfl (by
    rw [pureRun_bind]
    show (some ()).bind _ = _
    simp only [Option.bind_some]
    show pureRun P (do pure (Value.bool (!(← Op.equal t (.slice none 0 0) (.slice none 0 0)))) : Sem Value) = _
    rw [pureRun_bind]
    have : pureRun P (Op.equal t (.slice none 0 0) (.slice none 0 0)) = some true := by
      show pureRun P (Op.equalIn (9999 + 1) t (.slice none 0 0) (.slice none 0 0)) = _
      unfold Op.equalIn
      rw [pureRun_bind, pureRun_underlying ht]; rfl
    rw [this]; rfl)
theorem K.neqNilB {x : Operand} {t u e : TypeId} {d : DV} (hx : evK kn x = some (.d d)) (hd : SlD d) (ht : P.underlying t = some (.slice e)) :
    KEv P ⟨dst, .binOp .neq t x (.const (.slice none 0 0)) u, ty, pos, af, g⟩ σ kn (.d (DB (!isNilB d))) σ 0 := by
  cases hd with
  | nil => exact K.neqNilNilB hx ht
  | sl cs len cap =>
    exact ev_op fun env he => by
      have e1 := evK_evalX he hx
      have e2 : evalX env (.const (.slice none 0 0)) = .d (.lit (.slice none 0 0)) := rfl
      unfold evalOp
      rw [litOp_none (x := x) (by simp [Op.operands]) (by rw [e1]; rfl)]
      simp [e1, e2, opEqNil, isSliceT, ht, isSl, isNilSl, isNilB]
/-- append in an open order: the slice that is appended to is what no other operation reads. -/
theorem KTZ.appK {Z : Nat → Prop} {R : List Nat → List Nat → List VObj → Kn → Prop} {t e : TypeId} {x y : Operand} {k : Nat} {sx : XV} {cells vs : List XV} {id : Nat} (hg : guardK ops kn ⟨dst, .call ⟨.builtin .append, #[x, y], #[t, t]⟩, ty, pos, af, g⟩ = some true) (hd : dstOk n dst = true)
    (hZ : ∀ j, idX sx = some j → Z j)
    (hx : evK kn x = some sx) (hy : evK kn y = some (.osl id 0 1 k 1 true)) (hown : OwnK k σ sx cells) (hid : σ[id]? = some ⟨vs, 0⟩) (hvs : vs.length = k) (h1v : vs.all oneX = true) (hlen : cells.length < 1073741823)
    (ht : P.underlying t = some (.slice e)) (hs : sizeT P e = some k) (hb : bytesT P e ≤ 65536) (hz : (zeroT P e).map (·.cells.size) = some k) (hk : 0 < k)
    (h : ∀ σ' x', OwnK k σ' x' (cells ++ vs) → (∀ j, idX sx ≠ some j → j < σ.length → σ'[j]? = σ[j]?) → (∃ j, idX x' = some j ∧ σ.length ≤ j) → KTZ P n ops Z l σ' (extK dst x' kn) (fun fls gs τ k => R (2 :: fls) (2 :: gs) τ k)) :
    KTZ P n ops Z (⟨dst, .call ⟨.builtin .append, #[x, y], #[t, t]⟩, ty, pos, af, g⟩ :: l) σ kn R := by
  obtain ⟨σ', x', h1, h2, h3, h4⟩ := K.appE (P := P) (dst := dst) (ty := ty) (pos := pos) (af := af) (g := g) hx hy hown hid hvs h1v hlen ht hs hb hz hk
  refine KTZ.write hg hd (fun i ob hi ho => ?_) h1 (h σ' x' h2 h3 h4)
  have hlt : i < σ.length := (List.getElem?_eq_some_iff.1 ho).1
  exact ⟨ob, (h3 i (fun e => hi (hZ i e)) hlt).trans ho, rfl, Iff.rfl⟩
end
/-- Own slices apart from one another. -/
structure Fam (lo : Nat) (σ : List VObj) (F : List (Nat × XV × List XV)) : Prop where
  own : ∀ p ∈ F, OwnK p.1 σ p.2.1 p.2.2 ∧ (p.2.2 = [] → p.2.1 = .d Dnil) ∧ ∀ j, idX p.2.1 = some j → lo ≤ j
  apart : ∀ (i j : Nat) (hi : i < F.length) (hj : j < F.length), i ≠ j → ∀ id, idX F[i].2.1 = some id → idX F[j].2.1 ≠ some id
theorem Fam.keep {lo : Nat} {σ σ' : List VObj} {F : List (Nat × XV × List XV)} (h : Fam lo σ F) (hk : ∀ j, lo ≤ j → j < σ.length → σ'[j]? = σ[j]?) : Fam lo σ' F :=
  ⟨fun p hp => ⟨(h.own p hp).1.keep fun j hj => hk j ((h.own p hp).2.2 j hj) ((h.own p hp).1.lt hj), (h.own p hp).2⟩, h.apart⟩
theorem Fam.put {lo : Nat} {σ σ' : List VObj} {F : List (Nat × XV × List XV)} (h : Fam lo σ F) {i : Nat} (hi : i < F.length) {x' : XV} {cells' : List XV} (hk : ∀ j, idX F[i].2.1 ≠ some j → j < σ.length → σ'[j]? = σ[j]?)
    (ho : OwnK F[i].1 σ' x' cells') (hne : cells' ≠ []) (hx : ∃ j, idX x' = some j ∧ σ.length ≤ j) (hlo : lo ≤ σ.length) : Fam lo σ' (F.set i (F[i].1, x', cells')) := by
  obtain ⟨j', hj', hl'⟩ := hx
  constructor
  · intro p hp
    obtain ⟨k, hk1, rfl⟩ := List.getElem_of_mem hp
    rw [List.length_set] at hk1
    rw [List.getElem_set]
    split
    · exact ⟨ho, fun e => absurd e hne, fun j hj => by rw [hj'] at hj; cases hj; omega⟩
    · rename_i hne2
      have hp := h.own F[k] (List.getElem_mem hk1)
      exact ⟨hp.1.keep fun j hj => hk j (h.apart k i hk1 hi (fun e => hne2 e.symm) j hj) (hp.1.lt hj), hp.2⟩
  · intro a b ha hb hab id hid
    rw [List.length_set] at ha hb
    rw [List.getElem_set] at hid ⊢
    split at hid
    · rename_i e1
      simp only at hid
      rw [hj'] at hid; cases hid
      rw [if_neg (fun e2 => hab (by omega))]
      intro e3
      have := (h.own F[b] (List.getElem_mem hb)).1.lt e3
      omega
    · split
      · simp only
        rw [hj']
        intro e; cases e
        have := (h.own F[a] (List.getElem_mem ha)).1.lt hid
        omega
      · exact h.apart a b ha hb hab id hid
theorem Fam.push {lo : Nat} {σ : List VObj} {F : List (Nat × XV × List XV)} (h : Fam lo σ F) (o : VObj) : Fam lo (σ ++ [o]) F := h.keep fun _ _ hj => List.getElem?_append_left hj
end Go.Vm
namespace Go.Ba
open Go.Vm Go.Ht
/-- The operations of one machine. -/
def rowI (ops : List (Int × Int)) (m : Int) : List Int := ((List.range ops.length).filter fun i => decide ((ops.getD i (0, 0)).1 = m)).map fun (i : Nat) => (i : Int)
def msO (M : Nat) (ops : List (Int × Int)) : List (List Int) := (List.range M).map fun (m : Nat) => rowI ops (m : Int)
theorem rowI_snoc (ops : List (Int × Int)) (o : Int × Int) (m : Int) : rowI (ops ++ [o]) m = if o.1 = m then rowI ops m ++ [(ops.length : Int)] else rowI ops m := by
  unfold rowI
  rw [List.length_append, List.length_singleton, List.range_succ, List.filter_append, List.map_append]
  have e1 : (List.range ops.length).filter (fun i => decide (((ops ++ [o]).getD i (0, 0)).1 = m)) = (List.range ops.length).filter fun i => decide ((ops.getD i (0, 0)).1 = m) := by
    apply List.filter_congr
    intro i hi
    have hi := List.mem_range.1 hi
    rw [List.getD_eq_getElem?_getD, List.getD_eq_getElem?_getD, List.getElem?_append_left hi]
  rw [e1]
  have e2 : (ops ++ [o]).getD ops.length (0, 0) = o := by simp
  by_cases h : o.1 = m
  · rw [if_pos h, List.filter_cons_of_pos (by rw [e2]; simpa using h)]; rfl
  · rw [if_neg h, List.filter_cons_of_neg (by rw [e2]; simpa using h)]; simp
/-- The arcs of a job after its first k operations. -/
def arcsK (off k : Nat) : List (Int × Int) := (List.range (k - 1)).map fun (t : Nat) => (((off + t : Nat) : Int), ((off + t + 1 : Nat) : Int))
theorem arcsK_succ (off k : Nat) (h : 0 < k) : arcsK off (k + 1) = arcsK off k ++ [(((off + k : Nat) : Int) - 1, ((off + k : Nat) : Int))] := by
  obtain ⟨k, rfl⟩ : ∃ j, k = j + 1 := ⟨k - 1, by omega⟩
  unfold arcsK
  rw [show k + 1 + 1 - 1 = k + 1 by omega, show k + 1 - 1 = k by omega, List.range_succ, List.map_append]
  simp
  constructor
  · omega
  · omega
def arcsO : Nat → List (List (Int × Int)) → List (Int × Int)
  | _, [] => []
  | off, j :: J => arcsK off j.length ++ arcsO (off + j.length) J
theorem arcsO_snoc : ∀ (off : Nat) (J : List (List (Int × Int))) (j : List (Int × Int)), arcsO off (J ++ [j]) = arcsO off J ++ arcsK (off + J.flatten.length) j.length
  | off, [], j => by simp [arcsO]
  | off, i :: J, j => by
    rw [List.cons_append, arcsO, arcsO_snoc (off + i.length) J j, arcsO, List.append_assoc]
    rw [List.flatten_cons, List.length_append, Nat.add_assoc]
theorem arcsO_take {J : List (List (Int × Int))} {i : Nat} (hi : i < J.length) : arcsO 0 (J.take (i + 1)) = arcsO 0 (J.take i) ++ arcsK (J.take i).flatten.length J[i].length := by
  rw [List.take_succ_eq_append_getElem hi, arcsO_snoc, Nat.zero_add]
theorem arcsK_len (off k : Nat) : (arcsK off k).length = k - 1 := by simp [arcsK]
theorem arcsO_len : ∀ (off : Nat) (J : List (List (Int × Int))), (arcsO off J).length ≤ J.flatten.length
  | _, [] => Nat.le_refl _
  | off, j :: J => by
    have := arcsO_len (off + j.length) J
    rw [arcsO, List.length_append, arcsK_len, List.flatten_cons, List.length_append]; omega
theorem arcsO_in : ∀ (off : Nat) (J : List (List (Int × Int))) (a : Int × Int), a ∈ arcsO off J → off ≤ a.1 ∧ a.1 < off + J.flatten.length ∧ off ≤ a.2 ∧ a.2 < off + J.flatten.length
  | _, [], a, h => by simp [arcsO] at h
  | off, j :: J, a, h => by
    rw [arcsO, List.mem_append] at h
    rw [List.flatten_cons, List.length_append]
    rcases h with h | h
    · simp only [arcsK, List.mem_map, List.mem_range] at h
      obtain ⟨t, ht, rfl⟩ := h
      simp only
      omega
    · have := arcsO_in (off + j.length) J a h
      omega
theorem arcs_in {J : List (List (Int × Int))} : ArcsIn J.flatten.length (arcsO 0 J) := fun a ha => by
  have := arcsO_in 0 J a ha
  omega
theorem times_ok {M : Int} {J : List (List (Int × Int))} (h : ShopOk M J) : Times J.flatten := fun o ho => by
  obtain ⟨j, hj, ho⟩ := List.mem_flatten.1 ho
  have := (h.jb j hj).2.2.1 o ho
  omega
/-- The graph of a shop. -/
def grV (M : Nat) (J : List (List (Int × Int))) : DV := .agg [flV c2 J.flatten, flV c2 (arcsO 0 J), .sl ((msO M J.flatten).map intsV) M (some M)]
theorem msO_snoc {M : Nat} {ops : List (Int × Int)} {o : Int × Int} {m : Nat} (_ : m < M) (e : o.1 = (m : Int)) : msO M (ops ++ [o]) = (msO M ops).set m (rowI ops m ++ [(ops.length : Int)]) := by
  apply List.ext_getElem
  · simp [msO]
  · intro i h1 h2
    have hi : i < M := by simpa [msO] using h1
    rw [List.getElem_set]
    simp only [msO, List.getElem_map, List.getElem_range]
    rw [rowI_snoc]
    by_cases h : m = i
    · subst h; rw [if_pos e, if_pos rfl]
    · rw [if_neg h, if_neg (by omega)]
/-- The own slices that make a graph. -/
def famF (xo xa : XV) (R : List XV) (ops arcs : List (Int × Int)) (rows : List (List Int)) : List (Nat × XV × List XV) :=
  (2, xo, (ops.flatMap c2).map .d) :: (2, xa, (arcs.flatMap c2).map .d) :: (R.zip rows).map fun p => (1, p.1, xs p.2)
theorem famF_row {xo xa : XV} {R : List XV} {ops arcs : List (Int × Int)} {rows : List (List Int)} {m : Nat} (h1 : m < R.length) (h2 : m < rows.length) : ∃ h : m + 2 < (famF xo xa R ops arcs rows).length, (famF xo xa R ops arcs rows)[m + 2] = (1, R[m], xs rows[m]) := by
  refine ⟨by simp [famF]; omega, ?_⟩
  simp [famF]
theorem famF_set {xo xa x' : XV} {R : List XV} {ops arcs : List (Int × Int)} {rows : List (List Int)} {r : List Int} {m : Nat} (_ : R.length = rows.length) : (famF xo xa R ops arcs rows).set (m + 2) (1, x', xs r) = famF xo xa (R.set m x') ops arcs (rows.set m r) := by
  unfold famF
  rw [List.set_cons_succ, List.set_cons_succ]
  congr 2
  apply List.ext_getElem
  · simp
  · intro i h1 h2
    simp only [List.getElem_set, List.getElem_map, List.getElem_zip]
    split <;> rfl
theorem flat_snoc (ops : List (Int × Int)) (o : Int × Int) : ((ops ++ [o]).flatMap c2).map XV.d = (ops.flatMap c2).map .d ++ (c2 o).map .d := by
  rw [List.flatMap_append, List.map_append]; simp
theorem cells_len (ops : List (Int × Int)) : ((ops.flatMap c2).map XV.d).length = ops.length * 2 := by rw [List.length_map, flat_len c2_len]
theorem deepen_rows {σ : List VObj} {k lo : Nat} {xo xa : XV} {ops arcs : List (Int × Int)} : ∀ (R : List XV) (rows : List (List Int)), R.length = rows.length → (∀ p ∈ (R.zip rows).map (fun p => ((1 : Nat), p.1, xs p.2)), OwnK p.1 σ p.2.1 p.2.2 ∧ (p.2.2 = [] → p.2.1 = .d Dnil) ∧ ∀ j, idX p.2.1 = some j → lo ≤ j) →
    R.mapM (deepen (freezeAll σ) (k + 2)) = some (rows.map intsV)
  | [], [], _, _ => rfl
  | x :: R, r :: rows, hl, h => by
    have h1 := h (1, x, xs r) (by simp)
    have h2 := deepen_rows (k := k) (lo := lo) (xo := xo) (xa := xa) (ops := ops) (arcs := arcs) R rows (by simpa using hl) (fun p hp => h p (by simp at hp ⊢; exact .inr hp))
    rw [List.mapM_cons, own_ints h1.1 (fun e => h1.2.1 (by rw [e]; rfl)), h2]; rfl
  | [], _ :: _, hl, _ => by simp at hl
  | _ :: _, [], hl, _ => by simp at hl
theorem deepen_graph {σ : List VObj} {k lo id M : Nat} {xo xa : XV} {R : List XV} {ops arcs : List (Int × Int)} {rows : List (List Int)} (h : Fam lo σ (famF xo xa R ops arcs rows)) (hR : σ[id]? = some ⟨R, 0⟩) (hl : R.length = M) (hr : rows.length = M) :
    deepen (freezeAll σ) (k + 4) (aggX [xo, xa, .osl id 0 M 1 M true]) = some (.agg [flV c2 ops, flV c2 arcs, .sl (rows.map intsV) M (some M)]) := by
  have g1 := h.own (2, xo, (ops.flatMap c2).map .d) (by simp [famF])
  have g2 := h.own (2, xa, (arcs.flatMap c2).map .d) (by simp [famF])
  have e1 : deepen (freezeAll σ) (k + 3) xo = some (flV c2 ops) := own_fl c2_len (by decide) g1.1 (fun e => g1.2.1 (by rw [e]; rfl))
  have e2 : deepen (freezeAll σ) (k + 3) xa = some (flV c2 arcs) := own_fl c2_len (by decide) g2.1 (fun e => g2.2.1 (by rw [e]; rfl))
  have f : (freezeAll σ)[id]? = some ⟨R, 1⟩ := by simp [freezeAll, hR]
  have e3 : deepen (freezeAll σ) (k + 3) (.osl id 0 M 1 M true) = some (.sl (rows.map intsV) M (some M)) := by
    rw [deepen_osl f rfl (by simp; omega), List.drop_zero, Nat.mul_one, List.take_of_length_le (by simp; omega)]
    rw [deepen_rows (k := k) (lo := lo) (xo := xo) (xa := xa) (ops := ops) (arcs := arcs) R rows (by omega) (fun p hp => h.own p (by unfold famF; exact List.mem_cons_of_mem _ (List.mem_cons_of_mem _ hp)))]
    rfl
  have ha : aggX [xo, xa, .osl id 0 M 1 M true] = .agg [xo, xa, .osl id 0 M 1 M true] := by
    have h0 : allD [xo, xa, .osl id 0 M 1 M true] = none := by cases xo <;> cases xa <;> rfl
    unfold aggX; rw [h0]
  rw [ha]
  show (([xo, xa, .osl id 0 M 1 M true] : List XV).mapM (deepen (freezeAll σ) (k + 3))).map DV.agg = _
  rw [List.mapM_cons, List.mapM_cons, List.mapM_cons, e1, e2, e3]; rfl
theorem cells_agg (xs : List XV) : cellsX (aggX xs) = xs := by
  unfold aggX
  cases h : allD xs with
  | none => rfl
  | some ds => exact (allD_eq h).symm
theorem rowI_len (ops : List (Int × Int)) (m : Int) : (rowI ops m).length ≤ ops.length := by
  unfold rowI; rw [List.length_map]
  exact Nat.le_trans (List.length_filter_le _ _) (by simp)
theorem fam_zero {lo M : Nat} {σ : List VObj} : Fam lo σ (famF (.d Dnil) (.d Dnil) (List.replicate M (.d Dnil)) [] [] (msO M [])) := by
  have h : ∀ p ∈ famF (.d Dnil) (.d Dnil) (List.replicate M (.d Dnil)) [] [] (msO M []), p.2.1 = .d Dnil ∧ p.2.2 = [] := by
    intro p hp
    simp only [famF, List.mem_cons, List.mem_map] at hp
    rcases hp with rfl | rfl | ⟨q, hq, rfl⟩
    · exact ⟨rfl, rfl⟩
    · exact ⟨rfl, rfl⟩
    · have h1 := (List.mem_replicate.1 (List.of_mem_zip hq).1).2
      have h2 := (List.of_mem_zip hq).2
      simp only [msO, List.mem_map] at h2
      obtain ⟨m, _, h2⟩ := h2
      exact ⟨h1, by simp only; rw [← h2]; rfl⟩
  constructor
  · intro p hp
    obtain ⟨h1, h2⟩ := h p hp
    rw [h1, h2]
    exact ⟨.nil, fun _ => rfl, fun j hj => by cases hj⟩
  · intro i j hi hj _ id hid
    rw [(h _ (List.getElem_mem hi)).1] at hid; cases hid
/-- The value of times, or of none. -/
def shV : Option (List Int) → DV
  | some zs => hdV zs
  | none => Dnil
theorem shV_sld (o : Option (List Int)) : SlD (shV o) := by cases o with | none => exact .nil | some zs => exact .sl _ _ _
theorem shV_nil (o : Option (List Int)) : isNilB (shV o) = o.isNone := by cases o <;> rfl
/-- The better one of two results: the second only if its greatest end is lower. -/
def pickO (os : List (Int × Int)) : Option (List Int) → Option (List Int) → Option (List Int)
  | none, y => y
  | some x, none => some x
  | some x, some y => if spanO os y < spanO os x then some y else some x
def shO (os : List (Int × Int)) : List (Int × Int) → List (Int × Int) → Option (List Int)
  | ar, [] => hds os ar
  | ar, p :: ps => match hds os ar with
    | none => none
    | some _ => pickO os (shO os (ar ++ [p]) ps) (shO os (ar ++ [(p.2, p.1)]) ps)
theorem pick_or {os : List (Int × Int)} {x y : Option (List Int)} {r : List Int} (h : pickO os x y = some r) : x = some r ∨ y = some r := by
  unfold pickO at h
  split at h
  · exact .inr h
  · exact .inl h
  · split at h
    · exact .inr h
    · exact .inl h
theorem arcs_snoc {n : Nat} {ar : List (Int × Int)} {p : Int × Int} (h : ArcsIn n ar) (hp : 0 ≤ p.1 ∧ p.1 < n ∧ 0 ≤ p.2 ∧ p.2 < n) : ArcsIn n (ar ++ [p]) := fun a ha => by
  rw [List.mem_append, List.mem_singleton] at ha
  rcases ha with ha | rfl
  · exact h a ha
  · exact hp
theorem hds_length {os ar : List (Int × Int)} {r : List Int} (h : hds os ar = some r) : r.length = os.length := (hds_len _ _ _ h).trans (by simp)
theorem shO_ok {os : List (Int × Int)} (hT : Times os) (h9 : os.length ≤ 9) : ∀ (ps ar : List (Int × Int)) (r : List Int), ar.length + ps.length ≤ 1000000 → ArcsIn os.length ar → ArcsIn os.length ps → shO os ar ps = some r → r.length = os.length ∧ Bd 200000000 r
  | [], ar, r, hA, h1, _, h => ⟨hds_length h, hds_bd hT h1 h h9 (by simp at hA; omega)⟩
  | p :: ps, ar, r, hA, h1, h2, h => by
    unfold shO at h
    split at h
    · cases h
    · have hp := h2 p (by simp)
      have hps : ArcsIn os.length ps := fun a ha => h2 a (by simp [ha])
      rcases pick_or h with h | h
      · exact shO_ok hT h9 ps _ r (by simp at hA ⊢; omega) (arcs_snoc h1 hp) hps h
      · exact shO_ok hT h9 ps _ r (by simp at hA ⊢; omega) (arcs_snoc h1 ⟨hp.2.2.1, hp.2.2.2, hp.1, hp.2.1⟩) hps h
theorem msO_len (M : Nat) (ops : List (Int × Int)) : (msO M ops).length = M := by simp [msO]
theorem ms_mat (M : Nat) (ops : List (Int × Int)) : Mat (.sl ((msO M ops).map intsV) M (some M)) (msO M ops) := by
  have h : Mat (.sl ((msO M ops).map intsV) (msO M ops).length (some M)) (msO M ops) := .sl (by simp) (fun i c y hc hy => by
    rw [List.getElem?_map, hy] at hc
    cases hc
    exact intsV_ok y)
  rwa [msO_len] at h
end Go.Ba

end
section
/-
  VALUES WITHOUT ADDRESSES, 33: a loop over a function: its record as an object, one round, the statement; lists of operations whose calls are known by a relation.
-/
namespace Go.Vm
open Go.RowKit

/-- The record of a loop. -/
def recL (fn : FuncId) (ps : Array Tmp) (assign body : Code) : Loop := { state := .ready, pending := none, fn, tmps := #[], params := ps, assign, body, defers := 0 }

def dead : VObj := ⟨[], 2⟩

section
variable {P : Program} {M : Nat → Prop} {W0 w : World} {ι : List Nat} {σ : List VObj}

theorem Mem.loopAt (hm : Mem M W0 ι σ w) {id l : Nat} {L : Loop} {env : List XV} (ho : σ[id]? = some ⟨.lp L :: env, 6⟩) (hb : ι[id]? = some l) :
    ∃ r : Loop, w.heap[l]? = some (Obj.loop r) ∧ L = r.bare ∧ r.tmps.size = env.length ∧ ∀ (i : Nat) (v : Value) (x : XV), r.tmps[i]? = some v → env[i]? = some x → XRep w ι (Forb M ι σ) v x := by
  rcases hm.spec id _ l ho hb (by simp) with ⟨h, _⟩ | ⟨h, _⟩ | ⟨_, r, L', env', h1, h2, h3, h4, h5⟩
  · simp at h
  · simp at h
  · simp only [List.cons.injEq, XV.lp.injEq] at h2
    obtain ⟨rfl, rfl⟩ := h2
    exact ⟨r, h1, h3, h4, h5⟩

/-- The state of a loop's record turns. -/
theorem Mem.loopSet (hm : Mem M W0 ι σ w) {id l : Nat} {L : Loop} {env : List XV} (ho : σ[id]? = some ⟨.lp L :: env, 6⟩) (hb : ι[id]? = some l) {r : Loop} (hr : w.heap[l]? = some (Obj.loop r)) (st : LoopState) (pd : Option Code) :
    Mem M W0 ι (σ.set id ⟨.lp { L with state := st, pending := pd } :: env, 6⟩) (w.putObj l (.loop { r with state := st, pending := pd })) ∧
      Ext M ι σ w ι (σ.set id ⟨.lp { L with state := st, pending := pd } :: env, 6⟩) (w.putObj l (.loop { r with state := st, pending := pd })) := by
  obtain ⟨r', k1, k2, k3, k4⟩ := hm.loopAt ho hb
  rw [hr] at k1; cases k1
  exact hm.writeG ho hb (.inr (.inr rfl)) (.loop { r with state := st, pending := pd }) (fun _ _ _ h => by cases h) (.lp { L with state := st, pending := pd } :: env) (fun _ _ => ⟨_, rfl⟩)
    (fun w' σ' he hw => .inr (.inr ⟨rfl, _, _, env, hw, rfl, by rw [k2]; rfl, k3, fun i v x hv hx => (k4 i v x hv hx).ext he⟩))

/-- An object that nobody looks at any more. -/
theorem Mem.kill (hm : Mem M W0 ι σ w) (id : Nat) : Mem M W0 ι (σ.set id dead) w ∧ Ext M ι σ w ι (σ.set id dead) w := by
  have hmt : ∀ c, Mut ι (σ.set id dead) c → Mut ι σ c := by
    rintro c ⟨i, p, h1, h2, h3⟩
    rcases set_get _ _ _ _ _ h1 with ⟨rfl, rfl, _⟩ | ⟨_, h1'⟩
    · simp [Wr, dead] at h3
    · exact ⟨i, p, h1', h2, h3⟩
  have hext : Ext M ι σ w ι (σ.set id dead) w := ⟨fun _ _ h => h, fun _ _ _ => rfl, Nat.le_refl _, fun c _ h => hmt c h, fun _ _ h => h, fun _ r h => ⟨r, h⟩⟩
  refine ⟨⟨by simp [hm.len], fun i p c h1 h2 h3 => ?_, fun i p c h1 h2 h3 => ?_, hm.fresh, fun i j oi oj bi bj hij h1 h2 h3 h4 h5 h6 => ?_, hm.below, hm.outer⟩, hext⟩
  · rcases set_get _ _ _ _ _ h1 with ⟨rfl, rfl, _⟩ | ⟨_, h1'⟩
    · simp [dead] at h3
    · obtain ⟨cu, t, q1, q2, q3⟩ := hm.objs i p c h1' h2 h3
      refine ⟨cu, t, q1, q2, fun j x hj => ?_⟩
      obtain ⟨v, kv, kx⟩ := q3 j x hj
      exact ⟨v, kv, kx.ext hext⟩
  · rcases set_get _ _ _ _ _ h1 with ⟨rfl, rfl, _⟩ | ⟨_, h1'⟩
    · simp [dead] at h3
    · exact (hm.spec i p c h1' h2 h3).ext hext rfl
  · rcases set_get _ _ _ _ _ h1 with ⟨rfl, rfl, _⟩ | ⟨_, h1'⟩
    · simp [Wr, dead] at h5
    rcases set_get _ _ _ _ _ h2 with ⟨rfl, rfl, _⟩ | ⟨_, h2'⟩
    · simp [dead] at h6
    exact hm.apart i j oi oj bi bj hij h1' h2' h3 h4 h5 h6

/-- Yield's arguments in the temporaries of a round. -/
def putsX : List XV → List (Tmp × XV) → List XV
  | env, [] => env
  | env, (t, x) :: l => putsX (env.set t x) l

theorem length_putsX : ∀ (env : List XV) (l : List (Tmp × XV)), (putsX env l).length = env.length
  | _, [] => rfl
  | env, (t, x) :: l => by rw [putsX, length_putsX]; simp

theorem puts_rep {F : Nat → Prop} : ∀ (ps : List Tmp) (vs : List Value) (xs : List XV) (tmps : Array Value) (env : List XV), vs.length = xs.length → tmps.size = env.length →
    (∀ (i : Nat) (v : Value) (x : XV), tmps[i]? = some v → env[i]? = some x → XRep w ι F v x) → (∀ (i : Nat) (v : Value) (x : XV), vs[i]? = some v → xs[i]? = some x → XRep w ι F v x) →
    (((ps.zip vs).foldl (fun t (p : Tmp × Value) => t.setIfInBounds p.1 p.2) tmps).size = env.length) ∧
    ∀ (i : Nat) (v : Value) (x : XV), ((ps.zip vs).foldl (fun t (p : Tmp × Value) => t.setIfInBounds p.1 p.2) tmps)[i]? = some v → (putsX env (ps.zip xs))[i]? = some x → XRep w ι F v x
  | [], vs, xs, tmps, env, h1, h2, h3, h4 => by simpa [putsX] using ⟨h2, h3⟩
  | p :: ps, [], [], tmps, env, h1, h2, h3, h4 => by simpa [putsX] using ⟨h2, h3⟩
  | p :: ps, v :: vs, x :: xs, tmps, env, h1, h2, h3, h4 => by
    simp only [List.zip_cons_cons, List.foldl_cons, putsX]
    have hs : (tmps.setIfInBounds p v).size = (env.set p x).length := by simp [h2]
    have := puts_rep ps vs xs (tmps.setIfInBounds p v) (env.set p x) (by simpa using h1) hs (fun i u y hu hy => by
      rcases set_get _ _ _ _ _ hy with ⟨rfl, rfl, hlt⟩ | ⟨hne, hy'⟩
      · rw [Array.getElem?_setIfInBounds_self, if_pos (by omega)] at hu
        cases hu
        exact h4 0 _ _ rfl rfl
      · rw [Array.getElem?_setIfInBounds_ne hne] at hu
        exact h3 i u y hu hy') (fun i u y hu hy => h4 (i + 1) u y (by simpa using hu) (by simpa using hy))
    rw [List.length_set] at this
    exact this

def envF (env : List XV) : Nat → XV := fun t => (env[t]?).getD undefX

theorem envF_rep {F : Nat → Prop} {tmps : Array Value} {env : List XV} (hs : tmps.size = env.length) (h : ∀ (i : Nat) (v : Value) (x : XV), tmps[i]? = some v → env[i]? = some x → XRep w ι F v x) : ∀ t, XRep w ι F (tmps.getD t undef) (envF env t) := by
  intro t
  unfold envF
  by_cases ht : t < env.length
  · rw [List.getElem?_eq_getElem ht, Option.getD_some]
    have ht' : t < tmps.size := by omega
    have e : tmps.getD t undef = tmps[t] := by simp [ht']
    rw [e]
    exact h t _ _ (Array.getElem?_eq_getElem ht') (List.getElem?_eq_getElem ht)
  · rw [List.getElem?_eq_none (by omega)]
    have e : tmps.getD t undef = undef := by
      simp only [Array.getD_eq_getD_getElem?]
      rw [Array.getElem?_eq_none (by omega)]; rfl
    rw [e]; exact .d (.lit _)

/-- How a round ends. -/
def endT (id : Nat) (L : Loop) (env : List XV) (Q : List VObj → Bool → Prop) : Exit → St → Prop
  | .normal, s => s.σ[id]? = some ⟨.lp { L with state := .busy } :: env, 6⟩ ∧ Q (s.σ.set id ⟨.lp { L with state := .ready, pending := none } :: env, 6⟩) true
  | .ret, s => s.σ[id]? = some ⟨.lp { L with state := .busy } :: env, 6⟩ ∧ Q (s.σ.set id ⟨.lp { L with state := .done, pending := some .ret } :: env, 6⟩) false
  | .exit k, s => s.σ[id]? = some ⟨.lp { L with state := .busy } :: env, 6⟩ ∧ Q (s.σ.set id ⟨.lp { L with state := .done, pending := some (.exit k) } :: env, 6⟩) false
  | _, _ => False

/-- ONE ROUND. -/
theorem inRound_of {id : Nat} {σ : List VObj} {L : Loop} {env args : List XV} {Q : List VObj → Bool → Prop} (hσ : σ[id]? = some ⟨.lp L :: env, 6⟩) (hst : L.state = .ready) (_ : L.pending = none) (hn : args.length = L.params.size)
    (h : Wp P M W0 env.length L.assign ⟨σ, envF (putsX env (L.params.toList.zip args))⟩ (fun e s1 => e = .normal ∧ s1.σ[id]? = some ⟨.lp L :: env, 6⟩ ∧
      Wp P M W0 env.length L.body ⟨s1.σ.set id ⟨.lp { L with state := .busy } :: env, 6⟩, s1.env⟩ (endT id L env Q))) : InRound P M W0 id σ args Q := by
  intro ι w l vs hm hb hl hx
  obtain ⟨r, k1, k2, k3, k4⟩ := hm.loopAt hσ hb
  have hp : L.params = r.params := by rw [k2]; rfl
  have ha : L.assign = r.assign := by rw [k2]; rfl
  have hbo : L.body = r.body := by rw [k2]; rfl
  refine ⟨_, _, _, _, run_yield k1 (by rw [List.size_toArray, hl, hn, hp]), ?_⟩
  obtain ⟨p1, p2⟩ := puts_rep (w := w) (ι := ι) r.params.toList vs args r.tmps env hl k3 k4 hx
  have hfold : (r.params.zip vs.toArray).foldl (fun tmps (x : Tmp × Value) => tmps.setIfInBounds x.1 x.2) r.tmps = (r.params.toList.zip vs).foldl (fun t (p : Tmp × Value) => t.setIfInBounds p.1 p.2) r.tmps := by
    rw [← Array.foldl_toList, Array.toList_zip]
  have hfr : Fr M W0 ⟨w.heap.size, some l⟩ env.length ι ⟨σ, envF (putsX env (L.params.toList.zip args))⟩ { tmps := (r.params.zip vs.toArray).foldl (fun tmps (x : Tmp × Value) => tmps.setIfInBounds x.1 x.2) r.tmps, defers := [] } w := by
    refine ⟨hm, ?_, by rw [hfold]; exact p1, ⟨Nat.le_refl _, [], rfl, List.nodup_nil, fun D h => by simp at h⟩, fun l' hl' => by cases hl'; exact ⟨r, k1⟩⟩
    simp only [hfold]
    refine envF_rep (by rw [p1, length_putsX]) fun i v x hv hx => ?_
    rw [hp] at hx
    exact p2 i v x hv hx
  refine roundIn_of_wpIn trivial ?_
  rw [← ha, ← hbo]
  show L.assign.wpIn (FR (some l)) 0 P _ _ w
  refine h ⟨w.heap.size, some l⟩ ι _ w hfr _ fun e ι1 s1 a1 w1 hT f1 e1 => ?_
  obtain ⟨rfl, hs1, hB⟩ := hT
  have hb1 := e1.pre _ _ hb
  obtain ⟨r1, q1, q2, q3, q4⟩ := f1.mem.loopAt hs1 hb1
  obtain ⟨m1, m2⟩ := f1.mem.loopSet hs1 hb1 q1 .busy r1.pending
  have hpend : r1.pending = L.pending := by rw [q2]; rfl
  have hLb : ({ L with state := .busy, pending := r1.pending } : Loop) = { L with state := .busy } := by rw [hpend]
  rw [hLb] at m1 m2
  have hrb : ({ r1 with state := .busy, pending := r1.pending } : Loop) = { r1 with state := .busy } := rfl
  rw [hrb] at m1 m2
  refine ⟨_, run_beginRound q1 (by rw [show r1.state = L.state by rw [q2]; rfl]; exact hst), ?_⟩
  have f2 : Fr M W0 ⟨w.heap.size, some l⟩ env.length ι1 ⟨s1.σ.set id ⟨.lp { L with state := .busy } :: env, 6⟩, s1.env⟩ a1 (w1.putObj l (.loop { r1 with state := .busy })) :=
    ⟨m1, fun t => (f1.env t).ext m2, f1.size, f1.defers.ext m2, fun l' hl' => let ⟨r, hr⟩ := f1.round l' hl'; m2.loops l' r hr⟩
  show L.body.wpIn (FR (some l)) 0 P _ _ _
  refine hB ⟨w.heap.size, some l⟩ ι1 a1 _ f2 _ fun e ι2 s2 a2 w2 hT2 f3 e3 => ?_
  have hb2 := e3.pre _ _ hb1
  have fin : ∀ (st : LoopState) (pd : Option Code) (b : Bool), s2.σ[id]? = some ⟨.lp { L with state := .busy } :: env, 6⟩ → Q (s2.σ.set id ⟨.lp { L with state := st, pending := pd } :: env, 6⟩) b → ∀ r2 : Loop, w2.heap[l]? = some (Obj.loop r2) →
      ∃ (ι' : List Nat) (σ' : List VObj) (b' : Bool), Ending.returned (.bool b) = .returned (.bool b') ∧ Mem M W0 ι' σ' (w2.putObj l (.loop { r2 with state := st, pending := pd })) ∧ Ext M ι σ w ι' σ' (w2.putObj l (.loop { r2 with state := st, pending := pd })) ∧ Q σ' b' := by
    intro st pd b hs hq r2 hr2
    obtain ⟨n1, n2⟩ := f3.mem.loopSet hs hb2 hr2 st pd
    exact ⟨ι2, _, b, rfl, n1, e1.trans (m2.trans (e3.trans n2)), hq⟩
  have hl2 : s2.σ[id]? = some ⟨.lp { L with state := .busy } :: env, 6⟩ → ∃ r2 : Loop, w2.heap[l]? = some (Obj.loop r2) := fun hs => by
    obtain ⟨r2, h, _⟩ := f3.mem.loopAt hs hb2
    exact ⟨r2, h⟩
  cases e with
  | normal =>
    obtain ⟨hs, hq⟩ := hT2
    obtain ⟨r2, hr2⟩ := hl2 hs
    exact ⟨_, _, run_endRound none hr2, fin .ready none true hs hq r2 hr2⟩
  | ret =>
    obtain ⟨hs, hq⟩ := hT2
    obtain ⟨r2, hr2⟩ := hl2 hs
    exact ⟨_, _, run_endRound (some .ret) hr2, fin .done (some .ret) false hs hq r2 hr2⟩
  | exit k =>
    obtain ⟨hs, hq⟩ := hT2
    obtain ⟨r2, hr2⟩ := hl2 hs
    exact ⟨_, _, run_endRound (some (.exit k)) hr2, fin .done (some (.exit k)) false hs hq r2 hr2⟩
  | goto k => exact hT2.elim
  | panic c => exact hT2.elim
  | outgrown => exact hT2.elim

/-- What follows a loop over a function: the jump that a round has left, if any. -/
def jumpT (P : Program) (M : Nat → Prop) (W0 : World) (n : Nat) (T : Exit → St → Prop) (s : St) : Option Code → Prop
  | none => T .normal s
  | some c => Wp P M W0 n c s T

theorem run_enterLoop_in {l0 : Nat} {r0 : Loop} (h0 : w.heap[l0]? = some (Obj.loop r0)) (fn : FuncId) (tmps : Array Value) (ps : Array Tmp) (assign body : Code) :
    (Instr.enterLoop fn tmps ps assign body (some l0)).run P w =
      .ok (w.heap.size, []) (w.alloc (.loop { state := .ready, pending := none, fn, tmps, params := ps, assign, body, defers := r0.defers })) := by
  unfold Instr.enterLoop
  simp only [Sem.run_bind, run_getLoop h0, run_newObj_alloc, Result.andThen, Sem.run_pure]

/-- THE STATEMENT. -/
theorem Wp.rangeFunc {n : Nat} {g : Operand} {ps : Array Tmp} {assign body : Code} {s : St} {T : Exit → St → Prop} {f : FuncId} {first caps : List XV} (hg : asFn (evalX s.env g) = some (f, first, caps)) (hp : plainFn P f = true)
    (hcall : ∀ fn, InCall P M W0 f (s.σ ++ [⟨.lp (recL fn ps assign body) :: (List.range n).map s.env, 6⟩]) (first ++ [.yl s.σ.length] ++ caps) (fun σ' _ => ∃ (L : Loop) (env : List XV), σ'[s.σ.length]? = some ⟨.lp L :: env, 6⟩ ∧ L.state ≠ .busy ∧
      jumpT P M W0 n T ⟨σ'.set s.σ.length dead, s.env⟩ L.pending)) : Wp P M W0 n (.rangeFunc g ps assign body) s T := by
  intro C ι a w hf Q hq
  obtain ⟨vs, us, e1, e2, e3, e4, e5⟩ := asFn_rep (evalX_rep hf.env g) hg
  refine wpIn_rangeFunc fun fn _ => ?_
  -- the record is laid
  obtain ⟨w', mark, D, hrun, hb', hmk⟩ : ∃ (w' : World) (mark : List Deferred) (D : Nat), (Instr.enterLoop fn a.tmps ps assign body C.ro).run P w = .ok (w'.heap.size, mark) (w'.alloc (.loop { state := .ready, pending := none, fn, tmps := a.tmps, params := ps, assign, body, defers := D })) ∧
      Below w.heap.size w w' ∧ Marks M C.B ι s.σ w' (mark ++ a.defers) := by
    cases hro : C.ro with
    | none =>
      refine ⟨w.alloc (.deferred (some [])), [{ target := .collected w.heap.size, args := #[] }], w.heap.size, ?_, (Below.refl _ w).alloc (Nat.le_refl _) _, ?_⟩
      · rw [run_enterLoop_outer]; simp [World.size_alloc]
      · have hbl : Below w.heap.size w (w.alloc (.deferred (some []))) := (Below.refl _ w).alloc (Nat.le_refl _) _
        obtain ⟨h0, Ds, d1, d2, d3⟩ := hf.defers.ext (hf.mem.grown hbl).2
        have hB := hf.defers.1
        refine ⟨h0, w.heap.size :: Ds, by rw [d1]; rfl, List.nodup_cons.2 ⟨fun hD => ?_, d2⟩, fun E hE => ?_⟩
        · obtain ⟨_, Ds', x1, x2, x3⟩ := hf.defers
          have : Ds = Ds' := by
            rw [d1] at x1
            have := congrArg (List.map fun (d : Deferred) => match d.target with | .collected r => r | _ => 0) x1
            simpa [Function.comp_def] using this
          subst this
          have := (Array.getElem?_eq_some_iff.1 (x3 _ hD).2.2).1
          omega
        · rcases List.mem_cons.1 hE with rfl | hE
          · refine ⟨hB, ?_, Go.heap_alloc_new w _⟩
            rintro (h | ⟨id, o, h1, h2, h3⟩)
            · have := hf.mem.outer _ h; have := hf.mem.below.size; omega
            · have := (hf.mem.fresh _ _ h2).2; omega
          · exact d3 E hE
    | some l0 =>
      obtain ⟨r0, hr0⟩ := hf.round l0 hro
      exact ⟨w, [], r0.defers, run_enterLoop_in hr0 .., Below.refl _ _, by simpa using hf.defers⟩
  obtain ⟨g1, g2⟩ := hf.mem.grown hb'
  let r : Loop := { state := .ready, pending := none, fn, tmps := a.tmps, params := ps, assign, body, defers := D }
  have hsz : a.tmps.size = ((List.range n).map s.env).length := by simp [hf.size]
  have hev : ∀ (w2 : World) (F : Nat → Prop) (ι2 : List Nat), (∀ t, XRep w2 ι2 F (a.tmps.getD t undef) (s.env t)) → ∀ (i : Nat) (v : Value) (x : XV), a.tmps[i]? = some v → ((List.range n).map s.env)[i]? = some x → XRep w2 ι2 F v x := by
    intro w2 F ι2 h i v x hv hx
    simp only [List.getElem?_map, Option.map_eq_some_iff] at hx
    obtain ⟨j, hj, rfl⟩ := hx
    have : j = i := by
      rw [List.getElem?_eq_some_iff] at hj
      obtain ⟨h1, h2⟩ := hj
      simpa using h2.symm
    subst this
    have := h j
    rwa [show a.tmps.getD j undef = v by simp [Array.getD_eq_getD_getElem?, hv]] at this
  obtain ⟨m1, m2⟩ : Mem M W0 (ι ++ [w'.heap.size]) (s.σ ++ [⟨.lp (recL fn ps assign body) :: (List.range n).map s.env, 6⟩]) (w'.alloc (.loop r)) ∧
      Ext M ι s.σ w' (ι ++ [w'.heap.size]) (s.σ ++ [⟨.lp (recL fn ps assign body) :: (List.range n).map s.env, 6⟩]) (w'.alloc (.loop r)) :=
    g1.pushG (.loop r) 6 _ (by omega) fun w2 he hw2 => .inr (.inr ⟨rfl, r, recL fn ps assign body, (List.range n).map s.env, hw2, rfl, rfl, hsz, hev w2 _ _ fun t => ((hf.env t).ext g2).ext he⟩)
  have hx1 := g2.trans m2
  -- the one call
  obtain ⟨d, hres, hinv⟩ : ∃ d : Deferred, (resolve a.eval (rangeCall g w'.heap.size) 0).run P (w'.alloc (.loop r)) = .ok d (w'.alloc (.loop r)) ∧
      (invoke d.target d.args).run P (w'.alloc (.loop r)) = .ok (.enter f (vs ++ #[Value.func (.yield w'.heap.size) #[] #[]] ++ us)) (w'.alloc (.loop r)) := by
    unfold plainFn at hp
    split at hp
    · rename_i fn' hfn
      simp only [Bool.and_eq_true, Bool.not_eq_true'] at hp
      obtain ⟨h1, h2⟩ := hp
      have h3 : ¬ fn'.body = none := by intro e; rw [e] at h2; simp at h2
      have h4 : ¬ fn'.name = "runtime.NumGoroutine" := by simpa using h1
      refine ⟨{ target := .fn (.func f) us, args := vs ++ #[Value.func (.yield w'.heap.size) #[] #[]] }, by simp [resolve, e1, Deferred.ofValue, show ∀ v, a.eval (.const v) = v from fun _ => rfl], ?_⟩
      simp [invoke, callFunc, hfn, h4, h3]
    · cases hp
  refine ⟨w'.heap.size, mark, w'.alloc (.loop r), d, w'.alloc (.loop r), f, _, w'.alloc (.loop r), hrun, hres, fun _ _ => trivial, hinv, fun h => Bool.noConfusion (show false = true from h), callsIn_FR ?_⟩
  have hargs : ∀ (i : Nat) (v : Value) (x : XV), (vs ++ #[Value.func (.yield w'.heap.size) #[] #[]] ++ us).toList[i]? = some v → (first ++ [.yl s.σ.length] ++ caps)[i]? = some x →
      XRep (w'.alloc (.loop r)) (ι ++ [w'.heap.size]) (Forb M (ι ++ [w'.heap.size]) (s.σ ++ [⟨.lp (recL fn ps assign body) :: (List.range n).map s.env, 6⟩])) v x := by
    intro i v x hv hx
    simp only [Array.toList_append] at hv
    have l1 : vs.toList.length = first.length := by simpa using e2
    by_cases hi : i < first.length + 1
    · rw [List.getElem?_append_left (by simp; omega)] at hv
      rw [List.getElem?_append_left (by simp; omega)] at hx
      by_cases hj : i < first.length
      · rw [List.getElem?_append_left (by omega)] at hv
        rw [List.getElem?_append_left hj] at hx
        exact (e4 i v x (by simpa using hv) hx).ext hx1
      · have : i = first.length := by omega
        subst this
        rw [List.getElem?_append_right (by omega)] at hv
        rw [List.getElem?_append_right (by omega)] at hx
        simp [l1] at hv hx
        subst hv hx
        exact .yl (by rw [List.getElem?_append_right (by rw [hf.mem.len]; omega), hf.mem.len]; simp)
    · rw [List.getElem?_append_right (by simp; omega)] at hv
      rw [List.getElem?_append_right (by simp; omega)] at hx
      simp only [List.length_append, List.length_cons, List.length_nil, Array.length_toList, e2] at hv hx
      exact (e5 _ v x (by simpa using hv) hx).ext hx1
  have hC := hcall fn (ι ++ [w'.heap.size]) (w'.alloc (.loop r)) (vs ++ #[Value.func (.yield w'.heap.size) #[] #[]] ++ us).toList m1 (by simp [e2, e3]) hargs
  rw [Array.toArray_toList] at hC
  refine hC.mono fun e w3 => ?_
  rintro ⟨ι', σ', x, v, rfl, h1, h2, _, L, env, hL, hst, hj⟩
  have hl : ι'[s.σ.length]? = some w'.heap.size := h2.pre _ _ (by rw [List.getElem?_append_right (by rw [hf.mem.len]; omega), hf.mem.len]; simp)
  obtain ⟨r3, k1, k2, k3, k4⟩ := h1.loopAt hL hl
  have hst3 : r3.state ≠ .busy := by rw [show r3.state = L.state by rw [k2]; rfl]; exact hst
  obtain ⟨n1, n2⟩ := h1.loopSet hL hl k1 .exhausted r3.pending
  obtain ⟨q1, q2⟩ := n1.kill s.σ.length
  rw [List.set_set] at q1 q2
  have hE := hx1.trans (h2.trans (n2.trans q2))
  have hfin : Fr M W0 C n ι' ⟨σ'.set s.σ.length dead, s.env⟩ { a with defers := mark ++ a.defers } (w3.putObj w'.heap.size (.loop { r3 with state := .exhausted })) :=
    ⟨q1, fun t => (hf.env t).ext hE, hf.size, hmk.ext (m2.trans (h2.trans (n2.trans q2))), fun l hl => let ⟨r, hr⟩ := hf.round l hl; hE.loops l r hr⟩
  refine ⟨r3.pending, _, run_endLoop k1 hst3, ?_⟩
  have hpe : r3.pending = L.pending := by rw [k2]; rfl
  clear n1 n2 q1 q2
  revert hfin hE
  have hw4 : ({ r3 with state := .exhausted } : Loop) = { r3 with state := .exhausted, pending := r3.pending } := rfl
  generalize w3.putObj w'.heap.size (.loop { r3 with state := .exhausted, pending := r3.pending }) = w4
  intro hE hfin
  rw [hpe]
  cases hp' : L.pending with
  | none =>
    rw [hp'] at hj
    exact hq .normal ι' _ _ _ hj hfin hE
  | some c =>
    rw [hp'] at hj
    exact hj C ι' _ _ hfin Q fun e ι'' s'' a'' w'' t1 t2 t3 => hq e ι'' s'' a'' w'' t1 t2 (hE.trans t3)
end
end Go.Vm

end
section
/-
  VALUES WITHOUT ADDRESSES, 34: operations whose result is known by a relation; iterators; a walk through a loop over a function.
-/
namespace Go.Vm
open Go.RowKit

section
variable {P : Program} {M : Nat → Prop} {W0 : World} {n : Nat} {ops : Array Oper} {l : List Oper} {o : Oper} {σ σ' : List VObj} {kn : Kn}

/-- A call of yield whose result is known by a relation. -/
theorem WpL.yld {s : St} {T : St → Prop} {callee : Operand} {args : Array Operand} {ts : Array TypeId} {id : Nat} {Q : List VObj → Bool → Prop} (hg : guardX ops s.env o = some true)
    (ho : o.op = .call ⟨.value callee, args, ts⟩) (hv : evalX s.env callee = .yl id) (_ : id < s.σ.length) (hc : InRound P M W0 id s.σ (args.toList.map (evalX s.env)) Q)
    (hd : dstOk n o.dst = true) (h : ∀ σ' b, Q σ' b → WpL P M W0 n ops l ⟨σ', putE s.env o.dst (.d (.lit (.bool b)))⟩ T) : WpL P M W0 n ops (o :: l) s T := by
  intro C ι a w hfr R hq
  unfold wpListIn
  rw [if_pos (by rw [guardX_sound hfr.env hg])]
  have e1 := evalX_rep hfr.env callee
  rw [hv] at e1
  generalize hcv : a.eval callee = cv at e1
  cases e1 with
  | yl hb =>
    rename_i lb
    obtain ⟨a1, a2⟩ := args_rep (args := args) (vs := #[]) (us := #[]) (first := []) (caps := []) hfr.env rfl rfl (by simp) (by simp)
    obtain ⟨fn, tmps, assign, body, k1, k2⟩ := hc ι w lb (args.map a.eval).toList hfr.mem hb (by simp) (fun i v x h1 h2 => a2 i v x (by simpa using h1) (by simpa using h2))
    rw [Array.toArray_toList] at k1
    have hrun : (execOp a.eval o).run P w = .ok (.round lb fn tmps assign body) w := by
      simp [execOp, ho, resolve, hcv, Deferred.ofValue, invoke, k1]
    refine ⟨fun _ _ => trivial, ?_⟩
    rw [semAt_of hrun (by simp)]
    refine ⟨fun h => Bool.noConfusion (show false = true from h), ?_⟩
    refine RoundIn.mono (show RoundIn (FR C.ro) 0 P lb fn tmps assign body w _ from k2) fun e w' => ?_
    rintro ⟨ι', σ', b, rfl, h1, h2, h3⟩
    exact h σ' b h3 C ι' _ w' (hfr.put hd h1 h2 (.d (.lit _))) R fun ι'' s' a' w'' q1 q2 q3 => hq ι'' s' a' w'' q1 q2 (h2.trans q3)

/-- A list of operations, the results known by relations. -/
def KL (P : Program) (M : Nat → Prop) (W0 : World) (n : Nat) (ops : Array Oper) (l : List Oper) (σ : List VObj) (kn : Kn) (T : List VObj → Kn → Prop) : Prop :=
  ∀ env, Agree kn env → WpL P M W0 n ops l ⟨σ, env⟩ (fun s => ∃ kn', Agree kn' s.env ∧ T s.σ kn')

theorem KL.nil {T : List VObj → Kn → Prop} (h : T σ kn) : KL P M W0 n ops [] σ kn T := fun _ he => .nil ⟨kn, he, h⟩

theorem KL.step {T : List VObj → Kn → Prop} {x : XV} {fl : Nat} (hg : guardK ops kn o = some true) (hd : dstOk n o.dst = true) (he : KEv P o σ kn x σ' fl)
    (h : KL P M W0 n ops l σ' (extK o.dst x kn) T) : KL P M W0 n ops (o :: l) σ kn T :=
  fun env ha => .step (s := ⟨σ, env⟩) (guardK_X ha hg) (he env ha) hd (h _ (ha.ext o.dst x))

theorem KL.skip {T : List VObj → Kn → Prop} (hg : guardK ops kn o = some false) (hd : dstOk n o.dst = true) (h : KL P M W0 n ops l σ (extK o.dst undefX kn) T) : KL P M W0 n ops (o :: l) σ kn T :=
  fun env ha => .skip (s := ⟨σ, env⟩) (guardK_X ha hg) hd (h _ (ha.ext o.dst undefX))

/-- A call among the caller's objects, known by a relation. -/
theorem KL.call {T : List VObj → Kn → Prop} {c : Operand} {v : XV} {args : Array Operand} {ts : Array TypeId} {f : FuncId} {first caps xs : List XV} {R : List VObj → XV → Prop} {dst : Option Tmp} {ty : TypeId} {pos : String} {af : Array Edge} {g : Option (Nat × Bool)}
    (hg : guardK ops kn ⟨dst, .call ⟨.value c, args, ts⟩, ty, pos, af, g⟩ = some true) (hd : dstOk n dst = true) (hv : evK kn c = some v) (hf : asFn v = some (f, first, caps)) (ha : args.toList.mapM (evK kn) = some xs) (hp : plainFn P f = true)
    (hc : InCall P M W0 f σ (first ++ xs ++ caps) R) (h : ∀ σ' x, R σ' x → KL P M W0 n ops l σ' (extK dst x kn) T) : KL P M W0 n ops (⟨dst, .call ⟨.value c, args, ts⟩, ty, pos, af, g⟩ :: l) σ kn T :=
  fun env he => .inl (s := ⟨σ, env⟩) (guardK_X he hg) rfl (by show asFn (evalX env c) = _; rw [evK_evalX he hv]; exact hf) hp (by show InCall P M W0 f σ (first ++ args.toList.map (evalX env) ++ caps) R; rw [mapM_evK he ha]; exact hc) hd
    (fun σ' x hr => h σ' x hr _ (he.ext dst x))

/-- A call of yield, known by a relation. -/
theorem KL.yld {T : List VObj → Kn → Prop} {c : Operand} {id : Nat} {args : Array Operand} {ts : Array TypeId} {xs : List XV} {Q : List VObj → Bool → Prop} {dst : Option Tmp} {ty : TypeId} {pos : String} {af : Array Edge} {g : Option (Nat × Bool)}
    (hg : guardK ops kn ⟨dst, .call ⟨.value c, args, ts⟩, ty, pos, af, g⟩ = some true) (hd : dstOk n dst = true) (hv : evK kn c = some (.yl id)) (hid : id < σ.length) (ha : args.toList.mapM (evK kn) = some xs)
    (hc : InRound P M W0 id σ xs Q) (h : ∀ σ' b, Q σ' b → KL P M W0 n ops l σ' (extK dst (.d (.lit (.bool b))) kn) T) : KL P M W0 n ops (⟨dst, .call ⟨.value c, args, ts⟩, ty, pos, af, g⟩ :: l) σ kn T :=
  fun env he => .yld (s := ⟨σ, env⟩) (guardK_X he hg) rfl (evK_evalX he hv) hid (by show InRound P M W0 id σ (args.toList.map (evalX env)) Q; rw [mapM_evK he ha]; exact hc) hd
    (fun σ' b hr => h σ' b hr _ (he.ext dst _))

theorem KC.regionL {id : Nat} {T : Exit → List VObj → Kn → Prop} (h : KL P M W0 n ops ops.toList σ kn (T .normal)) : KC P M W0 n (.region id ops false) σ kn T :=
  fun env he => .region ((h env he).mono fun _ ⟨k, h1, h2⟩ => ⟨k, h1, h2⟩)

/-- AN ITERATOR: it calls yield with the values of a list, one after the other, until it is told to stop. -/
def IterR (P : Program) (f : FuncId) (first caps : List XV) (xs : List (List XV)) : Prop :=
  ∀ (M : Nat → Prop) (W0 : World) (id : Nat) (I : Nat → List VObj → Prop) (J : List VObj → Prop) (σ0 : List VObj), id < σ0.length → (∀ k σ, I k σ → id < σ.length) →
    (∀ (k : Nat) (σ : List VObj) (hk : k < xs.length), I k σ → InRound P M W0 id σ xs[k] (fun σ' b => (b = true ∧ I (k + 1) σ') ∨ (b = false ∧ J σ'))) →
    I 0 σ0 → InCall P M W0 f σ0 (first ++ [.yl id] ++ caps) (fun σ' _ => I xs.length σ' ∨ J σ')

theorem putsX_get : ∀ (ps : List Tmp) (xs : List XV) (E : List XV) (kn : Kn) (t : Nat) (x : XV), ps.Nodup → (∀ t x, look kn t = some x → t < E.length → E[t]? = some x) → t < E.length →
    look (ps.zip xs ++ kn) t = some x → (putsX E (ps.zip xs))[t]? = some x
  | [], xs, E, kn, t, x, _, hk, ht, h => by simp at h; simp [putsX]; exact hk t x h ht
  | p :: ps, [], E, kn, t, x, _, hk, ht, h => by simp at h; simp [putsX]; exact hk t x h ht
  | p :: ps, y :: xs, E, kn, t, x, hn, hk, ht, h => by
    rw [List.nodup_cons] at hn
    simp only [List.zip_cons_cons, List.cons_append, look] at h
    simp only [List.zip_cons_cons, putsX]
    by_cases e : t = p
    · subst e
      rw [if_pos rfl] at h
      cases h
      have key : ∀ (ps : List Tmp) (xs : List XV) (E : List XV), t ∉ ps → (putsX E (ps.zip xs))[t]? = E[t]? := by
        intro ps
        induction ps with
        | nil => intro xs E _; simp [putsX]
        | cons q ps ih =>
          intro xs E hq
          cases xs with
          | nil => simp [putsX]
          | cons z xs =>
            simp only [List.zip_cons_cons, putsX]
            rw [ih xs _ (fun h => hq (by simp [h])), List.getElem?_set_ne (fun e => hq (by simp [e]))]
      rw [key ps xs _ hn.1, List.getElem?_set_self ht]
    · rw [if_neg e] at h
      refine putsX_get ps xs (E.set p y) ((p, y) :: kn) t x hn.2 (fun u z hu hlt => ?_) (by simpa using ht) ?_
      · simp only [look] at hu
        rw [List.length_set] at hlt
        by_cases e2 : u = p
        · subst e2; rw [if_pos rfl] at hu; cases hu; rw [List.getElem?_set_self hlt]
        · rw [if_neg e2] at hu; rw [List.getElem?_set_ne (fun h => e2 h.symm)]; exact hk u z hu hlt
      · have : ∀ (l : Kn), look (l ++ kn) t = look (l ++ (p, y) :: kn) t := by
          intro l
          induction l with
          | nil => simp [look, e]
          | cons q l ih => obtain ⟨s, z⟩ := q; simp only [List.cons_append, look]; rw [ih]
        rw [← this]; exact h

/-- A LOOP OVER A FUNCTION. -/
theorem KC.rangeR {g : Operand} {ps : Array Tmp} {assign body : Code} {T : Exit → List VObj → Kn → Prop} {gv : XV} {f : FuncId} {first caps : List XV} (hg : evK kn g = some gv) (hf : asFn gv = some (f, first, caps)) (hp : plainFn P f = true)
    {xs : List (List XV)} (hit : IterR P f first caps xs) (hps : ∀ x ∈ xs, x.length = ps.size) (hnd : ps.toList.Nodup) (knA : Nat → Kn) (I : Nat → List VObj → Prop) (J : List VObj → Prop)
    (hA : ∀ (k : Nat) (hk : k < xs.length), ∀ p ∈ knA k, p.1 < n ∧ look (ps.toList.zip xs[k] ++ kn) p.1 = some p.2) (h0 : I 0 (σ ++ [dead]))
    (hb : ∀ (k : Nat) (_ : k < xs.length) (lo : VObj) (σ' : List VObj), lo.mode = 6 → σ'[σ.length]? = some lo → I k (σ'.set σ.length dead) →
      KC P M W0 n assign σ' (knA k) (fun e τ kn1 => e = .normal ∧ τ = σ' ∧ ∀ lo2 : VObj, lo2.mode = 6 → KC P M W0 n body (σ'.set σ.length lo2) kn1 (fun e τ _ => τ[σ.length]? = some lo2 ∧
        ((e = .normal ∧ I (k + 1) (τ.set σ.length dead)) ∨ (e = .ret ∧ J (τ.set σ.length dead))))))
    (hn : ∀ τ, I xs.length τ → T .normal τ kn) (hr : ∀ τ, J τ → T .ret τ kn) : KC P M W0 n (.rangeFunc g ps assign body) σ kn T := by
  intro env he
  refine Wp.rangeFunc (s := ⟨σ, env⟩) (f := f) (first := first) (caps := caps) (by show asFn (evalX env g) = _; rw [evK_evalX he hg]; exact hf) hp fun fn => ?_
  have hlen : ((List.range n).map env).length = n := by simp
  have hgetE : ∀ t x, look kn t = some x → t < ((List.range n).map env).length → ((List.range n).map env)[t]? = some x := by
    intro t x h ht
    rw [hlen] at ht
    rw [List.getElem?_map, List.getElem?_range ht]
    simp [he t x h]
  generalize hE : (List.range n).map env = E at hlen hgetE
  have hcall := hit M W0 σ.length (fun k σ' => σ'[σ.length]? = some ⟨.lp (recL fn ps assign body) :: E, 6⟩ ∧ I k (σ'.set σ.length dead))
    (fun σ' => σ'[σ.length]? = some ⟨.lp { recL fn ps assign body with state := .done, pending := some .ret } :: E, 6⟩ ∧ J (σ'.set σ.length dead)) (σ ++ [⟨.lp (recL fn ps assign body) :: E, 6⟩]) (by simp)
    (fun k σ' h => (List.getElem?_eq_some_iff.1 h.1).1) ?_ ?_
  · refine hcall.mono fun σ' x h => ?_
    rcases h with ⟨h1, h2⟩ | ⟨h1, h2⟩
    · exact ⟨_, E, h1, by simp [recL], ⟨kn, he, hn _ h2⟩⟩
    · exact ⟨_, E, h1, by simp, Wp.ret ⟨kn, he, hr _ h2⟩⟩
  · intro k σ' hk ⟨h1, h2⟩
    refine inRound_of h1 rfl rfl (by rw [hps _ (List.getElem_mem hk)]; rfl) ?_
    have hag : Agree (knA k) (envF (putsX E (ps.toList.zip xs[k]))) := by
      intro t x hx
      have : ∀ (l : Kn), (∀ p ∈ l, p.1 < n ∧ look (ps.toList.zip xs[k] ++ kn) p.1 = some p.2) → look l t = some x → t < n ∧ look (ps.toList.zip xs[k] ++ kn) t = some x := by
        intro l
        induction l with
        | nil => intro _ h; simp [look] at h
        | cons p l ih =>
          intro hl hx
          obtain ⟨s, y⟩ := p
          simp only [look] at hx
          split at hx
          · rename_i e; cases hx; subst e; exact hl (t, x) (by simp)
          · exact ih (fun q hq => hl q (by simp [hq])) hx
      obtain ⟨q1, q2⟩ := this _ (hA k hk) hx
      unfold envF
      rw [putsX_get _ _ E kn t x hnd hgetE (by rw [hlen]; exact q1) q2]; rfl
    have hwa := hb k hk _ σ' rfl h1 h2 _ hag
    rw [hlen]
    refine hwa.mono fun e s1 hh => ?_
    obtain ⟨kn1, a1, rfl, a2, a3⟩ := hh
    refine ⟨rfl, by rw [a2]; exact h1, ?_⟩
    have hwb := a3 ⟨.lp { recL fn ps assign body with state := .busy } :: E, 6⟩ rfl s1.env a1
    rw [a2]
    refine hwb.mono fun e s2 hh2 => ?_
    obtain ⟨kn2, _, b2, b3⟩ := hh2
    have hlt := (List.getElem?_eq_some_iff.1 b2).1
    rcases b3 with ⟨rfl, b3⟩ | ⟨rfl, b3⟩
    · exact ⟨b2, .inl ⟨rfl, by rw [List.getElem?_set_self hlt]; rfl, by rw [List.set_set]; exact b3⟩⟩
    · exact ⟨b2, .inr ⟨rfl, by rw [List.getElem?_set_self hlt], by rw [List.set_set]; exact b3⟩⟩
  · refine ⟨by rw [List.getElem?_append_right (Nat.le_refl _)]; simp, ?_⟩
    rw [List.set_append_right _ _ (Nat.le_refl _)]
    simpa using h0

/-- A body's walk gives what the call does among the caller's objects, known by a relation. -/
theorem inCall_K {f : FuncId} {fn : Func} {c : Code} {args : List XV} {R : List VObj → XV → Prop} (hf : P.funcs[f]? = some fn) (hb : fn.body = some c) (hn : args.length ≤ fn.ntmps)
    (h : KC P M W0 fn.ntmps c σ (enterK 0 args) (fun e σ2 kn => (e = .ret ∨ e = .normal) ∧ ∃ x, resK P fn σ2 kn = some x ∧ R σ2 x)) : InCall P M W0 f σ args R :=
  inCall_of hf hb hn ((h _ (agree_enter σ args)).mono fun _ _ ⟨_, h1, h2, x, h3, h4⟩ => ⟨h2, x, resK_X h1 h3, h4⟩)

theorem mask_get {i j : Nat} {a b : VObj} {x : Option VObj} (h : j ≠ i) (hx : (σ.set j a)[i]? = x) : (σ.set j b)[i]? = x := by
  rw [List.getElem?_set_ne h] at hx ⊢; exact hx
end
end Go.Vm

end
section
/-
  Batch: sorting by insertion (pure), as the library does it.
-/
namespace Go.Ba
open Go.Vm Go.Ht

def swp (l : List Int) (j : Nat) : List Int := (l.set j (l.getD (j - 1) 0)).set (j - 1) (l.getD j 0)
def insJ (c : Int → Int → Int) : Nat → List Int → List Int
  | 0, l => l
  | j + 1, l => if c (l.getD (j + 1) 0) (l.getD j 0) < 0 then insJ c j (swp l (j + 1)) else l
def insN (c : Int → Int → Int) (l : List Int) (k : Nat) : List Int := (List.range k).foldl (fun cs i => insJ c i cs) l
/-- Sorted by insertion. -/
def insS (c : Int → Int → Int) (l : List Int) : List Int := insN c l l.length
theorem swp_len (l : List Int) (j : Nat) : (swp l j).length = l.length := by simp [swp]
theorem insJ_len (c : Int → Int → Int) : ∀ (j : Nat) (l : List Int), (insJ c j l).length = l.length
  | 0, _ => rfl
  | j + 1, l => by
    unfold insJ
    split
    · rw [insJ_len c j, swp_len]
    · rfl
theorem insN_succ (c : Int → Int → Int) (l : List Int) (k : Nat) : insN c l (k + 1) = insJ c k (insN c l k) := by
  unfold insN; rw [List.range_succ, List.foldl_append]; rfl
theorem insN_len (c : Int → Int → Int) (l : List Int) (k : Nat) : (insN c l k).length = l.length := by
  induction k with
  | zero => rfl
  | succ k ih => rw [insN_succ, insJ_len, ih]
theorem insN_one (c : Int → Int → Int) (l : List Int) : insN c l 1 = l := rfl
theorem swp_perm {l : List Int} {j : Nat} (h1 : 0 < j) (h2 : j < l.length) : (swp l j).Perm l := by
  obtain ⟨i, rfl⟩ : ∃ i, j = i + 1 := ⟨j - 1, by omega⟩
  have e : swp l (i + 1) = l.take i ++ (l[i + 1] :: l[i] :: l.drop (i + 2)) := by
    apply List.ext_getElem
    · rw [swp_len]; simp; omega
    · intro k h3 h4
      rw [swp_len] at h3
      unfold swp
      simp only [Nat.add_sub_cancel, List.getElem_set]
      have g1 : l.getD (i + 1) 0 = l[i + 1] := by simp [h2]
      have g2 : l.getD i 0 = l[i] := by simp [show i < l.length by omega]
      simp only [g1, g2]
      by_cases hk : k < i
      · rw [if_neg (by omega), if_neg (by omega), List.getElem_append_left (by simp; omega)]; simp
      · rw [List.getElem_append_right (by simp; omega)]
        simp only [List.length_take, show min i l.length = i by omega]
        obtain ⟨d, rfl⟩ : ∃ d, k = i + d := ⟨k - i, by omega⟩
        simp only [Nat.add_sub_cancel_left]
        match d with
        | 0 => simp
        | 1 => simp
        | d + 2 => rw [if_neg (by omega), if_neg (by omega)]; simp; congr 1; omega
  have e2 : l = l.take i ++ (l[i] :: l[i + 1] :: l.drop (i + 2)) := by
    rw [← List.drop_eq_getElem_cons h2, ← List.drop_eq_getElem_cons (by omega), List.take_append_drop]
  rw [e]
  conv => rhs; rw [e2]
  exact (List.Perm.swap _ _ _).append_left _
theorem insJ_perm (c : Int → Int → Int) : ∀ (j : Nat) (l : List Int), j < l.length → (insJ c j l).Perm l
  | 0, _, _ => .refl _
  | j + 1, l, h => by
    unfold insJ
    split
    · exact (insJ_perm c j _ (by rw [swp_len]; omega)).trans (swp_perm (by omega) h)
    · exact .refl _
theorem insN_perm (c : Int → Int → Int) (l : List Int) : ∀ k, k ≤ l.length → (insN c l k).Perm l
  | 0, _ => .refl _
  | k + 1, h => by
    rw [insN_succ]
    exact (insJ_perm c k _ (by rw [insN_len]; omega)).trans (insN_perm c l k (by omega))
/-- The comparison of two keys. -/
def cmpI (x y : Int) : Int := if x < y then -1 else if y < x then 1 else 0
theorem insS_len (c : Int → Int → Int) (l : List Int) : (insS c l).length = l.length := insN_len c l _
end Go.Ba

end
section
/-
  Batch: what the longest ways are: the least times that keep the arcs (pure).
-/
namespace Go.Ba
open Go.Vm Go.Ht

theorem flV_sld {α : Type} {f : α → List DV} (l : List α) : SlD (flV f l) := by cases l with | nil => exact .nil | cons a l => exact .sl _ _ _
theorem mem_rowI {ops : List (Int × Int)} {m x : Int} : x ∈ rowI ops m ↔ 0 ≤ x ∧ x < ops.length ∧ (ops.getD x.toNat (0, 0)).1 = m := by
  unfold rowI
  simp only [List.mem_map, List.mem_filter, List.mem_range, decide_eq_true_eq]
  constructor
  · rintro ⟨i, ⟨h1, h2⟩, rfl⟩
    exact ⟨by omega, by omega, by simpa using h2⟩
  · rintro ⟨h1, h2, h3⟩
    exact ⟨x.toNat, ⟨by omega, h3⟩, by omega⟩
theorem mem_msO {M : Nat} {ops : List (Int × Int)} {l : List Int} : l ∈ msO M ops ↔ ∃ m : Nat, m < M ∧ l = rowI ops (m : Int) := by
  unfold msO
  simp only [List.mem_map, List.mem_range]
  exact ⟨fun ⟨m, h1, h2⟩ => ⟨m, h1, h2.symm⟩, fun ⟨m, h1, h2⟩ => ⟨m, h1, h2.symm⟩⟩
theorem ms_row {M : Nat} {ops : List (Int × Int)} {l : List Int} (h : l ∈ msO M ops) : l.length ≤ ops.length ∧ ∀ x ∈ l, 0 ≤ x ∧ x < ops.length := by
  obtain ⟨m, _, rfl⟩ := mem_msO.1 h
  exact ⟨rowI_len _ _, fun x hx => by have := mem_rowI.1 hx; omega⟩
theorem rowI_lt (ops : List (Int × Int)) (m : Int) : (rowI ops m).Pairwise (· < ·) := by
  unfold rowI
  rw [List.pairwise_map]
  exact (List.Pairwise.filter _ List.pairwise_lt_range).imp fun h => by omega
theorem mem_prsT {l : List Int} {k : Nat} {p : Int × Int} (hk : k ≤ l.length) : p ∈ prsT l k ↔ ∃ i j : Nat, ∃ (h1 : i < j) (h2 : j < k), p = (l[i]'(by omega), l[j]'(by omega)) := by
  unfold prsT
  simp only [List.mem_flatMap, List.mem_range, List.mem_map]
  constructor
  · rintro ⟨j, hj, x, hx, rfl⟩
    obtain ⟨i, hi, rfl⟩ := List.getElem_of_mem hx
    rw [List.length_take] at hi
    exact ⟨i, j, by omega, hj, by simp [show j < l.length by omega]⟩
  · rintro ⟨i, j, h1, h2, rfl⟩
    refine ⟨j, h2, l[i]'(by omega), ?_, by simp [show j < l.length by omega]⟩
    rw [List.mem_take_iff_getElem]
    exact ⟨i, by omega, rfl⟩
/-- The pairs of operations of one machine. -/
theorem mem_riv {M : Nat} {ops : List (Int × Int)} {p : Int × Int} : p ∈ rivO (msO M ops) ↔ ∃ m : Nat, m < M ∧ p.1 < p.2 ∧ p.1 ∈ rowI ops (m : Int) ∧ p.2 ∈ rowI ops (m : Int) := by
  unfold rivO
  rw [List.mem_flatMap]
  constructor
  · rintro ⟨l, hl, hp⟩
    obtain ⟨m, hm, rfl⟩ := mem_msO.1 hl
    obtain ⟨i, j, h1, h2, rfl⟩ := (mem_prsT (Nat.le_refl _)).1 hp
    exact ⟨m, hm, (List.pairwise_iff_getElem.1 (rowI_lt ops m)) i j (by omega) h2 h1, List.getElem_mem _, List.getElem_mem _⟩
  · rintro ⟨m, hm, hlt, h1, h2⟩
    refine ⟨_, mem_msO.2 ⟨m, hm, rfl⟩, (mem_prsT (Nat.le_refl _)).2 ?_⟩
    obtain ⟨i, hi, e1⟩ := List.getElem_of_mem h1
    obtain ⟨j, hj, e2⟩ := List.getElem_of_mem h2
    have hp := List.pairwise_iff_getElem.1 (rowI_lt ops m)
    refine ⟨i, j, ?_, hj, by rw [e1, e2]⟩
    rcases Nat.lt_trichotomy i j with h | h | h
    · exact h
    · subst h; omega
    · have := hp j i hj hi h; omega
theorem riv_in {M : Nat} {ops : List (Int × Int)} : ArcsIn ops.length (rivO (msO M ops)) := fun a ha => by
  obtain ⟨m, _, _, h1, h2⟩ := mem_riv.1 ha
  have := mem_rowI.1 h1
  have := mem_rowI.1 h2
  omega
/-- Times that keep the arcs. -/
structure Sol (os ar : List (Int × Int)) (x : Int → Int) : Prop where
  nn : ∀ i : Int, 0 ≤ i → i < os.length → 0 ≤ x i
  arc : ∀ a ∈ ar, x a.1 + tm os a.1 ≤ x a.2
theorem Sol.sub {os ar br : List (Int × Int)} {x : Int → Int} (h : Sol os ar x) (hs : ∀ a ∈ br, a ∈ ar) : Sol os br x := ⟨h.nn, fun a ha => h.arc a (hs a ha)⟩

theorem gt_set {hs : List Int} {k i v : Int} (hk : 0 ≤ k) (hk2 : k < hs.length) (hi : 0 ≤ i) : gt (hs.set k.toNat v) i = if i = k then v else gt hs i := by
  unfold gt
  rw [List.getD_eq_getElem?_getD, List.getElem?_set, List.getD_eq_getElem?_getD]
  by_cases e : i = k
  · subst e
    rw [if_pos rfl, if_pos (by omega), if_pos rfl]; rfl
  · rw [if_neg (by omega), if_neg e]
theorem fold_flag {os : List (Int × Int)} : ∀ (ar : List (Int × Int)) (s : List Int × Bool), s.2 = false → (ar.foldl (rlx os) s).2 = false
  | [], _, h => h
  | a :: ar, s, h => by
    rw [List.foldl_cons]
    refine fold_flag ar _ ?_
    unfold rlx; split
    · rfl
    · exact h
theorem fold_true {os : List (Int × Int)} : ∀ (ar : List (Int × Int)) (hs : List Int), (ar.foldl (rlx os) (hs, true)).2 = true → (ar.foldl (rlx os) (hs, true)).1 = hs ∧ ∀ a ∈ ar, gt hs a.1 + tm os a.1 ≤ gt hs a.2
  | [], hs, _ => ⟨rfl, fun a ha => by simp at ha⟩
  | a :: ar, hs, h => by
    rw [List.foldl_cons] at h ⊢
    by_cases hlt : gt hs a.2 < gt hs a.1 + tm os a.1
    · rw [show rlx os (hs, true) a = (hs.set a.2.toNat (gt hs a.1 + tm os a.1), false) from if_pos hlt, fold_flag ar _ rfl] at h
      cases h
    · rw [show rlx os (hs, true) a = (hs, true) from if_neg hlt] at h ⊢
      obtain ⟨h1, h2⟩ := fold_true ar hs h
      refine ⟨h1, fun b hb => ?_⟩
      rcases List.mem_cons.1 hb with rfl | hb
      · omega
      · exact h2 b hb
theorem fold_still {os : List (Int × Int)} : ∀ (ar : List (Int × Int)) (hs : List Int), (∀ a ∈ ar, gt hs a.1 + tm os a.1 ≤ gt hs a.2) → ar.foldl (rlx os) (hs, true) = (hs, true)
  | [], _, _ => rfl
  | a :: ar, hs, h => by
    rw [List.foldl_cons, show rlx os (hs, true) a = (hs, true) from if_neg (by have := h a (by simp); simp only; omega)]
    exact fold_still ar hs fun b hb => h b (by simp [hb])
theorem hdsN_sol {os ar : List (Int × Int)} : ∀ (n : Nat) (hs r : List Int), hdsN os ar n hs = some r → ∀ a ∈ ar, gt r a.1 + tm os a.1 ≤ gt r a.2
  | 0, _, _, h => by cases h
  | n + 1, hs, r, h => by
    unfold hdsN at h
    split at h
    · rename_i hb
      obtain ⟨h1, h2⟩ := fold_true ar hs hb
      cases h
      rw [show (rnd os ar hs).1 = hs from h1]; exact h2
    · exact hdsN_sol n _ r h
theorem gt_rep (n : Nat) (i : Int) : gt (List.replicate n 0) i = 0 := by
  unfold gt
  rw [List.getD_eq_getElem?_getD, List.getElem?_replicate]
  split <;> rfl
theorem bd_nn {hs : List Int} {B : Int} (h : Bd B hs) (i : Int) : 0 ≤ gt hs i := by
  unfold gt
  rw [List.getD_eq_getElem?_getD]
  by_cases h2 : i.toNat < hs.length
  · rw [List.getElem?_eq_getElem h2]; exact (h _ (List.getElem_mem h2)).1
  · rw [List.getElem?_eq_none (by omega)]; exact Int.le_refl _
/-- The times are a solution, and the least one. -/
theorem hds_sol {os ar : List (Int × Int)} {hs : List Int} (hT : Times os) (hin : ArcsIn os.length ar) (h : hds os ar = some hs) : Sol os ar (gt hs) :=
  ⟨fun i _ _ => bd_nn (hdsN_bd hT hin _ _ _ 0 (by omega) (bd_zero _) h) i, hdsN_sol _ _ _ h⟩
/-- A round settles one rank more. -/
theorem fold_rank {os : List (Int × Int)} {r : Int → Nat} {k : Nat} {hs : List Int} : ∀ (ar done : List (Int × Int)) (s : List Int × Bool), s.1.length = os.length → ArcsIn os.length ar → ArcsIn os.length done → (∀ a ∈ ar, r a.1 < r a.2) → (∀ a ∈ done, r a.1 < r a.2) →
    (∀ a ∈ ar, r a.2 ≤ k → gt hs a.1 + tm os a.1 ≤ gt hs a.2) → (∀ i : Int, 0 ≤ i → i < os.length → r i ≤ k → gt s.1 i = gt hs i) → (∀ a ∈ done, r a.2 ≤ k + 1 → gt s.1 a.1 + tm os a.1 ≤ gt s.1 a.2) →
    ∀ a ∈ done ++ ar, r a.2 ≤ k + 1 → gt (ar.foldl (rlx os) s).1 a.1 + tm os a.1 ≤ gt (ar.foldl (rlx os) s).1 a.2
  | [], done, s, _, _, _, _, _, _, _, h, a, ha, hr => h a (by simpa using ha) hr
  | b :: ar, done, s, hl, hin, hid, hra, hrd, hk, hfix, hdone, a, ha, hr => by
    rw [List.foldl_cons]
    have hb := hin b (by simp)
    have hrb := hra b (by simp)
    refine fold_rank ar (done ++ [b]) (rlx os s b) (by rw [rlx_len]; exact hl) (fun c hc => hin c (by simp [hc])) (fun c hc => ?_) (fun c hc => hra c (by simp [hc])) (fun c hc => ?_) (fun c hc => hk c (by simp [hc])) (fun i h0 h1 h2 => ?_) (fun c hc h2 => ?_) a (by simpa using ha) hr
    · rcases List.mem_append.1 hc with hc | hc
      · exact hid c hc
      · simp at hc; subst hc; exact hb
    · rcases List.mem_append.1 hc with hc | hc
      · exact hrd c hc
      · simp at hc; subst hc; exact hrb
    · rw [← hfix i h0 h1 h2]
      unfold rlx
      split
      · rename_i hlt
        simp only
        rw [gt_set hb.2.2.1 (by omega) h0]
        split
        · rename_i e; subst e
          exfalso
          have e1 := hfix b.1 hb.1 hb.2.1 (by omega)
          have e2 := hfix b.2 h0 h1 h2
          have := hk b (by simp) h2
          rw [e1, e2] at hlt; omega
        · rfl
      · rfl
    · have key : ∀ c : Int × Int, 0 ≤ c.1 → 0 ≤ c.2 → c.1 < os.length → r c.1 < r c.2 → r c.2 ≤ k + 1 → (gt s.1 c.1 + tm os c.1 ≤ gt s.1 c.2 ∨ c = b) → gt (rlx os s b).1 c.1 + tm os c.1 ≤ gt (rlx os s b).1 c.2 := by
        intro c h0 h0' h1 h3 h4 h5
        unfold rlx
        split
        · rename_i hlt
          simp only
          rw [gt_set hb.2.2.1 (by omega) h0, gt_set hb.2.2.1 (by omega) h0']
          have hne : c.1 ≠ b.2 := fun e => by
            have e1 := hfix b.1 hb.1 hb.2.1 (by rw [e] at h3; omega)
            have e2 := hfix b.2 hb.2.2.1 hb.2.2.2 (by rw [e] at h3; omega)
            have := hk b (by simp) (by rw [e] at h3; omega)
            rw [e1, e2] at hlt; omega
          rw [if_neg hne]
          rcases h5 with h5 | rfl
          · split
            · rename_i e; rw [e] at h5; omega
            · exact h5
          · rw [if_pos rfl]; omega
        · rename_i hge
          rcases h5 with h5 | rfl
          · exact h5
          · omega
      rcases List.mem_append.1 hc with hc | hc
      · have := hid c hc
        exact key c this.1 this.2.2.1 this.2.1 (hrd c hc) h2 (.inl (hdone c hc h2))
      · simp at hc; subst hc
        exact key c hb.1 hb.2.2.1 hb.2.1 hrb h2 (.inr rfl)
theorem hdsN_some {os ar : List (Int × Int)} {r : Int → Nat} {n : Nat} (hin : ArcsIn os.length ar) (hr : ∀ a ∈ ar, r a.1 < r a.2) (hn : ∀ a ∈ ar, r a.2 < n) : ∀ (m k : Nat) (hs : List Int), hs.length = os.length → (∀ a ∈ ar, r a.2 ≤ k → gt hs a.1 + tm os a.1 ≤ gt hs a.2) → n ≤ k + m → 0 < m → ∃ q, hdsN os ar m hs = some q
  | 0, _, _, _, _, _, h => by omega
  | m + 1, k, hs, hl, hk, hnk, _ => by
    unfold hdsN
    by_cases hb : (rnd os ar hs).2 = true
    · rw [if_pos hb]; exact ⟨_, rfl⟩
    · rw [if_neg hb]
      have hm : 0 < m := by
        rcases Nat.eq_zero_or_pos m with h | h
        · exfalso
          subst h
          refine hb ?_
          unfold rnd
          rw [fold_still ar hs fun a ha => hk a ha (by have := hn a ha; omega)]
        · exact h
      refine hdsN_some hin hr hn m (k + 1) (rnd os ar hs).1 ((fold_len _ _).trans hl) (fun a ha h2 => ?_) (by omega) hm
      exact fold_rank (k := k) (hs := hs) ar [] (hs, true) hl hin (fun c hc => by simp at hc) hr (fun c hc => by simp at hc) hk (fun _ _ _ _ => rfl) (fun c hc => by simp at hc) a (by simpa using ha) h2
/-- How many have a lower potential. -/
def rankF (n : Nat) (φ : Int → Int) (i : Int) : Nat := ((List.range n).filter fun j => decide (φ (j : Nat) < φ i)).length
theorem rank_lt {n : Nat} {φ : Int → Int} {i j : Int} (hi : 0 ≤ i) (hi2 : i < n) (h : φ i < φ j) : rankF n φ i < rankF n φ j := by
  unfold rankF
  rw [← List.countP_eq_length_filter, ← List.countP_eq_length_filter]
  have h1 : i.toNat ∈ List.range n := List.mem_range.2 (by omega)
  have key : ∀ l : List Nat, i.toNat ∈ l → l.countP (fun k => decide (φ (k : Nat) < φ i)) < l.countP (fun k => decide (φ (k : Nat) < φ j)) := by
    intro l
    induction l with
    | nil => simp
    | cons a l ih =>
      intro hm
      have hle : l.countP (fun k => decide (φ (k : Nat) < φ i)) ≤ l.countP (fun k => decide (φ (k : Nat) < φ j)) := List.countP_mono_left fun k _ hk => by
        simp only [decide_eq_true_eq] at hk ⊢; omega
      rw [List.countP_cons, List.countP_cons]
      by_cases e : i.toNat = a
      · subst e
        have e2 : ((i.toNat : Nat) : Int) = i := by omega
        rw [e2, if_neg (by simp), if_pos (by simpa using h)]; omega
      · have hml : i.toNat ∈ l := by
          rcases List.mem_cons.1 hm with h | h
          · exact absurd h e
          · exact h
        have := ih hml
        split
        · rename_i hs
          rw [if_pos (by simp only [decide_eq_true_eq] at hs ⊢; omega)]; omega
        · split <;> omega
  exact key _ h1
theorem rank_n {n : Nat} {φ : Int → Int} {i : Int} (hi : 0 ≤ i) (hi2 : i < n) : rankF n φ i < n := by
  unfold rankF
  rw [← List.countP_eq_length_filter]
  have key : ∀ l : List Nat, i.toNat ∈ l → l.countP (fun k => decide (φ (k : Nat) < φ i)) < l.length := by
    intro l
    induction l with
    | nil => simp
    | cons a l ih =>
      intro hm
      rw [List.countP_cons, List.length_cons]
      have hle := List.countP_le_length (l := l) (p := fun k => decide (φ (k : Nat) < φ i))
      by_cases e : i.toNat = a
      · subst e
        have e2 : ((i.toNat : Nat) : Int) = i := by omega
        rw [e2, if_neg (by simp)]; omega
      · have hml : i.toNat ∈ l := by
          rcases List.mem_cons.1 hm with h | h
          · exact absurd h e
          · exact h
        have := ih hml
        split <;> omega
  have := key (List.range n) (List.mem_range.2 (by omega))
  simpa using this
/-- Where a potential rises along all arcs there are such times. -/
theorem hds_some {os ar : List (Int × Int)} (φ : Int → Int) (h1 : 1 ≤ os.length) (hin : ArcsIn os.length ar) (hφ : ∀ a ∈ ar, φ a.1 < φ a.2) : ∃ hs, hds os ar = some hs :=
  hdsN_some (r := rankF os.length φ) (n := os.length) hin (fun a ha => rank_lt (hin a ha).1 (hin a ha).2.1 (hφ a ha)) (fun a ha => rank_n (hin a ha).2.2.1 (hin a ha).2.2.2) os.length 0 _ (by simp)
    (fun a ha h => absurd (rank_lt (n := os.length) (hin a ha).1 (hin a ha).2.1 (hφ a ha)) (by omega)) (by omega) h1
theorem jobB_len {M : Int} {j : List (Int × Int)} (h : ¬ (1 ≤ j.length ∧ j.length ≤ 4)) : jobB M j = false := by
  rw [← Bool.not_eq_true, jobB_iff]
  exact fun k => h ⟨k.1, k.2.1⟩
theorem flat_le4 {M : Int} : ∀ {J : List (List (Int × Int))}, (∀ j ∈ J, jobB M j = true) → J.flatten.length ≤ 4 * J.length
  | [], _ => by simp
  | j :: J, h => by
    have h1 := flat_le4 (J := J) fun i hi => h i (by simp [hi])
    have h2 := (jobB_iff.1 (h j (by simp))).2.1
    rw [List.flatten_cons, List.length_append, List.length_cons]; omega
theorem ops_pos {M : Int} {J : List (List (Int × Int))} (h : ShopOk M J) : 1 ≤ J.flatten.length := by
  obtain ⟨j, J', rfl⟩ : ∃ j J', J = j :: J' := by
    cases J with
    | nil => have := h.j1; simp at this
    | cons j J' => exact ⟨j, J', rfl⟩
  have := (h.jb j (by simp)).1
  rw [List.flatten_cons, List.length_append]; omega
end Go.Ba

end
section
/-
  Batch: append of a slice of pairs that is read; rows of pairs that are told as values.
-/
namespace Go.Vm
open Go.RowKit Go.Ba Go.Ht
section
variable {P : Program} {n : Nat} {ops : Array Oper} {l : List Oper} {σ : List VObj} {kn : Kn} {dst : Option Tmp} {ty : TypeId} {pos : String} {af : Array Edge} {g : Option (Nat × Bool)}
  {R : List Nat → List VObj → Kn → Prop}
theorem flat_one (ks : List (Int × Int)) : ((ks.flatMap c2).map XV.d).all oneX = true := by
  rw [List.all_eq_true]
  intro x hx
  obtain ⟨d, hd, rfl⟩ := List.mem_map.1 hx
  obtain ⟨o, _, ho⟩ := List.mem_flatMap.1 hd
  simp only [c2, List.mem_cons, List.not_mem_nil, or_false] at ho
  rcases ho with rfl | rfl <;> rfl
theorem KT.appFl {t e : TypeId} {x y : Operand} {sx : XV} {cells : List XV} {d : DV} {ks : List (Int × Int)} (hg : guardK ops kn ⟨dst, .call ⟨.builtin .append, #[x, y], #[t, t]⟩, ty, pos, af, g⟩ = some true) (hd : dstOk n dst = true)
    (hx : evK kn x = some sx) (hy : evK kn y = some (.d d)) (hp : PrD d ks) (hown : OwnK 2 σ sx cells) (hq : 0 < ks.length) (hq2 : ks.length ≤ 1000) (hlen : cells.length < 1073740000)
    (ht : P.underlying t = some (.slice e)) (hs : sizeT P e = some 2) (hb : bytesT P e ≤ 65536) (hz : (zeroT P e).map (·.cells.size) = some 2)
    (h : ∀ σ' x', OwnK 2 σ' x' (cells ++ (ks.flatMap c2).map .d) → (∀ j, idX sx ≠ some j → j < σ.length → σ'[j]? = σ[j]?) → (∃ j, idX x' = some j ∧ σ.length ≤ j) → KT P n ops l σ' (extK dst x' kn) (fun fls τ k => R (2 :: fls) τ k)) :
    KT P n ops (⟨dst, .call ⟨.builtin .append, #[x, y], #[t, t]⟩, ty, pos, af, g⟩ :: l) σ kn R := by
  cases hp with
  | nil => simp at hq
  | @sl _ cap =>
  have hl : (ks.flatMap c2).length = ks.length * 2 := flat_len c2_len ks
  have h1v := flat_one ks
  have hsrc : srcCells σ 2 (.d (.sl (ks.flatMap c2) ks.length cap)) = some ((ks.flatMap c2).map .d, ks.length, 0) := by
    unfold srcCells
    simp only
    rw [if_pos (by omega), List.take_of_length_le (by omega)]
  have hq0 : ¬ ks.length = 0 := by omega
  have hvl : ((ks.flatMap c2).map XV.d).length = ks.length * 2 := by rw [List.length_map]; exact hl
  generalize (ks.flatMap c2).map XV.d = vs at hsrc h1v hvl h
  cases hown with
  | nil =>
    refine KT.step hg hd (x := .osl σ.length 0 ks.length 2 ks.length false) (σ' := σ ++ [⟨vs, 0⟩]) (fl := 2) (ev_op fun env he => ?_) (h _ _ (.sl (by simp) hvl) (fun j _ hj => by rw [List.getElem?_append_left hj]) ⟨_, rfl, Nat.le_refl _⟩)
    have e1 := evK_evalX he hx
    have e2 := evK_evalX he hy
    unfold evalOp
    rw [litOp_none (x := y) (by simp [Op.operands, Call.operands]) (by rw [e2]; rfl)]
    have hq3 : ks.length ≤ 1073741824 := by omega
    simp only [e1, e2, opAppend, ht, hs, hsrc, h1v, if_true]
    simp [growTo, hb, hz, hq0, hq3]
  | @sl oid m cells ho hn =>
    have hm : m < 1073740000 := by omega
    refine KT.step hg hd (x := .osl σ.length 0 (m + ks.length) 2 (m + ks.length) false) (σ' := (σ.set oid ⟨cells, 2⟩) ++ [⟨cells ++ vs, 0⟩]) (fl := 2) (ev_op fun env he => ?_)
      (h _ _ (.sl (by rw [List.getElem?_append_right (by simp)]; simp) (by simp [hn, hvl, Nat.add_mul])) (fun j hj hlt => by
        rw [List.getElem?_append_left (by simpa using hlt), List.getElem?_set]
        rw [if_neg (fun e => hj (by rw [e]; rfl))]) ⟨_, rfl, Nat.le_refl _⟩)
    have e1 := evK_evalX he hx
    have e2 := evK_evalX he hy
    unfold evalOp
    rw [litOp_none (x := x) (by simp [Op.operands, Call.operands]) (by rw [e1]; rfl)]
    have h3 : m + ks.length ≤ 1073741824 := by omega
    have h4 : ¬ m + ks.length ≤ m := by omega
    simp only [e1, e2, opAppend, ht, hs, hsrc, h1v, if_true]
    simp [ho, hb, hz, h3, h4, hn, hq0]
theorem KT.takeP {x h : Operand} {t e : TypeId} {ks : List (Int × Int)} {d : DV} {m : Nat} (hg : guardK ops kn ⟨dst, .slice t x none (some h) none, ty, pos, af, g⟩ = some true) (hd' : dstOk n dst = true)
    (hx : evK kn x = some (.d d)) (hd : PrD d ks) (hh : evK kn h = some (.d (DI (m : Nat)))) (hm : m < ks.length) (ht : P.underlying t = some (.slice e)) (hs : sizeT P e = some 2)
    (hk : ∀ r, PrD r (ks.take m) → KT P n ops l σ (extK dst (.d r) kn) (fun fls τ k => R (0 :: fls) τ k)) : KT P n ops (⟨dst, .slice t x none (some h) none, ty, pos, af, g⟩ :: l) σ kn R := by
  cases hd with
  | nil => simp at hm
  | @sl _ cap =>
    have hl : (ks.flatMap c2).length = ks.length * 2 := flat_len c2_len ks
    have hfl : (ks.flatMap c2).take (m * 2) = (ks.take m).flatMap c2 := by
      have e1 : ks.flatMap c2 = (ks.take m).flatMap c2 ++ (ks.drop m).flatMap c2 := by rw [← List.flatMap_append, List.take_append_drop]
      rw [e1, List.take_append_of_le_length (by rw [flat_len c2_len, List.length_take]; omega), List.take_of_length_le (by rw [flat_len c2_len, List.length_take]; omega)]
    refine KT.step hg hd' (x := .d (.sl ((ks.take m).flatMap c2) (ks.take m).length (cap.map (· - 0)))) (σ' := σ) (fl := 0) (ev_op fun env he => ?_) (hk _ .sl)
    have e1 := evK_evalX he hx
    have e2 := evK_evalX he hh
    unfold evalOp
    rw [litOp_none (x := x) (by simp [Op.operands]) (by rw [e1]; rfl)]
    have h1 : m * 2 ≤ (ks.flatMap c2).length := by omega
    have h2 : (ks.take m).length = m := by rw [List.length_take]; omega
    generalize (ks.flatMap c2) = cs at h1 hfl e1
    rw [← hfl, h2]
    simp [e1, e2, opSlice, ht, hs, boundOf, litOf, DI, h1, show m ≤ ks.length by omega]
end
/-- A row of variables of k cells that has been appended is told as a value. -/
theorem KC.tellK {P : Program} {M : Nat → Prop} {W0 : World} {n : Nat} {σ : List VObj} {kn : Kn} {c : Code} {T : Exit → List VObj → Kn → Prop} {x : XV} {cells : List XV} {r L w : Nat} {ex : Bool} {ds : List DV}
    (ho : OwnK 1 σ x (cells ++ [.osl r 0 L w L ex])) (hr : σ[r]? = some ⟨ds.map .d, 0⟩) (hl : ds.length = L * w) (hne : idX x ≠ some r)
    (h : ∀ σ2, OwnK 1 σ2 x (cells ++ [.d (.sl ds L (if ex then some L else none))]) → σ2.length = σ.length → (∀ j, j ≠ r → idX x ≠ some j → σ2[j]? = σ[j]?) → KC P M W0 n c σ2 kn T) : KC P M W0 n c σ kn T := by
  generalize hc : cells ++ [.osl r 0 L w L ex] = l at ho
  cases ho with
  | nil => simp at hc
  | @sl id m _ ho hn =>
    subst hc
    have hid : id ≠ r := fun e => hne (by rw [← e]; rfl)
    have e1 : (freezeIds σ [r])[id]? = some ⟨cells ++ [.osl r 0 L w L ex], 0⟩ := by rw [freezeIds_not (by simpa using hid)]; exact ho
    have e2 : (freezeIds σ [r])[r]? = some ⟨ds.map .d, 1⟩ := freezeIds_in (by simp) hr
    have hdd : deepen (freezeIds σ [r]) 5 (.osl r 0 L w L ex) = some (.sl ds L (if ex then some L else none)) := by
      rw [deepen_osl e2 rfl (by rw [List.length_map]; omega), List.drop_zero, List.take_of_length_le (by rw [List.length_map]; omega), mapM_deep]; rfl
    refine KC.ghostC [r] 5 (id := id) (i := cells.length) (ob := ⟨cells ++ [.osl r 0 L w L ex], 0⟩) (x := .osl r 0 L w L ex) (d := .sl ds L (if ex then some L else none)) e1 (by simp) (by simp) hdd (h _ ?_ (by simp [freezeIds]) fun j h1 h2 => ?_)
    · have hlt := (List.getElem?_eq_some_iff.1 e1).1
      have e3 : (cells ++ [XV.osl r 0 L w L ex]).set cells.length (XV.d (.sl ds L (if ex then some L else none))) = cells ++ [XV.d (.sl ds L (if ex then some L else none))] := by simp
      rw [e3]
      exact .sl (List.getElem?_set_self hlt) (by simpa using hn)
    · rw [List.getElem?_set_ne (fun e => h2 (by rw [← e]; rfl)), freezeIds_not (by simpa using h1)]
theorem KC.tellP {P : Program} {M : Nat → Prop} {W0 : World} {n : Nat} {σ : List VObj} {kn : Kn} {c : Code} {T : Exit → List VObj → Kn → Prop} {x y : XV} {cells : List XV} {l : List (Int × Int)}
    (ho : OwnK 1 σ x (cells ++ [y])) (hy : OwnK 2 σ y ((l.flatMap c2).map .d)) (hn : l = [] → y = .d Dnil) (hne : ∀ r, idX y = some r → idX x ≠ some r)
    (h : ∀ σ2, OwnK 1 σ2 x (cells ++ [.d (flV c2 l)]) → σ2.length = σ.length → (∀ j, idX y ≠ some j → idX x ≠ some j → σ2[j]? = σ[j]?) → KC P M W0 n c σ2 kn T) : KC P M W0 n c σ kn T := by
  cases l with
  | nil =>
    rw [hn rfl] at ho
    exact h σ ho rfl fun _ _ _ => rfl
  | cons a l =>
    generalize hc : ((a :: l).flatMap c2).map XV.d = cs at hy
    have hcl := congrArg List.length hc
    rw [List.length_map, flat_len c2_len] at hcl
    cases hy with
    | nil => simp at hcl
    | @sl id m cs h1 h2 =>
      subst hc
      have hm : m = (a :: l).length := by
        rw [List.length_map, flat_len c2_len] at h2
        exact (Nat.mul_right_cancel (show 0 < 2 by decide) h2).symm
      subst hm
      exact KC.tellK ho h1 (flat_len c2_len _) (hne id rfl) fun σ2 q1 q2 q3 => h σ2 q1 q2 fun j j1 j2 => q3 j (fun e => j1 (by rw [e]; rfl)) j2
end Go.Vm

end
section
/-
  CALLS THAT MAKE A SLICE FOR THEIR CALLER: the first object is kept, the others are forgotten.
-/
namespace Go.Vm
open Go.RowKit
theorem XRep.within2 {w w' : World} {ι ι' ι1 : List Nat} {F F' F1 : Nat → Prop} {v0 : Value} {x : XV} (h : XRep w ι F v0 x) (hpre : ∀ (id b : Nat), ι[id]? = some b → ι'[id]? = some b) (hp1 : ∀ (id b : Nat), ι[id]? = some b → ι1[id]? = some b) (hf : ∀ b, F1 b → F' b) :
    ∀ {v : Value}, XRep w' ι' F' v x → XRep w' ι1 F1 v x := by
  induction h with
  | d _ => intro v k; cases k with | d k => exact .d (k.mono hf)
  | @osl b off len cap id k lo ex hb hl hlo hex hs =>
    intro v k'
    cases k' with
    | osl hb2 hl2 hlo2 hex2 hs2 =>
      have := hpre _ _ hb
      rw [hb2] at this; cases this
      exact .osl (hp1 _ _ hb) hl2 hlo2 hex2 hs2
  | @optr b off id hb =>
    intro v k'
    cases k' with
    | optr hb2 =>
      have := hpre _ _ hb
      rw [hb2] at this; cases this
      exact .optr (hp1 _ _ hb)
  | @tup vs ds hn hx ih =>
    intro v k'
    cases k' with
    | tup hn2 hx2 =>
      refine .tup hn2 fun i u x hu hxd => ?_
      have hlt : i < vs.size := by rw [hn]; exact (List.getElem?_eq_some_iff.1 hxd).1
      exact ih i vs[i] x (Array.getElem?_eq_getElem hlt) hxd (hx2 i u x hu hxd)
  | @agg vs ds hn hx ih =>
    intro v k'
    cases k' with
    | agg hn2 hx2 =>
      refine .agg hn2 fun i u x hu hxd => ?_
      have hlt : i < vs.size := by rw [hn]; exact (List.getElem?_eq_some_iff.1 hxd).1
      exact ih i vs[i] x (Array.getElem?_eq_getElem hlt) hxd (hx2 i u x hu hxd)
  | @fn f vs us ds es hn hx hm hy ih1 ih2 =>
    intro v k'
    cases k' with
    | fn hn2 hx2 hm2 hy2 =>
      refine .fn hn2 (fun i u x hu hxd => ?_) hm2 (fun i u x hu hxd => ?_)
      · have hlt : i < vs.size := by rw [hn]; exact (List.getElem?_eq_some_iff.1 hxd).1
        exact ih1 i vs[i] x (Array.getElem?_eq_getElem hlt) hxd (hx2 i u x hu hxd)
      · have hlt : i < us.size := by rw [hm]; exact (List.getElem?_eq_some_iff.1 hxd).1
        exact ih2 i us[i] x (Array.getElem?_eq_getElem hlt) hxd (hy2 i u x hu hxd)
  | ifc _ ih =>
    intro v k'
    cases k' with
    | ifc k2 => exact .ifc (ih k2)
  | @omp b id hb =>
    intro v k'
    cases k' with
    | omp hb2 =>
      have := hpre _ _ hb
      rw [hb2] at this; cases this
      exact .omp (hp1 _ _ hb)
  | @yl l id hb =>
    intro v k'
    cases k' with
    | yl hb2 =>
      have := hpre _ _ hb
      rw [hb2] at this; cases this
      exact .yl (hp1 _ _ hb)

/-- Some objects that a call made are kept, the others are forgotten. -/
theorem Mem.dropG {M : Nat → Prop} {W0 w w' : World} {ι ι' ι1 : List Nat} {σ σ1 τ : List VObj} (hm : Mem M W0 ι σ w) (hm' : Mem M W0 ι' (σ1 ++ τ) w') (he : Ext M ι σ w ι' (σ1 ++ τ) w') (hlen : ι1.length = σ1.length) (hp1 : ∀ (id b : Nat), ι[id]? = some b → ι1[id]? = some b) (hp2 : ∀ (id b : Nat), ι1[id]? = some b → ι'[id]? = some b)
    (hsame : ∀ (id : Nat) (o : VObj), σ1[id]? = some o → σ[id]? = some o ∨ (o.mode < 2 ∧ ∀ (i : Nat) (x : XV), o.cells[i]? = some x → ∃ d, x = .d d)) :
    Mem M W0 ι1 σ1 w' ∧ Ext M ι σ w ι1 σ1 w' ∧ ∀ b, Forb M ι1 σ1 b → Forb M ι' (σ1 ++ τ) b := by
  have hold : ∀ (id : Nat) (o : VObj) (b : Nat), σ[id]? = some o → ι1[id]? = some b → ι[id]? = some b := fun id o b h hb => by
    have hlt : id < ι.length := by rw [hm.len]; exact (List.getElem?_eq_some_iff.1 h).1
    have h1 := hp1 id ι[id] (List.getElem?_eq_getElem hlt)
    rw [hb] at h1; cases h1
    exact List.getElem?_eq_getElem hlt
  have hget : ∀ (id : Nat) (o : VObj), σ1[id]? = some o → (σ1 ++ τ)[id]? = some o := fun id o h => by
    rw [List.getElem?_append_left (List.getElem?_eq_some_iff.1 h).1]; exact h
  have hmut : ∀ b, Mut ι1 σ1 b → Mut ι' (σ1 ++ τ) b := by
    rintro b ⟨id, o, h1, h2, h3⟩
    exact ⟨id, o, hget id o h1, hp2 _ _ h2, h3⟩
  have hforb : ∀ b, Forb M ι1 σ1 b → Forb M ι' (σ1 ++ τ) b := fun b h => h.imp id (hmut b)
  refine ⟨⟨hlen, ?_, ?_, fun id b h => hm'.fresh id b (hp2 _ _ h), ?_, hm'.below, hm'.outer⟩, ⟨hp1, he.heap, he.size, fun b hb h => he.mt b hb (hmut b h), he.shape, he.loops⟩, hforb⟩
  · intro id o b h1 h2 h3
    obtain ⟨cur, ty, q1, q2, q3⟩ := hm'.objs id o b (hget id o h1) (hp2 _ _ h2) h3
    refine ⟨cur, ty, q1, q2, fun i x hi => ?_⟩
    obtain ⟨v, kv, kx⟩ := q3 i x hi
    refine ⟨v, kv, ?_⟩
    rcases hsame id o h1 with h | ⟨_, h⟩
    · obtain ⟨_, _, _, _, r3⟩ := hm.objs id o b h (hold id o b h h2) h3
      obtain ⟨v0, _, kx0⟩ := r3 i x hi
      exact kx0.within2 he.pre hp1 hforb kx
    · obtain ⟨d, rfl⟩ := h i x hi
      cases kx with | d kx => exact .d (kx.mono hforb)
  · intro id o b h1 h2 h3
    rcases hsame id o h1 with h | ⟨h, _⟩
    · have a := hm.spec id o b h (hold id o b h h2) h3
      have c := hm'.spec id o b (hget id o h1) (hp2 _ _ h2) h3
      rcases c with ⟨c1, es, clock, c2, c3, c4⟩ | c | ⟨c1, r, L, ev, c2, c3, c4, c5, c6⟩
      · rcases a with ⟨_, es0, _, _, a3, a4⟩ | ⟨a, _⟩ | ⟨a, _⟩
        · refine .inl ⟨c1, es, clock, c2, c3, fun i e cc hi hc => ?_⟩
          obtain ⟨x, k1, k2⟩ := c4 i e cc hi hc
          have hlt : i < es0.size := by rw [a3]; exact (List.getElem?_eq_some_iff.1 hc).1
          obtain ⟨x0, k3, k4⟩ := a4 i es0[i] cc (Array.getElem?_eq_getElem hlt) hc
          rw [k1] at k3
          simp only [XV.ent, XV.tup.injEq, List.cons.injEq, and_true] at k3
          refine ⟨x, k1, ?_⟩
          rw [← k3.2] at k4
          exact k4.within2 he.pre hp1 hforb k2
        · omega
        · omega
      · exact .inr (.inl c)
      · rcases a with ⟨a, _⟩ | ⟨a, _⟩ | ⟨_, r0, L0, ev0, _, a3, _, a5, a6⟩
        · omega
        · omega
        · refine .inr (.inr ⟨c1, r, L, ev, c2, c3, c4, c5, fun i v x hv hx => ?_⟩)
          rw [c3] at a3
          have e0 : ev = ev0 := (List.cons.inj a3).2
          subst e0
          have hlt : i < r0.tmps.size := by rw [a5]; exact (List.getElem?_eq_some_iff.1 hx).1
          exact (a6 i r0.tmps[i] x (Array.getElem?_eq_getElem hlt) hx).within2 he.pre hp1 hforb (c6 i v x hv hx)
    · omega
  · intro i j oi oj bi bj hij h1 h2 h3 h4 h5 h6
    exact hm'.apart i j oi oj bi bj hij (hget _ _ h1) (hget _ _ h2) (hp2 _ _ h3) (hp2 _ _ h4) h5 h6

/-- What the call does among the caller's objects: the first slice that it made is kept, what else it made is forgotten. -/
theorem ownKeep_I {P : Program} {f : FuncId} {σ : List VObj} {args : List XV} {ob : VObj} {L : Nat} {ex : Bool} {d : DV} (hob : ob.mode < 2) (hcs : ∀ (i : Nat) (x : XV), ob.cells[i]? = some x → ∃ d, x = .d d)
    (hin0 : ∀ (M : Nat → Prop) (W0 : World), InCall P M W0 f σ args (fun σ2 x => x = .tup [.osl σ.length 0 L 1 L ex, .d d] ∧ ∃ τ, σ2 = (σ ++ [ob]) ++ τ)) :
    OwnCall P f σ args (σ ++ [ob]) (.tup [.osl σ.length 0 L 1 L ex, .d d]) := by
  intro M W0 ι w vs hm hl hx
  have hin := hin0 M W0
  refine (hin ι w vs hm hl hx).mono fun e w' => ?_
  rintro ⟨ι', σ2, x, v, rfl, h1, h2, h3, rfl, τ, rfl⟩
  obtain ⟨b0, hb0⟩ : ∃ b0, ι'[σ.length]? = some b0 := ⟨_, List.getElem?_eq_getElem (show σ.length < ι'.length by rw [h1.len]; simp)⟩
  have hp1 : ∀ (id b : Nat), ι[id]? = some b → (ι ++ [b0])[id]? = some b := fun id b h => by
    rw [List.getElem?_append_left (List.getElem?_eq_some_iff.1 h).1]; exact h
  have hp2 : ∀ (id b : Nat), (ι ++ [b0])[id]? = some b → ι'[id]? = some b := fun id b h => by
    by_cases hid : id < ι.length
    · rw [List.getElem?_append_left hid] at h; exact h2.pre _ _ h
    · rw [List.getElem?_append_right (by omega)] at h
      have h5 := (List.getElem?_eq_some_iff.1 h).1
      simp at h5
      have h6 : id = σ.length := by rw [← hm.len]; omega
      subst h6
      rw [show σ.length - ι.length = 0 by rw [hm.len]; omega] at h
      rw [hb0]; exact h
  obtain ⟨g1, g2, g3⟩ := hm.dropG h1 h2 (ι1 := ι ++ [b0]) (by simp [hm.len]) hp1 hp2 (fun id o ho => by
    by_cases hid : id < σ.length
    · rw [List.getElem?_append_left hid] at ho; exact .inl ho
    · rw [List.getElem?_append_right (by omega)] at ho
      have h5 := (List.getElem?_eq_some_iff.1 ho).1
      simp at h5
      rw [show id - σ.length = 0 by omega] at ho
      simp at ho
      subst ho
      exact .inr ⟨hob, hcs⟩)
  refine ⟨ι ++ [b0], σ ++ [ob], _, v, rfl, g1, g2, ?_, rfl, rfl⟩
  cases h3 with
  | tup hn hx =>
    refine .tup hn fun i u x hu hxd => ?_
    have hxx := hx i u x hu hxd
    match i, hxd with
    | 0, hxd =>
      cases hxd
      cases hxx with
      | osl q1 q2 q3 q4 q5 =>
        refine .osl ?_ q2 q3 q4 q5
        rw [hb0] at q1
        rw [List.getElem?_append_right (by rw [hm.len]; exact Nat.le_refl _)]
        simpa [hm.len] using q1
    | 1, hxd =>
      cases hxd
      cases hxx with
      | d k => exact .d (k.mono g3)
    | i + 2, hxd => simp at hxd
theorem ownDrop_I {P : Program} {f : FuncId} {σ σ1 : List VObj} {args : List XV} {res : DV} (k : Nat) (hs : Same1 σ σ1)
    (hin0 : ∀ (M : Nat → Prop) (W0 : World), InCall P M W0 f σ args (fun σ2 x => ∃ ids τ, freezeIds σ2 ids = σ1 ++ τ ∧ deepen (freezeIds σ2 ids) k x = some res)) :
    OwnCall P f σ args σ1 (.d res) := by
  intro M W0 ι w vs hm hl hx
  refine (hin0 M W0 ι w vs hm hl hx).mono fun e w' => ?_
  rintro ⟨ι', σ2, x, v, rfl, h1, h2, h3, ids, τ, h4, h5⟩
  obtain ⟨f1, f2⟩ := freezeIds_tamed h1 ids
  have hd := deepen_sound f1 k v x res (h3.ext f2) h5
  have he := h2.trans f2
  rw [h4] at f1 he hd
  obtain ⟨g1, g2, g3⟩ := hm.drop f1 he hs
  exact ⟨ι, σ1, .d res, v, rfl, g1, g2, .d (hd.mono g3), rfl, rfl⟩
theorem InCall.weak {P : Program} {M : Nat → Prop} {W0 : World} {f : FuncId} {σ : List VObj} {args : List XV} {Q Q' : List VObj → XV → Prop} (h : InCall P M W0 f σ args Q) (hq : ∀ σ2 x, Q σ2 x → Q' σ2 x) : InCall P M W0 f σ args Q' := by
  intro ι w vs hm hl hx
  refine (h ι w vs hm hl hx).mono fun e w' => ?_
  rintro ⟨ι', σ2, x, v, a, b, c, d, q⟩
  exact ⟨ι', σ2, x, v, a, b, c, d, hq _ _ q⟩
theorem freezeIds_nil (σ : List VObj) : freezeIds σ [] = σ := by
  unfold freezeIds
  apply List.ext_getElem?
  intro i
  rw [List.getElem?_mapIdx]
  cases σ[i]? <;> simp
section
variable {P : Program} {σ : List VObj} {kn : Kn} {dst : Option Tmp} {ty : TypeId} {pos : String} {af : Array Edge} {g : Option (Nat × Bool)}
theorem K.extractY {x : Operand} {i : Nat} {xs : List XV} {c : XV} (hx : evK kn x = some (.tup xs)) (hc : xs[i]? = some c) : KEv P ⟨dst, .extract x i, ty, pos, af, g⟩ σ kn c σ 0 := ev_op fun env he => by
  have e1 := evK_evalX he hx
  unfold evalOp
  rw [litOp_none (x := x) (by simp [Op.operands]) (by rw [e1]; rfl)]
  simp [e1, opExtract, hc]
end
end Go.Vm

end
section
/-
  Batch: what an order is (pure): read by sorting, and read by marks.
-/
namespace Go.Ba
open Go.Vm Go.Ht

theorem perm_of_sub : ∀ {l m : List Int}, l.Nodup → (∀ x ∈ l, x ∈ m) → m.length ≤ l.length → l.Perm m
  | [], m, _, _, h => by
    have : m = [] := List.length_eq_zero_iff.1 (by simpa using h)
    subst this; exact .refl _
  | a :: l, m, hn, hs, h => by
    have ha := hs a (by simp)
    have hn2 := List.nodup_cons.1 hn
    have h1 : l.Perm (m.erase a) := perm_of_sub hn2.2 (fun x hx => by
      have hx2 := hs x (by simp [hx])
      exact (List.mem_erase_of_ne (fun e : x = a => hn2.1 (by rw [← e]; exact hx))).2 hx2) (by rw [List.length_erase_of_mem ha]; simp at h; omega)
    exact (h1.cons a).trans (List.perm_cons_erase ha).symm
theorem len_of_sub : ∀ {l m : List Int}, l.Nodup → (∀ x ∈ l, x ∈ m) → l.length ≤ m.length
  | [], m, _, _ => by simp
  | a :: l, m, hn, hs => by
    have ha := hs a (by simp)
    have hn2 := List.nodup_cons.1 hn
    have h1 := len_of_sub (m := m.erase a) hn2.2 (fun x hx => by
      have hx2 := hs x (by simp [hx])
      exact (List.mem_erase_of_ne (fun e : x = a => hn2.1 (by rw [← e]; exact hx))).2 hx2)
    rw [List.length_erase_of_mem ha] at h1
    have : 0 < m.length := List.length_pos_of_mem ha
    simp; omega
theorem rowI_nodup (ops : List (Int × Int)) (m : Int) : (rowI ops m).Nodup := (rowI_lt ops m).imp fun h => by omega
theorem sort_eq {l : List Int} {ops : List (Int × Int)} {m : Int} (h : l.Perm (rowI ops m)) : sortI l = rowI ops m :=
  List.Perm.eq_of_pairwise (le := (· ≤ ·)) (fun a b _ _ h1 h2 => by omega) (sortI_sorted l) ((rowI_lt ops m).imp fun h => by omega) ((sortI_perm l).trans h)
theorem perm_of_sort {l : List Int} {ops : List (Int × Int)} {m : Int} (h : sortI l = rowI ops m) : l.Perm (rowI ops m) := h ▸ (sortI_perm l).symm
/-- Some different operations of machine m. -/
def RowOk (ops : List (Int × Int)) (m : Int) (r : List Int) : Prop := (∀ x ∈ r, x ∈ rowI ops m) ∧ r.Nodup

theorem sum_set : ∀ (L : List (List Int)) (m : Nat) (r : List Int) (h : m < L.length), r.length = L[m].length + 1 → ((L.set m r).map List.length).sum = (L.map List.length).sum + 1
  | [], m, _, h, _ => absurd h (Nat.not_lt_zero _)
  | a :: L, 0, r, _, e => by simp at e ⊢; omega
  | a :: L, m + 1, r, h, e => by
    have := sum_set L m r (by simpa using h) (by simpa using e)
    simp at this ⊢; omega
theorem sum_msO {M : Nat} {ops : List (Int × Int)} (hm : ∀ o ∈ ops, 0 ≤ o.1 ∧ o.1 < M) : ∀ k, k ≤ ops.length → ((msO M (ops.take k)).map List.length).sum = k
  | 0, _ => by
    have : ∀ M : Nat, ((msO M []).map List.length).sum = 0 := fun M => by
      induction M with
      | zero => rfl
      | succ M ih =>
        unfold msO at ih ⊢
        rw [List.range_succ, List.map_append, List.map_append, List.sum_append, ih]; rfl
    simpa using this M
  | k + 1, h => by
    have ih := sum_msO hm k (by omega)
    have ho := hm ops[k] (List.getElem_mem _)
    have e : ops[k].1 = ((ops[k].1.toNat : Nat) : Int) := by omega
    rw [List.take_succ_eq_append_getElem h, msO_snoc (m := ops[k].1.toNat) (by omega) e, sum_set _ _ _ (by rw [msO_len]; omega) (by simp [msO]), ih]
theorem sum_all {M : Nat} {ops : List (Int × Int)} (hm : ∀ o ∈ ops, 0 ≤ o.1 ∧ o.1 < M) : ((msO M ops).map List.length).sum = ops.length := by
  have := sum_msO hm ops.length (Nat.le_refl _)
  rwa [List.take_length] at this
theorem flat_sum (l : List (List Int)) : l.flatten.length = (l.map List.length).sum := by simp [List.length_flatten]
theorem pt_eq : ∀ (A B : List (List Int)), A.length = B.length → (∀ i (h1 : i < A.length) (h2 : i < B.length), A[i].length ≤ B[i].length) → (B.map List.length).sum ≤ (A.map List.length).sum → ∀ i (h1 : i < A.length) (h2 : i < B.length), A[i].length = B[i].length
  | [], _, _, _, _, i, h1, _ => absurd h1 (Nat.not_lt_zero _)
  | a :: A, [], hl, _, _, _, _, _ => by simp at hl
  | a :: A, b :: B, hl, hle, hs, i, h1, h2 => by
    have h0 := hle 0 (by simp) (by simp)
    simp only [List.getElem_cons_zero] at h0
    simp only [List.map_cons, List.sum_cons] at hs
    have hle2 : ∀ i (h1 : i < A.length) (h2 : i < B.length), A[i].length ≤ B[i].length := fun i h1 h2 => by
      have := hle (i + 1) (by simp; omega) (by simp; omega)
      simpa using this
    have hsum : (A.map List.length).sum ≤ (B.map List.length).sum := by
      have : ∀ (A B : List (List Int)), A.length = B.length → (∀ i (h1 : i < A.length) (h2 : i < B.length), A[i].length ≤ B[i].length) → (A.map List.length).sum ≤ (B.map List.length).sum := by
        intro A
        induction A with
        | nil => simp
        | cons a A ih =>
          intro B hl h
          cases B with
          | nil => simp at hl
          | cons b B =>
            have h0 := h 0 (by simp) (by simp)
            have h1 := ih B (by simpa using hl) fun i h1 h2 => by
              have := h (i + 1) (by simp; omega) (by simp; omega)
              simpa using this
            simp at h0 h1 ⊢; omega
      exact this A B (by simpa using hl) hle2
    cases i with
    | zero => simp; omega
    | succ i =>
      have := pt_eq A B (by simpa using hl) hle2 (by omega) i (by simpa using h1) (by simpa using h2)
      simpa using this
/-- An order: read by sorting each machine's slice. -/
def ordB (M : Nat) (ops : List (Int × Int)) (l : List (List Int)) : Bool := decide (l.map sortI = msO M ops)
theorem ordB_row {M : Nat} {ops : List (Int × Int)} {l : List (List Int)} (h : ordB M ops l = true) : l.length = M ∧ ∀ (m : Nat) (hm : m < l.length), l[m].Perm (rowI ops (m : Int)) := by
  have e := of_decide_eq_true h
  have hl : l.length = M := by have := congrArg List.length e; simpa [msO_len] using this
  refine ⟨hl, fun m hm => perm_of_sort ?_⟩
  have h1 : (l.map sortI)[m]? = (msO M ops)[m]? := by rw [e]
  rw [List.getElem?_map, List.getElem?_eq_getElem hm] at h1
  simp only [msO, List.getElem?_map, List.getElem?_range (show m < M by omega), Option.map_some, Option.some.injEq] at h1
  exact h1
theorem ordB_no {M : Nat} {ops : List (Int × Int)} {l : List (List Int)} {m : Nat} (hm : m < l.length) (h : ¬ RowOk ops m l[m]) : ordB M ops l = false := by
  rw [← Bool.not_eq_true]
  intro hb
  have hp := (ordB_row hb).2 m hm
  exact h ⟨fun x hx => hp.mem_iff.1 hx, hp.nodup_iff.2 (rowI_nodup ops m)⟩
theorem ordB_iff {M : Nat} {ops : List (Int × Int)} {l : List (List Int)} (hops : ∀ o ∈ ops, 0 ≤ o.1 ∧ o.1 < M) (h : ∀ (m : Nat) (hm : m < l.length), RowOk ops m l[m]) : ordB M ops l = true ↔ l.length = M ∧ l.flatten.length = ops.length := by
  constructor
  · intro hb
    obtain ⟨h1, h2⟩ := ordB_row hb
    refine ⟨h1, ?_⟩
    rw [flat_sum, ← sum_all hops]
    have e := of_decide_eq_true hb
    rw [← e, List.map_map]
    congr 1
    apply List.map_congr_left
    intro r _
    simp [length_sortI]
  · rintro ⟨h1, h2⟩
    refine decide_eq_true ?_
    have hle : ∀ i (h1 : i < l.length) (h2 : i < (msO M ops).length), l[i].length ≤ (msO M ops)[i].length := fun i h3 h4 => by
      simp only [msO, List.getElem_map, List.getElem_range]
      exact len_of_sub (h i h3).2 (h i h3).1
    have heq := pt_eq l (msO M ops) (by rw [msO_len]; exact h1) hle (by rw [sum_all hops, ← flat_sum l, h2]; exact Nat.le_refl _)
    apply List.ext_getElem
    · rw [List.length_map, msO_len, h1]
    · intro i h3 h4
      rw [List.length_map] at h3
      have e := heq i h3 h4
      rw [List.getElem_map]
      simp only [msO, List.getElem_map, List.getElem_range] at e ⊢
      exact sort_eq (perm_of_sub (h i h3).2 (h i h3).1 (by omega))
/-- Marks. -/
def bsX (l : List Bool) : List XV := l.map fun b => XV.d (DB b)
theorem bsX_len (l : List Bool) : (bsX l).length = l.length := by simp [bsX]
theorem bsX_get {l : List Bool} {i : Nat} (h : i < l.length) : (bsX l)[0 + i]? = some (.d (DB (l.getD i false))) := by
  rw [Nat.zero_add]; simp [bsX, h]
theorem bsX_set {l : List Bool} {i : Nat} {b : Bool} : (bsX l).set (0 + i) (.d (DB b)) = bsX (l.set i b) := by
  rw [Nat.zero_add]; unfold bsX; rw [List.map_set]
theorem countT_set : ∀ (l : List Bool) (i : Nat), i < l.length → l.getD i false = false → (l.set i true).countP id = l.countP id + 1
  | [], i, h, _ => absurd h (Nat.not_lt_zero _)
  | b :: l, 0, _, e => by simp at e; subst e; simp
  | b :: l, i + 1, h, e => by
    have := countT_set l i (by simpa using h) (by simpa using e)
    rw [List.set_cons_succ, List.countP_cons, List.countP_cons]; omega
end Go.Ba

end
section
/-
  CYCLES that are given, and potentials.
-/
namespace Go.Cy

def nx (c : List Int) (k : Nat) : Int := c.getD ((k + 1) % c.length) 0
theorem mul_bd {a b x y : Int} (hx : -a ≤ x ∧ x ≤ a) (hy : -b ≤ y ∧ y ≤ b) (ha : 0 ≤ a) (hb : 0 ≤ b) : -(a * b) ≤ x * y ∧ x * y ≤ a * b := by
  have h1 : (x * y).natAbs ≤ a.natAbs * b.natAbs := by rw [Int.natAbs_mul]; exact Nat.mul_le_mul (by omega) (by omega)
  have h2 : ((a.natAbs * b.natAbs : Nat) : Int) = a * b := by rw [Int.natCast_mul]; congr 1 <;> omega
  omega
end Go.Cy

end
section
/-
  GAINS OVER A MEAN, WAYS, and how large they are.
-/
namespace Go.Cy
open Go.Vm

def gainI (a : Nat → Nat → Int) (p q : Int) (i j : Nat) : Int := if a i j = Nv then Nv else q * a i j - p
def stayI (n : Nat) (a : Nat → Nat → Int) (i j : Nat) : Int := gre [oneI n i j, a i j]
def waysI (n : Nat) (a : Nat → Nat → Int) : Nat → Nat → Int := pwI n (stayI n a) (n - 1)

theorem mul_bd' {x y b c : Int} (hx : -b ≤ x ∧ x ≤ b) (hy : 0 ≤ y ∧ y ≤ c) (hb : 0 ≤ b) : -(b * c) ≤ y * x ∧ y * x ≤ b * c := by
  have := mul_bd (a := b) (b := c) hx (y := y) (by omega) hb (by omega)
  rw [Int.mul_comm y x]; exact this
theorem gain_good {a : Nat → Nat → Int} {b c : Int} {p q : Int} (ha : GoodM b a) (hb : 0 ≤ b) (hq : 0 < q ∧ q ≤ c) (hp : -(b * q) ≤ p ∧ p ≤ b * q) : GoodM (2 * (b * c)) (gainI a p q) := fun i j => by
  unfold gainI
  split
  · exact .inl rfl
  · rename_i h
    have h1 := (ha i j).resolve_left h
    have h2 := mul_bd' h1 (y := q) (c := c) ⟨by omega, hq.2⟩ hb
    have h3 : b * q ≤ b * c := Int.mul_le_mul_of_nonneg_left hq.2 hb
    exact .inr (by omega)
theorem gain_dec {a : Nat → Nat → Int} {b c : Int} {p q : Int} (ha : GoodM b a) (hb : 0 ≤ b) (hq : 0 < q ∧ q ≤ c) (hp : -(b * q) ≤ p ∧ p ≤ b * q) (hB : 2 * (b * c) ≤ 1000000000000) : DM (gainI a p q) = gain (DM a) p q := by
  funext i j
  have hg := gain_good ha hb hq hp i j
  show dec (gainI a p q i j) = (dec (a i j)).map _
  unfold gainI at hg ⊢
  split
  · rename_i h; rw [h, dec_nv]; rfl
  · rename_i h
    rw [if_neg h] at hg
    rw [dec_some h]
    have h1 := (ha i j).resolve_left h
    have h2 := mul_bd' h1 (y := q) (c := c) ⟨by omega, hq.2⟩ hb
    have h3 : b * q ≤ b * c := Int.mul_le_mul_of_nonneg_left hq.2 hb
    rw [dec_some (by unfold Nv; omega)]; rfl

theorem gre_two {x y : Int} (hx : Nv ≤ x) (_ : Nv ≤ y) : gre [x, y] = max x y := by
  show max (max Nv x) y = _
  rw [Int.max_eq_right hx]
theorem stay_good {n : Nat} {a : Nat → Nat → Int} {b : Int} (ha : GoodM b a) (hb : 0 ≤ b) : GoodM b (stayI n a) := fun i j => gre_good fun x hx => by
  simp only [List.mem_cons, List.not_mem_nil, or_false] at hx
  rcases hx with rfl | rfl
  · exact one_good n hb i j
  · exact ha i j
theorem stay_dec {n : Nat} {a : Nat → Nat → Int} {b : Int} (ha : GoodM b a) (hb : 0 ≤ b) (hB : b ≤ 1000000000000) : DM (stayI n a) = tmx (tone n) (DM a) := by
  funext i j
  show dec (gre _) = omax (tone n i j) (dec (a i j))
  have h1 := (one_good n hb i j).ge hB
  have h2 := (ha i j).ge hB
  rw [gre_two h1 h2, max_dec h1 h2]
  congr 1
  exact congrFun (congrFun (one_dec n) i) j
theorem ways_dec {n : Nat} {a : Nat → Nat → Int} {b : Int} (ha : GoodM b a) (hb : 0 ≤ b) (hs : Sup n (DM a)) (hB : b ≤ 1000000000000) (hB2 : ((n - 1 : Nat) : Int) * b ≤ 1000000000000) : DM (waysI n a) = star n (DM a) := by
  unfold waysI star
  rw [pw_dec (stay_good ha hb) hb hB2, stay_dec ha hb hB, tsum_pow hs]
/-- How large a mean can be. -/
theorem pow_bd {n : Nat} {a : Nat → Nat → Int} {b : Int} (ha : GoodM b a) (hb : 0 ≤ b) : ∀ (k : Nat) {i j : Nat} {w : Int}, tpow n (DM a) k i j = some w → -((k : Int) * b) ≤ w ∧ w ≤ (k : Int) * b
  | 0, i, j, w, h => by
    have h' : tone n i j = some w := h
    unfold tone at h'
    split at h'
    · cases h'; simp
    · cases h'
  | k + 1, i, j, w, h => by
    obtain ⟨l, x, y, _, hx, hy, rfl⟩ := mul_some h
    have h1 := pow_bd ha hb k hx
    have hy' : dec (a l j) = some y := hy
    unfold dec at hy'
    split at hy'
    · cases hy'
    · rename_i hne
      cases hy'
      have h2 := (ha l j).resolve_left hne
      rw [Int.natCast_add, Int.add_mul]
      simp; omega
theorem mean_bd {n : Nat} {a : Nat → Nat → Int} {b p q : Int} (ha : GoodM b a) (hb : 0 ≤ b) (h : MeanOf n (DM a) p q) : -(b * q) ≤ p ∧ p ≤ b * q := by
  obtain ⟨k, c, w, h1, h2, h3⟩ := h.eq
  have h4 := pow_bd ha hb k h2
  have hq := h.pos
  have hk : (0 : Int) < k := by omega
  have e1 : q * w ≤ q * ((k : Int) * b) := Int.mul_le_mul_of_nonneg_left h4.2 (by omega)
  have e2 : q * -((k : Int) * b) ≤ q * w := Int.mul_le_mul_of_nonneg_left h4.1 (by omega)
  have a1 : q * ((k : Int) * b) = (k : Int) * (b * q) := by simp only [Int.mul_comm, Int.mul_left_comm, Int.mul_assoc]
  have a2 : q * -((k : Int) * b) = (k : Int) * -(b * q) := by rw [Int.mul_neg, a1, Int.mul_neg]
  constructor
  · refine Int.le_of_mul_le_mul_left (a := (k : Int)) ?_ hk
    rw [Int.mul_comm (k : Int) p]; omega
  · refine Int.le_of_mul_le_mul_left (a := (k : Int)) ?_ hk
    rw [Int.mul_comm (k : Int) p]; omega
theorem mean_den {n : Nat} {a : Nat → Nat → Int} (hn : 0 < n) {m : Int × Int} (h : meanI n a = some m) : 0 < m.2 ∧ m.2 ≤ n := by
  unfold meanI at h
  cases ht : topI n a n with
  | none => rw [ht] at h; cases h
  | some r =>
    rw [ht] at h
    cases h
    obtain ⟨⟨i, h1, h2, h3⟩, _⟩ := (top_spec hn).2 r ht
    obtain ⟨⟨k0, s1, s2⟩, _⟩ := rate_spec (a := a) (j := i) hn (Nat.le_refl n)
    have hr2 : 0 < r.2 ∧ r.2 ≤ n := by rw [h3, s2]; simp only; omega
    have := (low_spec hr2.1).1
    refine ⟨this, ?_⟩
    have hle : (lowI r).2 ≤ r.2 := by
      show r.2.tdiv _ ≤ _
      rw [Int.tdiv_eq_ediv_of_nonneg (by omega)]
      exact Int.ediv_le_self _ (by omega)
    omega
/-- What is known of the mean of a small matrix. -/
structure Small (n : Nat) (a : Nat → Nat → Int) : Prop where
  n1 : 1 ≤ n
  n6 : n ≤ 6
  ga : GoodM 1000 a
  sup : Sup n (DM a)
theorem Small.of {m : List (List Int)} (h : validB 1000 m = true) : Small m.length (mf m) ∧ m = genM m.length m.length (mf m) := by
  obtain ⟨h1, h2, h3, h4, h5⟩ := valid_of h
  exact ⟨⟨h1, h2, h4, h5⟩, h3⟩
theorem Small.mean {n : Nat} {a : Nat → Nat → Int} (h : Small n a) {p q : Int} (hm : meanI n a = some (p, q)) : MeanOf n (DM a) p q ∧ Int.gcd p q = 1 ∧ (0 < q ∧ q ≤ 6) ∧ (-(1000 * q) ≤ p ∧ p ≤ 1000 * q) ∧ GoodM 12000 (gainI a p q) ∧ DM (gainI a p q) = gain (DM a) p q ∧ Sup n (DM (gainI a p q)) := by
  have n1 := h.n1
  have n6 := h.n6
  obtain ⟨h1, h2⟩ := mean_some (by omega) h.ga (by omega) h.sup (by omega) hm
  have h3 := mean_den (by omega) hm
  have h4 := mean_bd h.ga (by omega) h1
  simp only at h1 h2 h3 h4
  have e := gain_dec h.ga (by omega) (q := q) (c := 6) ⟨h3.1, by omega⟩ h4 (by omega)
  exact ⟨h1, h2, ⟨h3.1, by omega⟩, h4, gain_good h.ga (by omega) (c := 6) ⟨h3.1, by omega⟩ h4, e, by rw [e]; exact gain_sup h.sup _ _⟩
theorem Small.none {n : Nat} {a : Nat → Nat → Int} (h : Small n a) (hm : meanI n a = none) : ∀ k c, 0 < k → tpow n (DM a) k c c = none :=
  mean_none (by have := h.n1; omega) h.ga (by omega) h.sup (by have := h.n6; omega) hm
end Go.Cy

end
