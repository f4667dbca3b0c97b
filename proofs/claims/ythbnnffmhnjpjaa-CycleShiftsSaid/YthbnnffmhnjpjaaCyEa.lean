import Derived.Test.YthbnnffmhnjpjaaCyQ
/-
  THE FIRST CRITICAL CYCLE, and what a cycle with a potential proves.
-/
namespace Go.Cy
open Go.Vm

def pathL (A : TM) : Nat → List Nat → O
  | _, [] => some 0
  | x, y :: r => oadd (A x y) (pathL A y r)
theorem pathL_wt (A : TM) : ∀ (r : List Nat) (x : Nat), wt A (fun t => (x :: r).getD t 0) r.length = pathL A x r
  | [], _ => rfl
  | y :: r, x => by
    show wt A _ (r.length + 1) = oadd (A x y) (pathL A y r)
    rw [Nat.add_comm, wt_add, ← pathL_wt A r y]
    have h1 : wt A (fun t => (x :: y :: r).getD t 0) 1 = A x y := zero_add _
    rw [h1]
    congr 1
    exact wt_congr fun m _ => by simp [Nat.add_comm 1 m]

/-- The next node of the first best way. -/
def nextI (n : Nat) (g : Nat → Nat → Int) (first l at_ : Nat) : Nat :=
  ((List.range n).find? fun x => decide (aft (pwI n g 1 at_ x) (pwI n g (l + 1) x first) = pwI n g (l + 2) at_ first)).getD at_
def trc (n : Nat) (g : Nat → Nat → Int) (first : Nat) : Nat → Nat → List Nat
  | 0, _ => []
  | l + 1, at_ => nextI n g first l at_ :: trc n g first l (nextI n g first l at_)
theorem trc_len (n : Nat) (g : Nat → Nat → Int) (first : Nat) : ∀ l at_, (trc n g first l at_).length = l
  | 0, _ => rfl
  | l + 1, at_ => by simp [trc, trc_len n g first l]
def hasZ (n : Nat) (g : Nat → Nat → Int) (k : Nat) : Bool := decide (pwI n g (k + 1) (leastC (pwI n g (k + 1)) n) (leastC (pwI n g (k + 1)) n) = 0)
def critL (n : Nat) (g : Nat → Nat → Int) (k : Nat) : List Nat := leastC (pwI n g (k + 1)) n :: trc n g (leastC (pwI n g (k + 1)) n) k (leastC (pwI n g (k + 1)) n)
def critI (n : Nat) (g : Nat → Nat → Int) : List Int := match (List.range n).find? (hasZ n g) with
  | none => []
  | some k => (critL n g k).map fun x => ((x : Nat) : Int)

theorem hasZ_of {n : Nat} {g : Nat → Nat → Int} {k i : Nat} (hi : i < n) (h : pwI n g (k + 1) i i = 0) : hasZ n g k = true := by
  obtain ⟨_, h2⟩ := firstZ_spec (P := pwI n g (k + 1)) (n := n) (k := n) (Nat.le_refl _) ⟨i, by omega, hi, h⟩
  exact decide_eq_true h2
theorem GSt.cell {n : Nat} {g : Nat → Nat → Int} (h : GSt n g) {k i j : Nat} {w : Int} (hk : k ≤ 1000) : tpow n (DM g) k i j = some w ↔ pwI n g k i j = w ∧ w ≠ Nv := by
  rw [← h.pow hk]
  show dec _ = some w ↔ _
  unfold dec
  split
  · rename_i e
    exact ⟨fun h => (by cases h), fun ⟨h1, h2⟩ => absurd (h1.symm.trans e) h2⟩
  · rename_i e
    constructor
    · intro h; cases h; exact ⟨rfl, e⟩
    · intro ⟨h1, _⟩; rw [h1]
/-- There is a closed path of weight 0 with at most n arcs. -/
theorem short_zero {n : Nat} {A : TM} (hs : Sup n A) (hp : NP n A) : ∀ (L c : Nat), 0 < L → tpow n A L c c = some 0 → ∃ k i, 0 < k ∧ k ≤ n ∧ tpow n A k i i = some 0 := by
  intro L
  induction L using Nat.strongRecOn with
  | _ L ih =>
    intro c hL hc
    by_cases hn : L ≤ n
    · exact ⟨L, c, hL, hn, hc⟩
    · obtain ⟨p, h1, h2, h3, h4⟩ := pow_wt hs hc
      obtain ⟨s, t, a1, a2, a3⟩ := pigeon n p fun m hm => h4 m (by omega)
      obtain ⟨w1, w2, c1, c2, b1, _, _, b4, b5⟩ := cut_path hs a1 (by omega) a3 h3 h4
      have u1 := hp (t - s) (p s) (by omega) c1 b4
      rw [h1, h2] at b5
      have u2 := hp (L - (t - s)) c (by omega) c2 b5
      exact ⟨t - s, p s, by omega, by omega, by rw [b4, show c1 = 0 by omega]⟩

theorem next_spec {n : Nat} {g : Nat → Nat → Int} (h : GSt n g) {first l at_ : Nat} {w : Int} (hl : l ≤ 100) (hw : tpow n (DM g) (l + 2) at_ first = some w) :
    ∃ x y, DM g at_ (nextI n g first l at_) = some x ∧ tpow n (DM g) (l + 1) (nextI n g first l at_) first = some y ∧ w = x + y := by
  have h0 := (h.cell (by omega)).1 hw
  have hw' := hw
  rw [tpow_left h.sup] at hw'
  obtain ⟨q, x, y, hq, hx, hy, e⟩ := mul_some hw'
  have hx1 : tpow n (DM g) 1 at_ q = some x := by rw [tpow_one h.sup]; exact hx
  have hx2 := (h.cell (by omega)).1 hx1
  have hy2 := (h.cell (by omega)).1 hy
  have hq2 : (fun z => decide (aft (pwI n g 1 at_ z) (pwI n g (l + 1) z first) = pwI n g (l + 2) at_ first)) q = true := by
    simp only [decide_eq_true_eq]
    rw [hx2.1, hy2.1, h0.1]
    unfold aft
    rw [if_neg (by rintro (k | k); exact hx2.2 k; exact hy2.2 k), e]
  cases hf : (List.range n).find? fun z => decide (aft (pwI n g 1 at_ z) (pwI n g (l + 1) z first) = pwI n g (l + 2) at_ first) with
  | none =>
    have := List.find?_eq_none.1 hf q (List.mem_range.2 hq)
    exact absurd hq2 this
  | some r =>
    have hr : nextI n g first l at_ = r := by unfold nextI; rw [hf]; rfl
    have hr2 := List.find?_some hf
    simp only [decide_eq_true_eq] at hr2
    rw [h0.1] at hr2
    rw [hr]
    have n1 : pwI n g 1 at_ r ≠ Nv := fun k => by unfold aft at hr2; rw [if_pos (.inl k)] at hr2; exact h0.2 hr2.symm
    have n2 : pwI n g (l + 1) r first ≠ Nv := fun k => by unfold aft at hr2; rw [if_pos (.inr k)] at hr2; exact h0.2 hr2.symm
    refine ⟨pwI n g 1 at_ r, pwI n g (l + 1) r first, ?_, (h.cell (by omega)).2 ⟨rfl, n2⟩, ?_⟩
    · have := (h.cell (k := 1) (by omega)).2 ⟨rfl, n1⟩
      rwa [tpow_one h.sup] at this
    · unfold aft at hr2
      rw [if_neg (by rintro (k | k); exact n1 k; exact n2 k)] at hr2
      exact hr2.symm
theorem trc_path {n : Nat} {g : Nat → Nat → Int} (h : GSt n g) (first : Nat) : ∀ (l at_ : Nat) (w : Int), l ≤ 100 → tpow n (DM g) (l + 1) at_ first = some w → pathL (DM g) at_ (trc n g first l at_ ++ [first]) = some w
  | 0, at_, w, _, hw => by
    rw [tpow_one h.sup] at hw
    show oadd (DM g at_ first) (some 0) = some w
    rw [add_zero]; exact hw
  | l + 1, at_, w, hl, hw => by
    obtain ⟨x, y, h1, h2, e⟩ := next_spec h (by omega) hw
    show oadd (DM g at_ (nextI n g first l at_)) (pathL (DM g) _ (trc n g first l _ ++ [first])) = some w
    rw [h1, trc_path h first l _ y (by omega) h2, e]; rfl

/-- THE FIRST CRITICAL CYCLE is a cycle with the mean. -/
theorem Small.crit {n : Nat} {a : Nat → Nat → Int} (h : Small n a) {p q : Int} (hm : meanI n a = some (p, q)) : cycP n a (critI n (gainI a p q)) ∧ 0 < (critI n (gainI a p q)).length ∧ wtS a (critI n (gainI a p q)) (critI n (gainI a p q)).length * q = p * ((critI n (gainI a p q)).length : Nat) := by
  have hg := h.gst hm
  have n6 := h.n6
  obtain ⟨_, _, m3, m4, _, _, _⟩ := h.mean hm
  generalize hG : gainI a p q = g at hg
  obtain ⟨L0, c0, z1, z2⟩ := hg.zero
  obtain ⟨k1, i1, z3, z4, z5⟩ := short_zero hg.sup hg.np L0 c0 z1 z2
  have hi1 : i1 < n := Classical.byContradiction fun hn => by rw [tpow_sup hg.sup _ _ _ fun e => hn e.1] at z5; cases z5
  have hz1 : hasZ n g (k1 - 1) = true := hasZ_of hi1 (by rw [show k1 - 1 + 1 = k1 by omega]; exact ((hg.cell (by omega)).1 z5).1)
  cases hf : (List.range n).find? (hasZ n g) with
  | none => exact absurd hz1 (List.find?_eq_none.1 hf _ (List.mem_range.2 (by omega)))
  | some k =>
    have hk := List.mem_range.1 (List.mem_of_find?_eq_some hf)
    have hmin : ∀ j, j < k → hasZ n g j = false := by
      have := (List.find?_range_eq_some.1 hf).2.2
      intro j hj; simpa using this j hj
    have hkz := List.find?_some hf
    have hC : critI n g = (critL n g k).map fun x => ((x : Nat) : Int) := by unfold critI; rw [hf]
    generalize hi : leastC (pwI n g (k + 1)) n = i at *
    have hii : tpow n (DM g) (k + 1) i i = some 0 := (hg.cell (by omega)).2 ⟨by have := of_decide_eq_true hkz; rwa [hi] at this, by decide⟩
    have hpath := trc_path hg i k i 0 (by omega) hii
    rw [← pathL_wt] at hpath
    have hlen : (trc n g i k i ++ [i]).length = k + 1 := by simp [trc_len]
    rw [hlen] at hpath
    let P : Nat → Nat := fun t => (i :: (trc n g i k i ++ [i])).getD t 0
    have hP : wt (DM g) P (k + 1) = some 0 := hpath
    have hcl : critL n g k = i :: trc n g i k i := by unfold critL; rw [hi]
    have hPc : ∀ t, t ≤ k → (critL n g k).getD t 0 = P t := by
      intro t ht
      rw [hcl]
      show (i :: trc n g i k i).getD t 0 = (i :: (trc n g i k i ++ [i])).getD t 0
      cases t with
      | zero => rfl
      | succ t =>
        simp only [List.getD_eq_getElem?_getD, List.getElem?_cons_succ]
        rw [List.getElem?_append_left (by rw [trc_len]; omega)]
    have hP0 : P 0 = i := rfl
    have hPk : P (k + 1) = i := by
      show (i :: (trc n g i k i ++ [i])).getD (k + 1) 0 = i
      simp only [List.getD_eq_getElem?_getD, List.getElem?_cons_succ]
      rw [List.getElem?_append_right (by rw [trc_len]; omega), trc_len]; simp
    -- every arc is one
    have harc : ∀ t, t ≤ k → ∃ x, DM g (P t) (P (t + 1)) = some x := by
      intro t ht
      have e : wt (DM g) P (k + 1) = oadd (wt (DM g) P (t + 1)) (wt (DM g) (fun m => P (t + 1 + m)) (k - t)) := by rw [← wt_add]; congr 1; omega
      rw [hP] at e
      obtain ⟨x, _, h1, _, _⟩ := add_some.1 e.symm
      obtain ⟨_, y, _, h3, _⟩ := add_some.1 (show oadd (wt (DM g) P t) (DM g (P t) (P (t + 1))) = some x from h1)
      exact ⟨y, h3⟩
    have hPn : ∀ t, t ≤ k + 1 → P t < n := by
      intro t ht
      by_cases e : t = k + 1
      · subst e
        obtain ⟨x, hx⟩ := harc k (Nat.le_refl _)
        exact Classical.byContradiction fun hn => by rw [hg.sup _ _ fun e => hn e.2] at hx; cases hx
      · obtain ⟨x, hx⟩ := harc t (by omega)
        exact Classical.byContradiction fun hn => by rw [hg.sup _ _ fun e => hn e.1] at hx; cases hx
    have hdif : ∀ s t, s < t → t ≤ k → P s ≠ P t := by
      intro s t hst htk he
      obtain ⟨w1, w2, c1, c2, b1, _, _, b4, b5⟩ := cut_path hg.sup hst (show t ≤ k + 1 by omega) he hP hPn
      have u1 := hg.np (t - s) (P s) (by omega) c1 b4
      rw [hP0, hPk] at b5
      have u2 := hg.np (k + 1 - (t - s)) i (by omega) c2 b5
      have hz : tpow n (DM g) (t - s) (P s) (P s) = some 0 := by rw [b4, show c1 = 0 by omega]
      have h1 := hasZ_of (k := t - s - 1) (hPn s (by omega)) (by rw [show t - s - 1 + 1 = t - s by omega]; exact ((hg.cell (by omega)).1 hz).1)
      rw [hmin (t - s - 1) (by omega)] at h1; cases h1
    have hga : ∀ x y z, DM g x y = some z → a x y ≠ Nv ∧ z = q * a x y - p := by
      intro x y z hz
      rw [← hG] at hz
      have hz' : dec (gainI a p q x y) = some z := hz
      unfold gainI dec at hz'
      by_cases e : a x y = Nv
      · rw [if_pos e, if_pos rfl] at hz'; cases hz'
      · rw [if_neg e] at hz'
        refine ⟨e, ?_⟩
        split at hz'
        · cases hz'
        · cases hz'; rfl
    have hlenC : (critI n g).length = k + 1 := by rw [hC, List.length_map, hcl]; simp [trc_len]
    have hget : ∀ t, t ≤ k → (critI n g).getD t 0 = (P t : Int) := by
      intro t ht
      rw [hC]
      have := hPc t ht
      rw [List.getD_eq_getElem?_getD, List.getElem?_map]
      rw [List.getD_eq_getElem?_getD] at this
      have hl : t < (critL n g k).length := by rw [hcl]; simp [trc_len]; omega
      rw [List.getElem?_eq_getElem hl] at this ⊢
      simp only [Option.map_some, Option.getD_some] at this ⊢
      rw [this]
    have hnx : ∀ t, t ≤ k → nx (critI n g) t = (P (t + 1) : Int) := by
      intro t ht
      unfold nx
      rw [hlenC]
      by_cases e : t = k
      · subst e; rw [Nat.mod_self, hget 0 (by omega), hPk]; rfl
      · rw [Nat.mod_eq_of_lt (by omega), hget (t + 1) (by omega)]
    have harcI : ∀ t, t ≤ k → arcI a (critI n g) t = a (P t) (P (t + 1)) := by
      intro t ht; unfold arcI; rw [hget t ht, hnx t ht]; simp
    have hsum : ∀ t, t ≤ k + 1 → wt (DM g) P t = some (q * wtS a (critI n g) t - p * (t : Int)) := by
      intro t
      induction t with
      | zero => intro _; simp [wt, wtS]
      | succ t ih =>
        intro ht
        show oadd (wt (DM g) P t) (DM g (P t) (P (t + 1))) = _
        obtain ⟨x, hx⟩ := harc t (by omega)
        obtain ⟨_, e2⟩ := hga _ _ x hx
        rw [ih (by omega), hx, e2]
        simp only [oadd, wtS, harcI t (by omega), Int.mul_add, Int.natCast_add, Option.some.injEq]
        simp; omega
    refine ⟨fun t ht => ⟨?_, ?_, ?_, ?_⟩, by omega, ?_⟩
    · rw [hget t (by omega)]; have := hPn t (by omega); exact ⟨by omega, by omega⟩
    · rw [hnx t (by omega)]; have := hPn (t + 1) (by omega); exact ⟨by omega, by omega⟩
    · intro s hs
      rw [hget s (by omega), hget t (by omega)]
      have := hdif s t hs (by omega); omega
    · rw [harcI t (by omega)]
      obtain ⟨x, hx⟩ := harc t (by omega)
      exact (hga _ _ x hx).1
    · have := hsum (k + 1) (Nat.le_refl _)
      rw [hP] at this
      rw [hlenC]
      have h2 : (0 : Int) = q * wtS a (critI n g) (k + 1) - p * ((k + 1 : Nat) : Int) := by simpa using this
      rw [Int.mul_comm]; omega

/-- A potential bounds every path. -/
theorem pot_path {n : Nat} {a : Nat → Nat → Int} {v : List Int} {num den : Int} (hs : Sup n (DM a)) (hd : 0 < den) (h : potP n a v num den) : ∀ (k i j : Nat) (w : Int), tpow n (DM a) k i j = some w → den * w + v.getD j 0 ≤ num * (k : Int) + v.getD i 0
  | 0, i, j, w, hw => by
    have hw' : tone n i j = some w := hw
    unfold tone at hw'
    split at hw'
    · rename_i e; obtain ⟨rfl, _⟩ := e; cases hw'; simp
    · cases hw'
  | k + 1, i, j, w, hw => by
    obtain ⟨l, x, y, hl, hx, hy, rfl⟩ := mul_some hw
    have ih := pot_path hs hd h k i l x hx
    have hy' : dec (a l j) = some y := hy
    unfold dec at hy'
    split at hy'
    · cases hy'
    · rename_i hne
      cases hy'
      have hj : j < n := Classical.byContradiction fun hn => by rw [hs _ _ fun e => hn e.2] at hy; cases hy
      have := h.2.2 l hl j hj hne
      have e1 : num * ((k + 1 : Nat) : Int) = num * (k : Int) + num := by rw [Int.natCast_add, Int.mul_add]; simp
      rw [Int.mul_add, e1]; omega
/-- A cycle is a closed path. -/
theorem cyc_path {n : Nat} {a : Nat → Nat → Int} {c : List Int} (hs : Sup n (DM a)) (h : cycP n a c) (h0 : 0 < c.length) : ∃ i w, tpow n (DM a) c.length i i = some w ∧ wtS a c c.length ≤ w := by
  let P : Nat → Nat := fun t => (c.getD (t % c.length) 0).toNat
  have hP : ∀ t, t < c.length → P t = (c.getD t 0).toNat ∧ P (t + 1) = (nx c t).toNat := fun t ht => by
    refine ⟨?_, rfl⟩
    show (c.getD (t % c.length) 0).toNat = _
    rw [Nat.mod_eq_of_lt ht]
  have hw : ∀ t, t ≤ c.length → wt (DM a) P t = some (wtS a c t) := by
    intro t
    induction t with
    | zero => intro _; rfl
    | succ t ih =>
      intro ht
      show oadd (wt (DM a) P t) (DM a (P t) (P (t + 1))) = _
      obtain ⟨_, _, _, h4⟩ := h t (by omega)
      rw [ih (by omega), (hP t (by omega)).1, (hP t (by omega)).2]
      have : DM a (c.getD t 0).toNat (nx c t).toNat = some (arcI a c t) := dec_some h4
      rw [this]; rfl
  have hn : P 0 < n := by
    have := (h 0 h0).1
    rw [(hP 0 h0).1]; unfold inN at this; omega
  obtain ⟨w, h1, h2⟩ := wt_pow (n := n) hs hn (hw c.length (Nat.le_refl _))
  have hc : P c.length = P 0 := by show (c.getD (c.length % c.length) 0).toNat = (c.getD (0 % c.length) 0).toNat; rw [Nat.mod_self, Nat.zero_mod]
  rw [hc] at h1
  exact ⟨P 0, w, h1, h2⟩
/-- DUALITY: a cycle and a potential prove the mean. -/
theorem mean_of_check {n : Nat} {a : Nat → Nat → Int} {c v : List Int} {num den : Int} (hs : Sup n (DM a)) (hd : 0 < den) (hc : cycP n a c) (h0 : 0 < c.length) (hw : wtS a c c.length * den = num * (c.length : Nat)) (hp : potP n a v num den) : MeanOf n (DM a) num den := by
  obtain ⟨i, w, h1, h2⟩ := cyc_path hs hc h0
  have h3 := pot_path hs hd hp c.length i i w h1
  refine ⟨hd, fun k i w hk hw => ?_, c.length, i, w, h0, h1, ?_⟩
  · have := pot_path hs hd hp k i i w hw; omega
  · have h4 := Int.mul_le_mul_of_nonneg_left h2 (Int.le_of_lt hd)
    rw [Int.mul_comm] at hw; omega

/-- The potential of the ways. -/
def potI (n : Nat) (g : Nat → Nat → Int) (i : Nat) : Int := greR n (waysI n g i)
theorem greR_ge {k q : Nat} {f : Nat → Int} (hq : q < k) : f q ≤ greR k f := by
  induction k with
  | zero => omega
  | succ k ih =>
    rw [greR_succ]
    by_cases e : q = k
    · subst e; omega
    · have := ih (by omega); omega
theorem greR_at : ∀ {k : Nat} {f : Nat → Int}, greR k f ≠ Nv → ∃ q, q < k ∧ f q = greR k f
  | 0, f, h => absurd rfl h
  | k + 1, f, h => by
    rw [greR_succ] at h ⊢
    by_cases e : greR k f ≤ f k
    · exact ⟨k, by omega, by omega⟩
    · obtain ⟨q, h1, h2⟩ := greR_at (k := k) (f := f) (by omega)
      exact ⟨q, by omega, by omega⟩
theorem GSt.pot {n : Nat} {g : Nat → Nat → Int} (h : GSt n g) : (∀ i, i < n → 0 ≤ potI n g i ∧ potI n g i ≤ 60000) ∧ ∀ i, i < n → ∀ j, j < n → g i j ≠ Nv → g i j + potI n g j ≤ potI n g i := by
  have hW : ∀ i j w, star n (DM g) i j = some w ↔ waysI n g i j = w ∧ w ≠ Nv := by
    intro i j w
    rw [← h.ways]
    show dec _ = some w ↔ _
    unfold dec
    split
    · rename_i e; exact ⟨fun h => (by cases h), fun ⟨h1, h2⟩ => absurd (h1.symm.trans e) h2⟩
    · rename_i e
      constructor
      · intro h; cases h; exact ⟨rfl, e⟩
      · intro ⟨h1, _⟩; rw [h1]
  have hnn : ∀ i, i < n → 0 ≤ potI n g i := fun i hi => by
    have h0 := ((hW i i 0).1 (star_zero h.sup h.np hi)).1
    have := greR_ge (f := waysI n g i) hi
    unfold potI; omega
  have hat : ∀ i, i < n → ∃ l, l < n ∧ waysI n g i l = potI n g i := fun i hi => greR_at (by have := hnn i hi; unfold potI Nv at *; omega)
  refine ⟨fun i hi => ⟨hnn i hi, ?_⟩, fun i hi j hj hne => ?_⟩
  · obtain ⟨l, _, e⟩ := hat i hi
    have := h.wgood i l
    rw [e] at this
    rcases this with k | k
    · have := hnn i hi; unfold Nv at k; omega
    · omega
  · obtain ⟨l, hl, e⟩ := hat j hj
    have hjn := hnn j hj
    obtain ⟨k, hk⟩ := star_some ((hW j l _).2 ⟨e, by unfold Nv; omega⟩)
    obtain ⟨w, h1, h2⟩ := mul_ge (n := n) (A := DM g) (i := i) hj (dec_some hne) hk
    rw [← tpow_left h.sup] at h1
    obtain ⟨w', h3, h4⟩ := star_ge h.sup h.np h1
    have h5 := ((hW i l w').1 h3).1
    have := greR_ge (f := waysI n g i) hl
    unfold potI at *; omega
end Go.Cy

