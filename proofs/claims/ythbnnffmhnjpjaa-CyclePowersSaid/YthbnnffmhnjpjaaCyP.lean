/-
  THE ALGEBRA OF TIMES, without any program: sums are maxima, products are sums; none is 'never'.
-/
namespace Go.Cy

abbrev O := Option Int

/-- a is at most u. -/
def Ub (a : O) (u : Int) : Prop := ∀ x, a = some x → x ≤ u

theorem ub_ext {a b : O} (h : ∀ u, Ub a u ↔ Ub b u) : a = b := by
  cases a with
  | none =>
    cases b with
    | none => rfl
    | some y => have := (h (y - 1)).1 (fun x hx => by cases hx) y rfl; omega
  | some x =>
    cases b with
    | none => have := (h (x - 1)).2 (fun x hx => by cases hx) x rfl; omega
    | some y =>
      have h1 := (h y).2 (fun z hz => by cases hz; omega) x rfl
      have h2 := (h x).1 (fun z hz => by cases hz; omega) y rfl
      rw [show x = y by omega]

def omax : O → O → O
  | none, b => b
  | a, none => a
  | some x, some y => some (max x y)
def oadd : O → O → O
  | some x, some y => some (x + y)
  | _, _ => none

theorem ub_max {a b : O} {u : Int} : Ub (omax a b) u ↔ Ub a u ∧ Ub b u := by
  cases a with
  | none => exact ⟨fun h => ⟨fun x hx => (by cases hx), h⟩, fun h => h.2⟩
  | some x =>
    cases b with
    | none => exact ⟨fun h => ⟨h, fun x hx => by cases hx⟩, fun h => h.1⟩
    | some y =>
      constructor
      · intro h
        have := h (max x y) rfl
        exact ⟨fun z hz => by cases hz; omega, fun z hz => by cases hz; omega⟩
      · intro ⟨h1, h2⟩ z hz
        have e1 := h1 x rfl
        have e2 := h2 y rfl
        cases hz; omega

/-- The greatest of f 0 .. f (n - 1). -/
def osup : Nat → (Nat → O) → O
  | 0, _ => none
  | n + 1, f => omax (osup n f) (f n)

theorem ub_sup {f : Nat → O} {u : Int} : ∀ {n : Nat}, Ub (osup n f) u ↔ ∀ k, k < n → Ub (f k) u
  | 0 => ⟨fun _ k h => by omega, fun _ x hx => by cases hx⟩
  | n + 1 => by
    rw [osup, ub_max, ub_sup]
    constructor
    · intro ⟨h1, h2⟩ k hk
      by_cases e : k = n
      · subst e; exact h2
      · exact h1 k (by omega)
    · intro h; exact ⟨fun k hk => h k (by omega), h n (by omega)⟩

/-- It is one of them. -/
theorem sup_some {f : Nat → O} {w : Int} : ∀ {n : Nat}, osup n f = some w → ∃ k, k < n ∧ f k = some w
  | 0, h => by cases h
  | n + 1, h => by
    rw [osup] at h
    cases ha : osup n f with
    | none =>
      rw [ha] at h
      exact ⟨n, by omega, by cases hb : f n <;> rw [hb] at h <;> exact h⟩
    | some x =>
      rw [ha] at h
      cases hb : f n with
      | none =>
        rw [hb] at h
        obtain ⟨k, hk, e⟩ := sup_some (f := f) (n := n) (ha.trans h)
        exact ⟨k, by omega, e⟩
      | some y =>
        rw [hb] at h
        simp only [omax, Option.some.injEq] at h
        by_cases hxy : x ≤ y
        · exact ⟨n, by omega, by rw [hb, ← h, Int.max_eq_right hxy]⟩
        · obtain ⟨k, hk, e⟩ := sup_some (f := f) (n := n) ha
          exact ⟨k, by omega, by rw [e, ← h, Int.max_eq_left (by omega)]⟩

theorem sup_none {f : Nat → O} {n : Nat} : osup n f = none ↔ ∀ k, k < n → f k = none := by
  constructor
  · intro h k hk
    cases hf : f k with
    | none => rfl
    | some x =>
      have h1 : Ub (osup n f) (x - 1) := by rw [h]; intro z hz; cases hz
      have := ub_sup.1 h1 k hk x hf; omega
  · intro h
    cases hs : osup n f with
    | none => rfl
    | some x => obtain ⟨k, hk, e⟩ := sup_some hs; rw [h k hk] at e; cases e

theorem sup_ge {f : Nat → O} {n k : Nat} {x : Int} (hk : k < n) (hf : f k = some x) : ∃ y, osup n f = some y ∧ x ≤ y := by
  cases hs : osup n f with
  | none => rw [sup_none.1 hs k hk] at hf; cases hf
  | some y =>
    have h1 : Ub (osup n f) y := by rw [hs]; intro z hz; cases hz; omega
    exact ⟨y, rfl, ub_sup.1 h1 k hk x hf⟩

theorem sup_congr {f g : Nat → O} {n : Nat} (h : ∀ k, k < n → f k = g k) : osup n f = osup n g :=
  ub_ext fun u => by rw [ub_sup, ub_sup]; exact ⟨fun k i hi => by rw [← h i hi]; exact k i hi, fun k i hi => by rw [h i hi]; exact k i hi⟩

theorem max_comm (a b : O) : omax a b = omax b a := ub_ext fun u => by rw [ub_max, ub_max]; exact And.comm
theorem max_assoc (a b c : O) : omax (omax a b) c = omax a (omax b c) := ub_ext fun u => by simp only [ub_max]; exact and_assoc
theorem max_self (a : O) : omax a a = a := ub_ext fun u => by rw [ub_max]; exact and_self_iff
theorem max_none (a : O) : omax a none = a := by cases a <;> rfl

theorem ub_add {a b : O} {u : Int} : Ub (oadd a b) u ↔ ∀ x y, a = some x → b = some y → x + y ≤ u := by
  constructor
  · intro h x y hx hy; subst hx hy; exact h _ rfl
  · intro h z hz
    cases a with
    | none => cases hz
    | some x => cases b with
      | none => cases hz
      | some y => cases hz; exact h x y rfl rfl
theorem add_some {a b : O} {w : Int} : oadd a b = some w ↔ ∃ x y, a = some x ∧ b = some y ∧ w = x + y := by
  constructor
  · intro h
    cases a with
    | none => cases h
    | some x => cases b with
      | none => cases h
      | some y => cases h; exact ⟨x, y, rfl, rfl, rfl⟩
  · rintro ⟨x, y, rfl, rfl, rfl⟩; rfl
theorem add_comm (a b : O) : oadd a b = oadd b a := by
  cases a <;> cases b <;> simp [oadd, Int.add_comm]
theorem add_none (a : O) : oadd a none = none := by cases a <;> rfl
theorem none_add (a : O) : oadd none a = none := rfl
theorem add_zero (a : O) : oadd a (some 0) = a := by cases a <;> simp [oadd]
theorem zero_add (a : O) : oadd (some 0) a = a := by cases a <;> simp [oadd]

/-- Matrices of n rows: outside of them there is never anything. -/
abbrev TM := Nat → Nat → O
def Sup (n : Nat) (A : TM) : Prop := ∀ i j, ¬ (i < n ∧ j < n) → A i j = none
def tone (n : Nat) : TM := fun i j => if i = j ∧ i < n then some 0 else none
def tmul (n : Nat) (A B : TM) : TM := fun i j => osup n fun k => oadd (A i k) (B k j)
def tmx (A B : TM) : TM := fun i j => omax (A i j) (B i j)
def tpow (n : Nat) (A : TM) : Nat → TM
  | 0 => tone n
  | k + 1 => tmul n (tpow n A k) A

theorem tone_sup (n : Nat) : Sup n (tone n) := fun i j h => by
  unfold tone; rw [if_neg]; rintro ⟨rfl, h2⟩; exact h ⟨h2, h2⟩
theorem tmul_sup {n : Nat} {A B : TM} (ha : Sup n A) (hb : Sup n B) : Sup n (tmul n A B) := fun i j h => sup_none.2 fun k hk => by
  by_cases hi : i < n
  · rw [hb k j (fun h2 => h ⟨hi, h2.2⟩), add_none]
  · rw [ha i k (fun h2 => hi h2.1), none_add]
theorem tpow_sup {n : Nat} {A : TM} (ha : Sup n A) : ∀ k, Sup n (tpow n A k)
  | 0 => tone_sup n
  | k + 1 => tmul_sup (tpow_sup ha k) ha
theorem tmx_sup {n : Nat} {A B : TM} (ha : Sup n A) (hb : Sup n B) : Sup n (tmx A B) := fun i j h => by
  unfold tmx; rw [ha i j h, hb i j h]; rfl

theorem ub_mul {n : Nat} {A B : TM} {i j : Nat} {u : Int} : Ub (tmul n A B i j) u ↔ ∀ k x y, k < n → A i k = some x → B k j = some y → x + y ≤ u := by
  unfold tmul; rw [ub_sup]
  constructor
  · intro h k x y hk hx hy; exact ub_add.1 (h k hk) x y hx hy
  · intro h k hk; exact ub_add.2 fun x y hx hy => h k x y hk hx hy
theorem mul_some {n : Nat} {A B : TM} {i j : Nat} {w : Int} (h : tmul n A B i j = some w) : ∃ k x y, k < n ∧ A i k = some x ∧ B k j = some y ∧ w = x + y := by
  obtain ⟨k, hk, h⟩ := sup_some h
  obtain ⟨x, y, h1, h2, h3⟩ := add_some.1 h
  exact ⟨k, x, y, hk, h1, h2, h3⟩
theorem mul_ge {n : Nat} {A B : TM} {i j k : Nat} {x y : Int} (hk : k < n) (hx : A i k = some x) (hy : B k j = some y) : ∃ w, tmul n A B i j = some w ∧ x + y ≤ w :=
  sup_ge hk (add_some.2 ⟨x, y, hx, hy, rfl⟩)

theorem tmul_assoc {n : Nat} (A B C : TM) : tmul n (tmul n A B) C = tmul n A (tmul n B C) := by
  funext i j
  refine ub_ext fun u => ?_
  rw [ub_mul, ub_mul]
  constructor
  · intro h k x y hk hx hy
    obtain ⟨l, p, q, hl, hp, hq, rfl⟩ := mul_some hy
    obtain ⟨w, hw, hle⟩ := mul_ge (n := n) hk hx hp
    have := h l w q hl hw hq; omega
  · intro h k x y hk hx hy
    obtain ⟨l, p, q, hl, hp, hq, rfl⟩ := mul_some hx
    obtain ⟨w, hw, hle⟩ := mul_ge (n := n) hk hq hy
    have := h l p w hl hp hw; omega

theorem tmul_one {n : Nat} {A : TM} (ha : Sup n A) : tmul n A (tone n) = A := by
  funext i j
  refine ub_ext fun u => ?_
  rw [ub_mul]
  constructor
  · intro h x hx
    by_cases hij : i < n ∧ j < n
    · have := h j x 0 hij.2 hx (by unfold tone; rw [if_pos ⟨rfl, hij.2⟩]); omega
    · rw [ha i j hij] at hx; cases hx
  · intro h k x y hk hx hy
    unfold tone at hy
    split at hy
    · rename_i e; obtain ⟨rfl, _⟩ := e; cases hy; have := h x hx; omega
    · cases hy
theorem one_tmul {n : Nat} {A : TM} (ha : Sup n A) : tmul n (tone n) A = A := by
  funext i j
  refine ub_ext fun u => ?_
  rw [ub_mul]
  constructor
  · intro h x hx
    by_cases hij : i < n ∧ j < n
    · have := h i 0 x hij.1 (by unfold tone; rw [if_pos ⟨rfl, hij.1⟩]) hx; omega
    · rw [ha i j hij] at hx; cases hx
  · intro h k x y hk hx hy
    unfold tone at hx
    split at hx
    · rename_i e; obtain ⟨rfl, _⟩ := e; cases hx; have := h y hy; omega
    · cases hx

theorem tpow_add {n : Nat} {A : TM} (ha : Sup n A) (j : Nat) : ∀ k, tpow n A (j + k) = tmul n (tpow n A j) (tpow n A k)
  | 0 => (tmul_one (tpow_sup ha j)).symm
  | k + 1 => by
    show tmul n (tpow n A (j + k)) A = _
    rw [tpow_add ha j k, tmul_assoc]; rfl
theorem tpow_one {n : Nat} {A : TM} (ha : Sup n A) : tpow n A 1 = A := one_tmul ha

theorem tmul_mx {n : Nat} (A B C : TM) : tmul n A (tmx B C) = tmx (tmul n A B) (tmul n A C) := by
  funext i j
  refine ub_ext fun u => ?_
  show _ ↔ Ub (omax _ _) u
  rw [ub_max, ub_mul, ub_mul, ub_mul]
  constructor
  · intro h
    refine ⟨fun k x y hk hx hy => ?_, fun k x y hk hx hy => ?_⟩
    · cases hc : C k j with
      | none => exact h k x y hk hx (by unfold tmx; rw [hy, hc]; rfl)
      | some z => have := h k x (max y z) hk hx (by unfold tmx; rw [hy, hc]; rfl); omega
    · cases hc : B k j with
      | none => exact h k x y hk hx (by unfold tmx; rw [hy, hc]; rfl)
      | some z => have := h k x (max z y) hk hx (by unfold tmx; rw [hy, hc]; rfl); omega
  · intro ⟨h1, h2⟩ k x y hk hx hy
    unfold tmx at hy
    cases hb : B k j with
    | none =>
      rw [hb] at hy
      exact h2 k x y hk hx (by cases hc : C k j <;> rw [hc] at hy <;> exact hy)
    | some p =>
      cases hc : C k j with
      | none => rw [hb, hc] at hy; exact h1 k x y hk hx (hb.trans hy)
      | some q =>
        rw [hb, hc] at hy
        have e1 := h1 k x p hk hx hb
        have e2 := h2 k x q hk hx hc
        cases hy; omega

/-- The greatest of the powers 0 .. k. -/
def tsum (n : Nat) (A : TM) : Nat → TM
  | 0 => tone n
  | k + 1 => tmx (tsum n A k) (tpow n A (k + 1))

theorem ub_tsum {n : Nat} {A : TM} {i j : Nat} {u : Int} : ∀ {k : Nat}, Ub (tsum n A k i j) u ↔ ∀ m, m ≤ k → Ub (tpow n A m i j) u
  | 0 => ⟨fun h m hm => by rw [show m = 0 by omega]; exact h, fun h => h 0 (Nat.le_refl _)⟩
  | k + 1 => by
    show Ub (omax _ _) u ↔ _
    rw [ub_max, ub_tsum]
    constructor
    · intro ⟨h1, h2⟩ m hm
      by_cases e : m = k + 1
      · subst e; exact h2
      · exact h1 m (by omega)
    · intro h; exact ⟨fun m hm => h m (by omega), h _ (Nat.le_refl _)⟩

theorem tsum_mul {n : Nat} {A : TM} (k : Nat) {i j : Nat} {u : Int} : Ub (tmul n (tsum n A k) A i j) u ↔ ∀ m, m ≤ k → Ub (tpow n A (m + 1) i j) u := by
  have key : ∀ k, tmul n (tsum n A k) A i j = osup (k + 1) fun m => tpow n A (m + 1) i j := by
    intro k
    refine ub_ext fun u => ?_
    rw [ub_sup, ub_mul]
    constructor
    · intro h m hm
      refine ub_mul.2 fun l x y hl hx hy => ?_
      have : ∃ x', tsum n A k i l = some x' ∧ x ≤ x' := by
        cases hs : tsum n A k i l with
        | none =>
          have h1 : Ub (tsum n A k i l) (x - 1) := by rw [hs]; intro z hz; cases hz
          have := ub_tsum.1 h1 m (by omega) x hx; omega
        | some z =>
          have h1 : Ub (tsum n A k i l) z := by rw [hs]; intro a b; cases b; omega
          exact ⟨z, rfl, ub_tsum.1 h1 m (by omega) x hx⟩
      obtain ⟨x', hx', hle⟩ := this
      have := h l x' y hl hx' hy; omega
    · intro h l x y hl hx hy
      have : Ub (tsum n A k i l) (u - y) := ub_tsum.2 fun m hm z hz => by
        have := ub_mul.1 (h m (by omega)) l z y hl hz hy; omega
      have := this x hx; omega
  rw [key, ub_sup]
  exact ⟨fun h m hm => h m (by omega), fun h m hm => h m (by omega)⟩

theorem tsum_sup {n : Nat} {A : TM} (ha : Sup n A) : ∀ k, Sup n (tsum n A k)
  | 0 => tone_sup n
  | k + 1 => tmx_sup (tsum_sup ha k) (tpow_sup ha _)

/-- .. is a power of the greatest of the unit and the matrix. -/
theorem tsum_pow {n : Nat} {A : TM} (ha : Sup n A) : ∀ k, tpow n (tmx (tone n) A) k = tsum n A k
  | 0 => rfl
  | k + 1 => by
    show tmul n (tpow n _ k) _ = _
    rw [tsum_pow ha k, tmul_mx]
    rw [tmul_one (tsum_sup ha k)]
    funext i j
    refine ub_ext fun u => ?_
    show Ub (omax _ _) u ↔ Ub (omax _ _) u
    rw [ub_max, ub_max, tsum_mul, ub_tsum]
    constructor
    · intro ⟨h1, h2⟩; exact ⟨h1, h2 k (Nat.le_refl _)⟩
    · intro ⟨h1, h2⟩
      refine ⟨h1, fun m hm => ?_⟩
      by_cases e : m = k
      · subst e; exact h2
      · exact h1 (m + 1) (by omega)

/-- Numbers, with one for never. -/
def Nv : Int := -1099511627776
def dec (x : Int) : O := if x = Nv then none else some x
def Good (b x : Int) : Prop := x = Nv ∨ (-b ≤ x ∧ x ≤ b)
def aft (x y : Int) : Int := if x = Nv ∨ y = Nv then Nv else x + y
def gre (l : List Int) : Int := l.foldl max Nv
def oneI (n i j : Nat) : Int := if i = j ∧ i < n then 0 else Nv
def prodI (n : Nat) (a b : Nat → Nat → Int) (i j : Nat) : Int := gre ((List.range n).map fun k => aft (a i k) (b k j))
def DM (a : Nat → Nat → Int) : TM := fun i j => dec (a i j)
def GoodM (b : Int) (a : Nat → Nat → Int) : Prop := ∀ i j, Good b (a i j)

theorem dec_inj {x y : Int} (h : dec x = dec y) : x = y := by
  unfold dec at h
  split at h <;> split at h <;> simp_all
theorem dec_nv : dec Nv = none := by simp [dec]
theorem dec_some {x : Int} (h : x ≠ Nv) : dec x = some x := by simp [dec, h]
theorem Good.mono {b c x : Int} (h : Good b x) (hbc : b ≤ c) : Good c x := h.imp id fun h => by omega
theorem Good.ne {b x : Int} (h : -b ≤ x ∧ x ≤ b) (hb : b ≤ 1000000000000) : x ≠ Nv := by unfold Nv; omega

theorem aft_dec {b c x y : Int} (hx : Good b x) (hy : Good c y) (hbc : b + c ≤ 1000000000000) : dec (aft x y) = oadd (dec x) (dec y) := by
  unfold aft
  split
  · rename_i h
    rcases h with rfl | rfl
    · rw [dec_nv]; rfl
    · rw [dec_nv, add_none]
  · rename_i h
    simp only [not_or] at h
    rw [dec_some h.1, dec_some h.2]
    rcases hx with hx | hx
    · exact absurd hx h.1
    rcases hy with hy | hy
    · exact absurd hy h.2
    rw [dec_some (by unfold Nv; omega)]; rfl
theorem aft_good {b c x y : Int} (hx : Good b x) (hy : Good c y) : Good (b + c) (aft x y) := by
  unfold aft
  split
  · exact .inl rfl
  · rename_i h
    simp only [not_or] at h
    rcases hx with hx | hx
    · exact absurd hx h.1
    rcases hy with hy | hy
    · exact absurd hy h.2
    exact .inr (by omega)
theorem max_dec {x y : Int} (hx : Nv ≤ x) (hy : Nv ≤ y) : dec (max x y) = omax (dec x) (dec y) := by
  unfold dec
  by_cases h1 : x = Nv <;> by_cases h2 : y = Nv
  · subst h1 h2; simp [omax]
  · subst h1; rw [if_pos rfl, if_neg h2, if_neg (by omega), Int.max_eq_right hy]; rfl
  · subst h2; rw [if_pos rfl, if_neg h1, if_neg (by omega), Int.max_eq_left hx]; rfl
  · rw [if_neg h1, if_neg h2, if_neg (by omega)]; rfl
theorem Good.ge {b x : Int} (h : Good b x) (hb : b ≤ 1000000000000) : Nv ≤ x := by
  rcases h with h | h
  · omega
  · unfold Nv; omega
theorem max_good {b x y : Int} (hx : Good b x) (hy : Good b y) : Good b (max x y) := by
  rcases Int.le_total x y with h | h
  · rw [Int.max_eq_right h]; exact hy
  · rw [Int.max_eq_left h]; exact hx

theorem foldl_snoc (l : List Int) (x z : Int) : (l ++ [x]).foldl max z = max (l.foldl max z) x := by simp
theorem gre_good {b : Int} {l : List Int} (h : ∀ x ∈ l, Good b x) : Good b (gre l) := by
  have key : ∀ (l : List Int) (z : Int), Good b z → (∀ x ∈ l, Good b x) → Good b (l.foldl max z) := by
    intro l
    induction l with
    | nil => intro z hz _; exact hz
    | cons x l ih => intro z hz hl; exact ih _ (max_good hz (hl x (by simp))) fun y hy => hl y (by simp [hy])
  exact key l Nv (.inl rfl) h
theorem gre_range {b : Int} (hb : b ≤ 1000000000000) {f : Nat → Int} : ∀ {n : Nat}, (∀ k, k < n → Good b (f k)) → dec (gre ((List.range n).map f)) = osup n fun k => dec (f k)
  | 0, _ => dec_nv
  | n + 1, h => by
    rw [List.range_succ, List.map_append]
    simp only [List.map_cons, List.map_nil]
    rw [show gre (List.map f (List.range n) ++ [f n]) = max (gre ((List.range n).map f)) (f n) from foldl_snoc _ _ _]
    have hg : Good b (gre ((List.range n).map f)) := gre_good fun x hx => by
      obtain ⟨k, hk, rfl⟩ := List.mem_map.1 hx
      exact h k (by have := List.mem_range.1 hk; omega)
    rw [max_dec (hg.ge hb) ((h n (by omega)).ge hb), osup]
    congr 1
    exact gre_range hb fun k hk => h k (by omega)

theorem prod_good {n : Nat} {b c : Int} {A B : Nat → Nat → Int} (ha : GoodM b A) (hb : GoodM c B) : GoodM (b + c) (prodI n A B) := fun i j => gre_good fun x hx => by
  obtain ⟨k, _, rfl⟩ := List.mem_map.1 hx
  exact aft_good (ha i k) (hb k j)
theorem prod_dec {n : Nat} {b c : Int} {A B : Nat → Nat → Int} (ha : GoodM b A) (hb : GoodM c B) (h : b + c ≤ 1000000000000) : DM (prodI n A B) = tmul n (DM A) (DM B) := by
  funext i j
  show dec (gre _) = _
  rw [gre_range h fun k _ => aft_good (ha i k) (hb k j)]
  exact sup_congr fun k _ => aft_dec (ha i k) (hb k j) h
theorem one_dec (n : Nat) : DM (oneI n) = tone n := by
  funext i j
  show dec (oneI n i j) = tone n i j
  unfold oneI tone
  split
  · exact dec_some (by unfold Nv; omega)
  · exact dec_nv
theorem one_good (n : Nat) {b : Int} (hb : 0 ≤ b) : GoodM b (oneI n) := fun i j => by
  unfold oneI; split
  · exact .inr (by omega)
  · exact .inl rfl
theorem DM_inj {A B : Nat → Nat → Int} (h : DM A = DM B) : A = B := by
  funext i j; exact dec_inj (congrFun (congrFun h i) j)

/-- Powers by squares. -/
def sqI (n : Nat) (a : Nat → Nat → Int) (k : Nat) : Nat → Nat → Int :=
  if h : k = 0 then oneI n else
    let s := sqI n a (k / 2)
    if k % 2 = 1 then prodI n (prodI n s s) a else prodI n s s
termination_by k
decreasing_by omega

theorem sqI_zero (n : Nat) (a : Nat → Nat → Int) : sqI n a 0 = oneI n := by rw [sqI]; rfl
theorem sqI_odd {n : Nat} {a : Nat → Nat → Int} {k : Nat} (h : k % 2 = 1) : sqI n a k = prodI n (prodI n (sqI n a (k / 2)) (sqI n a (k / 2))) a := by
  rw [sqI, dif_neg (by omega)]; simp only [if_pos h]
theorem sqI_even {n : Nat} {a : Nat → Nat → Int} {k : Nat} (h0 : k ≠ 0) (h : k % 2 ≠ 1) : sqI n a k = prodI n (sqI n a (k / 2)) (sqI n a (k / 2)) := by
  rw [sqI, dif_neg h0]; simp only [if_neg h]

/-- Powers, one factor after another. -/
def pwI (n : Nat) (a : Nat → Nat → Int) : Nat → Nat → Nat → Int
  | 0 => oneI n
  | k + 1 => prodI n (pwI n a k) a

theorem pw_good {n : Nat} {b : Int} {a : Nat → Nat → Int} (ha : GoodM b a) (hb : 0 ≤ b) : ∀ k : Nat, GoodM (k * b) (pwI n a k)
  | 0 => one_good n (by omega)
  | k + 1 => by
    have := prod_good (n := n) (pw_good (n := n) ha hb k) ha
    rwa [show (((k + 1 : Nat) : Int) * b) = (k : Int) * b + b by rw [Int.natCast_add, Int.add_mul]; simp]
theorem pw_dec {n : Nat} {b : Int} {a : Nat → Nat → Int} (ha : GoodM b a) (hb : 0 ≤ b) : ∀ {k : Nat}, (k : Int) * b ≤ 1000000000000 → DM (pwI n a k) = tpow n (DM a) k
  | 0, _ => one_dec n
  | k + 1, h => by
    have e : (((k + 1 : Nat) : Int) * b) = (k : Int) * b + b := by rw [Int.natCast_add, Int.add_mul]; simp
    show DM (prodI n (pwI n a k) a) = _
    rw [prod_dec (pw_good ha hb k) ha (by omega), pw_dec ha hb (by omega)]; rfl
theorem sq_pw {n : Nat} {b : Int} {a : Nat → Nat → Int} (ha : GoodM b a) (hb : 0 ≤ b) (hs : Sup n (DM a)) (k : Nat) (h : (k : Int) * b ≤ 1000000000000) : sqI n a k = pwI n a k := by
  induction k using Nat.strongRecOn with
  | _ k ih =>
    by_cases h0 : k = 0
    · subst h0; rw [sqI_zero]; rfl
    have hk2 : ((k / 2 : Nat) : Int) * b ≤ (k : Int) * b := Int.mul_le_mul_of_nonneg_right (by omega) hb
    have e := ih (k / 2) (by omega) (by omega)
    have hg := pw_good (n := n) ha hb (k / 2)
    have h2 : ((k / 2 : Nat) : Int) * b + ((k / 2 : Nat) : Int) * b ≤ (k : Int) * b := by
      rw [← Int.add_mul]; exact Int.mul_le_mul_of_nonneg_right (by omega) hb
    have hd := pw_dec (n := n) ha hb (k := k / 2) (by omega)
    by_cases hk : k % 2 = 1
    · rw [sqI_odd hk, e]
      refine DM_inj ?_
      have h3 : ((k / 2 : Nat) : Int) * b + ((k / 2 : Nat) : Int) * b + b = (k : Int) * b := by
        have := congrArg (· * b) (show (k : Int) = ((k / 2 : Nat) : Int) + ((k / 2 : Nat) : Int) + 1 by omega)
        simp only [Int.add_mul, Int.one_mul] at this
        omega
      rw [prod_dec (prod_good hg hg) ha (by omega), prod_dec hg hg (by omega), hd, pw_dec ha hb h, ← tpow_add hs]
      show tpow n (DM a) (k / 2 + k / 2 + 1) = _
      rw [show k / 2 + k / 2 + 1 = k by omega]
    · rw [sqI_even h0 hk, e]
      refine DM_inj ?_
      rw [prod_dec hg hg (by omega), hd, pw_dec ha hb h, ← tpow_add hs, show k / 2 + k / 2 = k by omega]
end Go.Cy
