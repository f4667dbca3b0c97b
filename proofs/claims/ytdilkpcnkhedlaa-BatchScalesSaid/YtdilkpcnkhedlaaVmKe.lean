import Derived.Test.YtdilkpcnkhedlaaVmW
import Derived.Test.YtdilkpcnkhedlaaFlY
import Derived.MapKept
import Derived.Laws.RangeString
import Derived.Laws.Strings
import Derived.Laws.Closers25b
section
/-
  THE ALGEBRA OF TIMES, without any program: sums are maxima, products are sums; none is 'never'.
-/
namespace Go.Cy

abbrev O := Option Int

/-- a is at most u. -/
def Ub (a : O) (u : Int) : Prop := ∀ x, a = some x → x ≤ u

theorem ub_ext {a b : O} (h : ∀ u, Ub a u ↔ Ub b u) : a = b := by
  cases a with
  | none =>
    cases b with
    | none => rfl
    | some y => have := (h (y - 1)).1 (fun x hx => by cases hx) y rfl; omega
  | some x =>
    cases b with
    | none => have := (h (x - 1)).2 (fun x hx => by cases hx) x rfl; omega
    | some y =>
      have h1 := (h y).2 (fun z hz => by cases hz; omega) x rfl
      have h2 := (h x).1 (fun z hz => by cases hz; omega) y rfl
      rw [show x = y by omega]

def omax : O → O → O
  | none, b => b
  | a, none => a
  | some x, some y => some (max x y)
def oadd : O → O → O
  | some x, some y => some (x + y)
  | _, _ => none

theorem ub_max {a b : O} {u : Int} : Ub (omax a b) u ↔ Ub a u ∧ Ub b u := by
  cases a with
  | none => exact ⟨fun h => ⟨fun x hx => (by cases hx), h⟩, fun h => h.2⟩
  | some x =>
    cases b with
    | none => exact ⟨fun h => ⟨h, fun x hx => by cases hx⟩, fun h => h.1⟩
    | some y =>
      constructor
      · intro h
        have := h (max x y) rfl
        exact ⟨fun z hz => by cases hz; omega, fun z hz => by cases hz; omega⟩
      · intro ⟨h1, h2⟩ z hz
        have e1 := h1 x rfl
        have e2 := h2 y rfl
        cases hz; omega

/-- The greatest of f 0 .. f (n - 1). -/
def osup : Nat → (Nat → O) → O
  | 0, _ => none
  | n + 1, f => omax (osup n f) (f n)

theorem ub_sup {f : Nat → O} {u : Int} : ∀ {n : Nat}, Ub (osup n f) u ↔ ∀ k, k < n → Ub (f k) u
  | 0 => ⟨fun _ k h => by omega, fun _ x hx => by cases hx⟩
  | n + 1 => by
    rw [osup, ub_max, ub_sup]
    constructor
    · intro ⟨h1, h2⟩ k hk
      by_cases e : k = n
      · subst e; exact h2
      · exact h1 k (by omega)
    · intro h; exact ⟨fun k hk => h k (by omega), h n (by omega)⟩

/-- It is one of them. -/
theorem sup_some {f : Nat → O} {w : Int} : ∀ {n : Nat}, osup n f = some w → ∃ k, k < n ∧ f k = some w
  | 0, h => by cases h
  | n + 1, h => by
    rw [osup] at h
    cases ha : osup n f with
    | none =>
      rw [ha] at h
      exact ⟨n, by omega, by cases hb : f n <;> rw [hb] at h <;> exact h⟩
    | some x =>
      rw [ha] at h
      cases hb : f n with
      | none =>
        rw [hb] at h
        obtain ⟨k, hk, e⟩ := sup_some (f := f) (n := n) (ha.trans h)
        exact ⟨k, by omega, e⟩
      | some y =>
        rw [hb] at h
        simp only [omax, Option.some.injEq] at h
        by_cases hxy : x ≤ y
        · exact ⟨n, by omega, by rw [hb, ← h, Int.max_eq_right hxy]⟩
        · obtain ⟨k, hk, e⟩ := sup_some (f := f) (n := n) ha
          exact ⟨k, by omega, by rw [e, ← h, Int.max_eq_left (by omega)]⟩

theorem sup_none {f : Nat → O} {n : Nat} : osup n f = none ↔ ∀ k, k < n → f k = none := by
  constructor
  · intro h k hk
    cases hf : f k with
    | none => rfl
    | some x =>
      have h1 : Ub (osup n f) (x - 1) := by rw [h]; intro z hz; cases hz
      have := ub_sup.1 h1 k hk x hf; omega
  · intro h
    cases hs : osup n f with
    | none => rfl
    | some x => obtain ⟨k, hk, e⟩ := sup_some hs; rw [h k hk] at e; cases e

theorem sup_ge {f : Nat → O} {n k : Nat} {x : Int} (hk : k < n) (hf : f k = some x) : ∃ y, osup n f = some y ∧ x ≤ y := by
  cases hs : osup n f with
  | none => rw [sup_none.1 hs k hk] at hf; cases hf
  | some y =>
    have h1 : Ub (osup n f) y := by rw [hs]; intro z hz; cases hz; omega
    exact ⟨y, rfl, ub_sup.1 h1 k hk x hf⟩

theorem sup_congr {f g : Nat → O} {n : Nat} (h : ∀ k, k < n → f k = g k) : osup n f = osup n g :=
  ub_ext fun u => by rw [ub_sup, ub_sup]; exact ⟨fun k i hi => by rw [← h i hi]; exact k i hi, fun k i hi => by rw [h i hi]; exact k i hi⟩

theorem max_comm (a b : O) : omax a b = omax b a := ub_ext fun u => by rw [ub_max, ub_max]; exact And.comm
theorem max_assoc (a b c : O) : omax (omax a b) c = omax a (omax b c) := ub_ext fun u => by simp only [ub_max]; exact and_assoc
theorem max_self (a : O) : omax a a = a := ub_ext fun u => by rw [ub_max]; exact and_self_iff
theorem max_none (a : O) : omax a none = a := by cases a <;> rfl

theorem ub_add {a b : O} {u : Int} : Ub (oadd a b) u ↔ ∀ x y, a = some x → b = some y → x + y ≤ u := by
  constructor
  · intro h x y hx hy; subst hx hy; exact h _ rfl
  · intro h z hz
    cases a with
    | none => cases hz
    | some x => cases b with
      | none => cases hz
      | some y => cases hz; exact h x y rfl rfl
theorem add_some {a b : O} {w : Int} : oadd a b = some w ↔ ∃ x y, a = some x ∧ b = some y ∧ w = x + y := by
  constructor
  · intro h
    cases a with
    | none => cases h
    | some x => cases b with
      | none => cases h
      | some y => cases h; exact ⟨x, y, rfl, rfl, rfl⟩
  · rintro ⟨x, y, rfl, rfl, rfl⟩; rfl
theorem add_comm (a b : O) : oadd a b = oadd b a := by
  cases a <;> cases b <;> simp [oadd, Int.add_comm]
theorem add_none (a : O) : oadd a none = none := by cases a <;> rfl
theorem none_add (a : O) : oadd none a = none := rfl
theorem add_zero (a : O) : oadd a (some 0) = a := by cases a <;> simp [oadd]
theorem zero_add (a : O) : oadd (some 0) a = a := by cases a <;> simp [oadd]

/-- Matrices of n rows: outside of them there is never anything. -/
abbrev TM := Nat → Nat → O
def Sup (n : Nat) (A : TM) : Prop := ∀ i j, ¬ (i < n ∧ j < n) → A i j = none
def tone (n : Nat) : TM := fun i j => if i = j ∧ i < n then some 0 else none
def tmul (n : Nat) (A B : TM) : TM := fun i j => osup n fun k => oadd (A i k) (B k j)
def tmx (A B : TM) : TM := fun i j => omax (A i j) (B i j)
def tpow (n : Nat) (A : TM) : Nat → TM
  | 0 => tone n
  | k + 1 => tmul n (tpow n A k) A

theorem tone_sup (n : Nat) : Sup n (tone n) := fun i j h => by
  unfold tone; rw [if_neg]; rintro ⟨rfl, h2⟩; exact h ⟨h2, h2⟩
theorem tmul_sup {n : Nat} {A B : TM} (ha : Sup n A) (hb : Sup n B) : Sup n (tmul n A B) := fun i j h => sup_none.2 fun k hk => by
  by_cases hi : i < n
  · rw [hb k j (fun h2 => h ⟨hi, h2.2⟩), add_none]
  · rw [ha i k (fun h2 => hi h2.1), none_add]
theorem tpow_sup {n : Nat} {A : TM} (ha : Sup n A) : ∀ k, Sup n (tpow n A k)
  | 0 => tone_sup n
  | k + 1 => tmul_sup (tpow_sup ha k) ha
theorem tmx_sup {n : Nat} {A B : TM} (ha : Sup n A) (hb : Sup n B) : Sup n (tmx A B) := fun i j h => by
  unfold tmx; rw [ha i j h, hb i j h]; rfl

theorem ub_mul {n : Nat} {A B : TM} {i j : Nat} {u : Int} : Ub (tmul n A B i j) u ↔ ∀ k x y, k < n → A i k = some x → B k j = some y → x + y ≤ u := by
  unfold tmul; rw [ub_sup]
  constructor
  · intro h k x y hk hx hy; exact ub_add.1 (h k hk) x y hx hy
  · intro h k hk; exact ub_add.2 fun x y hx hy => h k x y hk hx hy
theorem mul_some {n : Nat} {A B : TM} {i j : Nat} {w : Int} (h : tmul n A B i j = some w) : ∃ k x y, k < n ∧ A i k = some x ∧ B k j = some y ∧ w = x + y := by
  obtain ⟨k, hk, h⟩ := sup_some h
  obtain ⟨x, y, h1, h2, h3⟩ := add_some.1 h
  exact ⟨k, x, y, hk, h1, h2, h3⟩
theorem mul_ge {n : Nat} {A B : TM} {i j k : Nat} {x y : Int} (hk : k < n) (hx : A i k = some x) (hy : B k j = some y) : ∃ w, tmul n A B i j = some w ∧ x + y ≤ w :=
  sup_ge hk (add_some.2 ⟨x, y, hx, hy, rfl⟩)

theorem tmul_assoc {n : Nat} (A B C : TM) : tmul n (tmul n A B) C = tmul n A (tmul n B C) := by
  funext i j
  refine ub_ext fun u => ?_
  rw [ub_mul, ub_mul]
  constructor
  · intro h k x y hk hx hy
    obtain ⟨l, p, q, hl, hp, hq, rfl⟩ := mul_some hy
    obtain ⟨w, hw, hle⟩ := mul_ge (n := n) hk hx hp
    have := h l w q hl hw hq; omega
  · intro h k x y hk hx hy
    obtain ⟨l, p, q, hl, hp, hq, rfl⟩ := mul_some hx
    obtain ⟨w, hw, hle⟩ := mul_ge (n := n) hk hq hy
    have := h l p w hl hp hw; omega

theorem tmul_one {n : Nat} {A : TM} (ha : Sup n A) : tmul n A (tone n) = A := by
  funext i j
  refine ub_ext fun u => ?_
  rw [ub_mul]
  constructor
  · intro h x hx
    by_cases hij : i < n ∧ j < n
    · have := h j x 0 hij.2 hx (by unfold tone; rw [if_pos ⟨rfl, hij.2⟩]); omega
    · rw [ha i j hij] at hx; cases hx
  · intro h k x y hk hx hy
    unfold tone at hy
    split at hy
    · rename_i e; obtain ⟨rfl, _⟩ := e; cases hy; have := h x hx; omega
    · cases hy
theorem one_tmul {n : Nat} {A : TM} (ha : Sup n A) : tmul n (tone n) A = A := by
  funext i j
  refine ub_ext fun u => ?_
  rw [ub_mul]
  constructor
  · intro h x hx
    by_cases hij : i < n ∧ j < n
    · have := h i 0 x hij.1 (by unfold tone; rw [if_pos ⟨rfl, hij.1⟩]) hx; omega
    · rw [ha i j hij] at hx; cases hx
  · intro h k x y hk hx hy
    unfold tone at hx
    split at hx
    · rename_i e; obtain ⟨rfl, _⟩ := e; cases hx; have := h y hy; omega
    · cases hx

theorem tpow_add {n : Nat} {A : TM} (ha : Sup n A) (j : Nat) : ∀ k, tpow n A (j + k) = tmul n (tpow n A j) (tpow n A k)
  | 0 => (tmul_one (tpow_sup ha j)).symm
  | k + 1 => by
    show tmul n (tpow n A (j + k)) A = _
    rw [tpow_add ha j k, tmul_assoc]; rfl
theorem tpow_one {n : Nat} {A : TM} (ha : Sup n A) : tpow n A 1 = A := one_tmul ha

theorem tmul_mx {n : Nat} (A B C : TM) : tmul n A (tmx B C) = tmx (tmul n A B) (tmul n A C) := by
  funext i j
  refine ub_ext fun u => ?_
  show _ ↔ Ub (omax _ _) u
  rw [ub_max, ub_mul, ub_mul, ub_mul]
  constructor
  · intro h
    refine ⟨fun k x y hk hx hy => ?_, fun k x y hk hx hy => ?_⟩
    · cases hc : C k j with
      | none => exact h k x y hk hx (by unfold tmx; rw [hy, hc]; rfl)
      | some z => have := h k x (max y z) hk hx (by unfold tmx; rw [hy, hc]; rfl); omega
    · cases hc : B k j with
      | none => exact h k x y hk hx (by unfold tmx; rw [hy, hc]; rfl)
      | some z => have := h k x (max z y) hk hx (by unfold tmx; rw [hy, hc]; rfl); omega
  · intro ⟨h1, h2⟩ k x y hk hx hy
    unfold tmx at hy
    cases hb : B k j with
    | none =>
      rw [hb] at hy
      exact h2 k x y hk hx (by cases hc : C k j <;> rw [hc] at hy <;> exact hy)
    | some p =>
      cases hc : C k j with
      | none => rw [hb, hc] at hy; exact h1 k x y hk hx (hb.trans hy)
      | some q =>
        rw [hb, hc] at hy
        have e1 := h1 k x p hk hx hb
        have e2 := h2 k x q hk hx hc
        cases hy; omega

/-- The greatest of the powers 0 .. k. -/
def tsum (n : Nat) (A : TM) : Nat → TM
  | 0 => tone n
  | k + 1 => tmx (tsum n A k) (tpow n A (k + 1))

theorem ub_tsum {n : Nat} {A : TM} {i j : Nat} {u : Int} : ∀ {k : Nat}, Ub (tsum n A k i j) u ↔ ∀ m, m ≤ k → Ub (tpow n A m i j) u
  | 0 => ⟨fun h m hm => by rw [show m = 0 by omega]; exact h, fun h => h 0 (Nat.le_refl _)⟩
  | k + 1 => by
    show Ub (omax _ _) u ↔ _
    rw [ub_max, ub_tsum]
    constructor
    · intro ⟨h1, h2⟩ m hm
      by_cases e : m = k + 1
      · subst e; exact h2
      · exact h1 m (by omega)
    · intro h; exact ⟨fun m hm => h m (by omega), h _ (Nat.le_refl _)⟩

theorem tsum_mul {n : Nat} {A : TM} (k : Nat) {i j : Nat} {u : Int} : Ub (tmul n (tsum n A k) A i j) u ↔ ∀ m, m ≤ k → Ub (tpow n A (m + 1) i j) u := by
  have key : ∀ k, tmul n (tsum n A k) A i j = osup (k + 1) fun m => tpow n A (m + 1) i j := by
    intro k
    refine ub_ext fun u => ?_
    rw [ub_sup, ub_mul]
    constructor
    · intro h m hm
      refine ub_mul.2 fun l x y hl hx hy => ?_
      have : ∃ x', tsum n A k i l = some x' ∧ x ≤ x' := by
        cases hs : tsum n A k i l with
        | none =>
          have h1 : Ub (tsum n A k i l) (x - 1) := by rw [hs]; intro z hz; cases hz
          have := ub_tsum.1 h1 m (by omega) x hx; omega
        | some z =>
          have h1 : Ub (tsum n A k i l) z := by rw [hs]; intro a b; cases b; omega
          exact ⟨z, rfl, ub_tsum.1 h1 m (by omega) x hx⟩
      obtain ⟨x', hx', hle⟩ := this
      have := h l x' y hl hx' hy; omega
    · intro h l x y hl hx hy
      have : Ub (tsum n A k i l) (u - y) := ub_tsum.2 fun m hm z hz => by
        have := ub_mul.1 (h m (by omega)) l z y hl hz hy; omega
      have := this x hx; omega
  rw [key, ub_sup]
  exact ⟨fun h m hm => h m (by omega), fun h m hm => h m (by omega)⟩

theorem tsum_sup {n : Nat} {A : TM} (ha : Sup n A) : ∀ k, Sup n (tsum n A k)
  | 0 => tone_sup n
  | k + 1 => tmx_sup (tsum_sup ha k) (tpow_sup ha _)

/-- .. is a power of the greatest of the unit and the matrix. -/
theorem tsum_pow {n : Nat} {A : TM} (ha : Sup n A) : ∀ k, tpow n (tmx (tone n) A) k = tsum n A k
  | 0 => rfl
  | k + 1 => by
    show tmul n (tpow n _ k) _ = _
    rw [tsum_pow ha k, tmul_mx]
    rw [tmul_one (tsum_sup ha k)]
    funext i j
    refine ub_ext fun u => ?_
    show Ub (omax _ _) u ↔ Ub (omax _ _) u
    rw [ub_max, ub_max, tsum_mul, ub_tsum]
    constructor
    · intro ⟨h1, h2⟩; exact ⟨h1, h2 k (Nat.le_refl _)⟩
    · intro ⟨h1, h2⟩
      refine ⟨h1, fun m hm => ?_⟩
      by_cases e : m = k
      · subst e; exact h2
      · exact h1 (m + 1) (by omega)

/-- Numbers, with one for never. -/
def Nv : Int := -1099511627776
def dec (x : Int) : O := if x = Nv then none else some x
def Good (b x : Int) : Prop := x = Nv ∨ (-b ≤ x ∧ x ≤ b)
def aft (x y : Int) : Int := if x = Nv ∨ y = Nv then Nv else x + y
def gre (l : List Int) : Int := l.foldl max Nv
def oneI (n i j : Nat) : Int := if i = j ∧ i < n then 0 else Nv
def prodI (n : Nat) (a b : Nat → Nat → Int) (i j : Nat) : Int := gre ((List.range n).map fun k => aft (a i k) (b k j))
def DM (a : Nat → Nat → Int) : TM := fun i j => dec (a i j)
def GoodM (b : Int) (a : Nat → Nat → Int) : Prop := ∀ i j, Good b (a i j)

theorem dec_inj {x y : Int} (h : dec x = dec y) : x = y := by
  unfold dec at h
  split at h <;> split at h <;> simp_all
theorem dec_nv : dec Nv = none := by simp [dec]
theorem dec_some {x : Int} (h : x ≠ Nv) : dec x = some x := by simp [dec, h]
theorem Good.mono {b c x : Int} (h : Good b x) (hbc : b ≤ c) : Good c x := h.imp id fun h => by omega
theorem Good.ne {b x : Int} (h : -b ≤ x ∧ x ≤ b) (hb : b ≤ 1000000000000) : x ≠ Nv := by unfold Nv; omega

theorem aft_dec {b c x y : Int} (hx : Good b x) (hy : Good c y) (hbc : b + c ≤ 1000000000000) : dec (aft x y) = oadd (dec x) (dec y) := by
  unfold aft
  split
  · rename_i h
    rcases h with rfl | rfl
    · rw [dec_nv]; rfl
    · rw [dec_nv, add_none]
  · rename_i h
    simp only [not_or] at h
    rw [dec_some h.1, dec_some h.2]
    rcases hx with hx | hx
    · exact absurd hx h.1
    rcases hy with hy | hy
    · exact absurd hy h.2
    rw [dec_some (by unfold Nv; omega)]; rfl
theorem aft_good {b c x y : Int} (hx : Good b x) (hy : Good c y) : Good (b + c) (aft x y) := by
  unfold aft
  split
  · exact .inl rfl
  · rename_i h
    simp only [not_or] at h
    rcases hx with hx | hx
    · exact absurd hx h.1
    rcases hy with hy | hy
    · exact absurd hy h.2
    exact .inr (by omega)
theorem max_dec {x y : Int} (hx : Nv ≤ x) (hy : Nv ≤ y) : dec (max x y) = omax (dec x) (dec y) := by
  unfold dec
  by_cases h1 : x = Nv <;> by_cases h2 : y = Nv
  · subst h1 h2; simp [omax]
  · subst h1; rw [if_pos rfl, if_neg h2, if_neg (by omega), Int.max_eq_right hy]; rfl
  · subst h2; rw [if_pos rfl, if_neg h1, if_neg (by omega), Int.max_eq_left hx]; rfl
  · rw [if_neg h1, if_neg h2, if_neg (by omega)]; rfl
theorem Good.ge {b x : Int} (h : Good b x) (hb : b ≤ 1000000000000) : Nv ≤ x := by
  rcases h with h | h
  · omega
  · unfold Nv; omega
theorem max_good {b x y : Int} (hx : Good b x) (hy : Good b y) : Good b (max x y) := by
  rcases Int.le_total x y with h | h
  · rw [Int.max_eq_right h]; exact hy
  · rw [Int.max_eq_left h]; exact hx

theorem foldl_snoc (l : List Int) (x z : Int) : (l ++ [x]).foldl max z = max (l.foldl max z) x := by simp
theorem gre_good {b : Int} {l : List Int} (h : ∀ x ∈ l, Good b x) : Good b (gre l) := by
  have key : ∀ (l : List Int) (z : Int), Good b z → (∀ x ∈ l, Good b x) → Good b (l.foldl max z) := by
    intro l
    induction l with
    | nil => intro z hz _; exact hz
    | cons x l ih => intro z hz hl; exact ih _ (max_good hz (hl x (by simp))) fun y hy => hl y (by simp [hy])
  exact key l Nv (.inl rfl) h
theorem gre_range {b : Int} (hb : b ≤ 1000000000000) {f : Nat → Int} : ∀ {n : Nat}, (∀ k, k < n → Good b (f k)) → dec (gre ((List.range n).map f)) = osup n fun k => dec (f k)
  | 0, _ => dec_nv
  | n + 1, h => by
    rw [List.range_succ, List.map_append]
    simp only [List.map_cons, List.map_nil]
    rw [show gre (List.map f (List.range n) ++ [f n]) = max (gre ((List.range n).map f)) (f n) from foldl_snoc _ _ _]
    have hg : Good b (gre ((List.range n).map f)) := gre_good fun x hx => by
      obtain ⟨k, hk, rfl⟩ := List.mem_map.1 hx
      exact h k (by have := List.mem_range.1 hk; omega)
    rw [max_dec (hg.ge hb) ((h n (by omega)).ge hb), osup]
    congr 1
    exact gre_range hb fun k hk => h k (by omega)

theorem prod_good {n : Nat} {b c : Int} {A B : Nat → Nat → Int} (ha : GoodM b A) (hb : GoodM c B) : GoodM (b + c) (prodI n A B) := fun i j => gre_good fun x hx => by
  obtain ⟨k, _, rfl⟩ := List.mem_map.1 hx
  exact aft_good (ha i k) (hb k j)
theorem prod_dec {n : Nat} {b c : Int} {A B : Nat → Nat → Int} (ha : GoodM b A) (hb : GoodM c B) (h : b + c ≤ 1000000000000) : DM (prodI n A B) = tmul n (DM A) (DM B) := by
  funext i j
  show dec (gre _) = _
  rw [gre_range h fun k _ => aft_good (ha i k) (hb k j)]
  exact sup_congr fun k _ => aft_dec (ha i k) (hb k j) h
theorem one_dec (n : Nat) : DM (oneI n) = tone n := by
  funext i j
  show dec (oneI n i j) = tone n i j
  unfold oneI tone
  split
  · exact dec_some (by unfold Nv; omega)
  · exact dec_nv
theorem one_good (n : Nat) {b : Int} (hb : 0 ≤ b) : GoodM b (oneI n) := fun i j => by
  unfold oneI; split
  · exact .inr (by omega)
  · exact .inl rfl
theorem DM_inj {A B : Nat → Nat → Int} (h : DM A = DM B) : A = B := by
  funext i j; exact dec_inj (congrFun (congrFun h i) j)

/-- Powers by squares. -/
def sqI (n : Nat) (a : Nat → Nat → Int) (k : Nat) : Nat → Nat → Int :=
  if h : k = 0 then oneI n else
    let s := sqI n a (k / 2)
    if k % 2 = 1 then prodI n (prodI n s s) a else prodI n s s
termination_by k
decreasing_by omega

theorem sqI_zero (n : Nat) (a : Nat → Nat → Int) : sqI n a 0 = oneI n := by rw [sqI]; rfl
theorem sqI_odd {n : Nat} {a : Nat → Nat → Int} {k : Nat} (h : k % 2 = 1) : sqI n a k = prodI n (prodI n (sqI n a (k / 2)) (sqI n a (k / 2))) a := by
  rw [sqI, dif_neg (by omega)]; simp only [if_pos h]
theorem sqI_even {n : Nat} {a : Nat → Nat → Int} {k : Nat} (h0 : k ≠ 0) (h : k % 2 ≠ 1) : sqI n a k = prodI n (sqI n a (k / 2)) (sqI n a (k / 2)) := by
  rw [sqI, dif_neg h0]; simp only [if_neg h]

/-- Powers, one factor after another. -/
def pwI (n : Nat) (a : Nat → Nat → Int) : Nat → Nat → Nat → Int
  | 0 => oneI n
  | k + 1 => prodI n (pwI n a k) a

theorem pw_good {n : Nat} {b : Int} {a : Nat → Nat → Int} (ha : GoodM b a) (hb : 0 ≤ b) : ∀ k : Nat, GoodM (k * b) (pwI n a k)
  | 0 => one_good n (by omega)
  | k + 1 => by
    have := prod_good (n := n) (pw_good (n := n) ha hb k) ha
    rwa [show (((k + 1 : Nat) : Int) * b) = (k : Int) * b + b by rw [Int.natCast_add, Int.add_mul]; simp]
theorem pw_dec {n : Nat} {b : Int} {a : Nat → Nat → Int} (ha : GoodM b a) (hb : 0 ≤ b) : ∀ {k : Nat}, (k : Int) * b ≤ 1000000000000 → DM (pwI n a k) = tpow n (DM a) k
  | 0, _ => one_dec n
  | k + 1, h => by
    have e : (((k + 1 : Nat) : Int) * b) = (k : Int) * b + b := by rw [Int.natCast_add, Int.add_mul]; simp
    show DM (prodI n (pwI n a k) a) = _
    rw [prod_dec (pw_good ha hb k) ha (by omega), pw_dec ha hb (by omega)]; rfl
theorem sq_pw {n : Nat} {b : Int} {a : Nat → Nat → Int} (ha : GoodM b a) (hb : 0 ≤ b) (hs : Sup n (DM a)) (k : Nat) (h : (k : Int) * b ≤ 1000000000000) : sqI n a k = pwI n a k := by
  induction k using Nat.strongRecOn with
  | _ k ih =>
    by_cases h0 : k = 0
    · subst h0; rw [sqI_zero]; rfl
    have hk2 : ((k / 2 : Nat) : Int) * b ≤ (k : Int) * b := Int.mul_le_mul_of_nonneg_right (by omega) hb
    have e := ih (k / 2) (by omega) (by omega)
    have hg := pw_good (n := n) ha hb (k / 2)
    have h2 : ((k / 2 : Nat) : Int) * b + ((k / 2 : Nat) : Int) * b ≤ (k : Int) * b := by
      rw [← Int.add_mul]; exact Int.mul_le_mul_of_nonneg_right (by omega) hb
    have hd := pw_dec (n := n) ha hb (k := k / 2) (by omega)
    by_cases hk : k % 2 = 1
    · rw [sqI_odd hk, e]
      refine DM_inj ?_
      have h3 : ((k / 2 : Nat) : Int) * b + ((k / 2 : Nat) : Int) * b + b = (k : Int) * b := by
        have := congrArg (· * b) (show (k : Int) = ((k / 2 : Nat) : Int) + ((k / 2 : Nat) : Int) + 1 by omega)
        simp only [Int.add_mul, Int.one_mul] at this
        omega
      rw [prod_dec (prod_good hg hg) ha (by omega), prod_dec hg hg (by omega), hd, pw_dec ha hb h, ← tpow_add hs]
      show tpow n (DM a) (k / 2 + k / 2 + 1) = _
      rw [show k / 2 + k / 2 + 1 = k by omega]
    · rw [sqI_even h0 hk, e]
      refine DM_inj ?_
      rw [prod_dec hg hg (by omega), hd, pw_dec ha hb h, ← tpow_add hs, show k / 2 + k / 2 = k by omega]
end Go.Cy

end
section
/-
  KARP'S THEOREM on greatest means of cycles, without any program.
-/
namespace Go.Cy

/-- Two of n + 1 nodes below n are equal. -/
theorem pigeon : ∀ (n : Nat) (p : Nat → Nat), (∀ m, m ≤ n → p m < n) → ∃ s t, s < t ∧ t ≤ n ∧ p s = p t
  | 0, p, h => absurd (h 0 (Nat.le_refl _)) (by omega)
  | n + 1, p, h => by
    by_cases he : ∃ s, s < n + 1 ∧ p s = p (n + 1)
    · obtain ⟨s, h1, h2⟩ := he; exact ⟨s, n + 1, h1, Nat.le_refl _, h2⟩
    · have hne : ∀ s, s < n + 1 → p s ≠ p (n + 1) := fun s hs e => he ⟨s, hs, e⟩
      obtain ⟨s, t, h1, h2, h3⟩ := pigeon n (fun m => if p m = n then p (n + 1) else p m) fun m hm => by
        have a1 := h m (by omega)
        have a2 := h (n + 1) (Nat.le_refl _)
        have a3 := hne m (by omega)
        split <;> omega
      refine ⟨s, t, h1, by omega, ?_⟩
      have a1 := hne s (by omega)
      have a2 := hne t (by omega)
      split at h3 <;> split at h3 <;> omega

/-- The weight of the first k arcs of a path. -/
def wt (A : TM) (p : Nat → Nat) : Nat → O
  | 0 => some 0
  | k + 1 => oadd (wt A p k) (A (p k) (p (k + 1)))

theorem oadd_assoc (a b c : O) : oadd (oadd a b) c = oadd a (oadd b c) := by
  cases a <;> cases b <;> cases c <;> simp [oadd, Int.add_assoc]

theorem wt_add {A : TM} {p : Nat → Nat} (s : Nat) : ∀ d, wt A p (s + d) = oadd (wt A p s) (wt A (fun m => p (s + m)) d)
  | 0 => (add_zero _).symm
  | d + 1 => by
    show oadd (wt A p (s + d)) _ = _
    rw [wt_add s d, oadd_assoc]; rfl
theorem wt_congr {A : TM} {p q : Nat → Nat} : ∀ {k : Nat}, (∀ m, m ≤ k → p m = q m) → wt A p k = wt A q k
  | 0, _ => rfl
  | k + 1, h => by
    show oadd _ _ = oadd _ _
    rw [wt_congr (k := k) fun m hm => h m (by omega), h k (by omega), h (k + 1) (Nat.le_refl _)]

theorem wt_pow {n : Nat} {A : TM} {p : Nat → Nat} (hs : Sup n A) (h0 : p 0 < n) : ∀ {k : Nat} {w : Int}, wt A p k = some w → ∃ w', tpow n A k (p 0) (p k) = some w' ∧ w ≤ w'
  | 0, w, h => by cases h; exact ⟨0, by show tone n _ _ = _; unfold tone; rw [if_pos ⟨rfl, h0⟩], Int.le_refl _⟩
  | k + 1, w, h => by
    obtain ⟨x, y, hx, hy, rfl⟩ := add_some.1 h
    obtain ⟨x', h1, h2⟩ := wt_pow hs h0 hx
    have hk : p k < n := Classical.byContradiction fun hn => by rw [hs _ _ fun h => hn h.1] at hy; cases hy
    obtain ⟨w', h3, h4⟩ := mul_ge (n := n) hk h1 hy
    exact ⟨w', h3, by omega⟩
theorem pow_wt {n : Nat} {A : TM} (hs : Sup n A) : ∀ {k i j : Nat} {w : Int}, tpow n A k i j = some w → ∃ p : Nat → Nat, p 0 = i ∧ p k = j ∧ wt A p k = some w ∧ ∀ m, m ≤ k → p m < n
  | 0, i, j, w, h => by
    have h' : tone n i j = some w := h
    unfold tone at h'
    split at h'
    · rename_i e; obtain ⟨rfl, hi⟩ := e; cases h'; exact ⟨fun _ => i, rfl, rfl, rfl, fun _ _ => hi⟩
    · cases h'
  | k + 1, i, j, w, h => by
    obtain ⟨l, x, y, hl, hx, hy, rfl⟩ := mul_some h
    obtain ⟨p, h1, h2, h3, h4⟩ := pow_wt hs hx
    have hj : j < n := Classical.byContradiction fun hn => by rw [hs _ _ fun h => hn h.2] at hy; cases hy
    refine ⟨fun m => if m ≤ k then p m else j, by simp [h1], if_neg (by omega), ?_, fun m hm => ?_⟩
    · show oadd (wt A _ k) (A _ _) = _
      rw [wt_congr (q := p) fun m hm => by simp [hm], h3]
      have e1 : (if k ≤ k then p k else j) = l := by simp [h2]
      have e2 : (if k + 1 ≤ k then p (k + 1) else j) = j := if_neg (by omega)
      show oadd _ (A (if k ≤ k then p k else j) (if k + 1 ≤ k then p (k + 1) else j)) = _
      rw [e1, e2, hy]; rfl
    · simp only; split
      · exact h4 m (by assumption)
      · exact hj

/-- A path that meets a node twice is made of a closed part and a shorter path. -/
theorem cut_path {n : Nat} {A : TM} (hs : Sup n A) {p : Nat → Nat} {k s t : Nat} {w : Int} (hst : s < t) (htk : t ≤ k) (he : p s = p t) (hw : wt A p k = some w) (hn : ∀ m, m ≤ k → p m < n) :
    ∃ w1 w2 c1 c2, w ≤ c1 + c2 ∧ w1 ≤ c1 ∧ w2 ≤ c2 ∧ tpow n A (t - s) (p s) (p s) = some c1 ∧ tpow n A (k - (t - s)) (p 0) (p k) = some c2 := by
  have e1 : wt A p k = oadd (wt A p t) (wt A (fun m => p (t + m)) (k - t)) := by rw [← wt_add]; congr 1; omega
  have e2 : wt A p t = oadd (wt A p s) (wt A (fun m => p (s + m)) (t - s)) := by rw [← wt_add]; congr 1; omega
  rw [e1] at hw
  obtain ⟨x, z, hx, hz, rfl⟩ := add_some.1 hw
  rw [e2] at hx
  obtain ⟨x, y, hx, hy, rfl⟩ := add_some.1 hx
  obtain ⟨c1, h1, h2⟩ := wt_pow (n := n) hs (p := fun m => p (s + m)) (hn _ (by omega)) hy
  simp only [Nat.add_zero] at h1
  rw [show s + (t - s) = t by omega, ← he] at h1
  have hq : wt A (fun m => if m ≤ s then p m else p (m + (t - s))) (k - (t - s)) = some (x + z) := by
    rw [show k - (t - s) = s + (k - t) by omega, wt_add, wt_congr (q := p) (k := s) fun m hm => by simp [hm], show wt A p s = some x by assumption, wt_congr (q := fun m => p (t + m)) (k := k - t) fun m hm => by
      split
      · rename_i hle
        rw [show m = 0 by omega]; simpa using he
      · rw [show s + m + (t - s) = t + m by omega], hz]; rfl
  obtain ⟨c2, h3, h4⟩ := wt_pow (n := n) hs (by simp; exact hn 0 (by omega)) hq
  refine ⟨y, x + z, c1, c2, by omega, h2, h4, h1, ?_⟩
  have e3 : (if k - (t - s) ≤ s then p (k - (t - s)) else p (k - (t - s) + (t - s))) = p k := by
    split
    · rename_i hle
      have : k = t := by omega
      subst this
      rw [show k - (k - s) = s by omega]; exact he
    · rw [show k - (t - s) + (t - s) = k by omega]
  simp only [Nat.zero_le, if_true] at h3
  rw [e3] at h3
  exact h3

/-- No closed path has a weight above 0. -/
def NP (n : Nat) (A : TM) : Prop := ∀ k i, 0 < k → Ub (tpow n A k i i) 0

/-- It is enough to ask the short ones. -/
theorem np_of_short {n : Nat} {A : TM} (hs : Sup n A) (h : ∀ k i, 0 < k → k ≤ n → Ub (tpow n A k i i) 0) : NP n A := by
  intro k
  induction k using Nat.strongRecOn with
  | _ k ih =>
    intro i hk w hw
    by_cases hkn : k ≤ n
    · exact h k i hk hkn w hw
    · obtain ⟨p, h1, h2, h3, h4⟩ := pow_wt hs hw
      obtain ⟨s, t, a1, a2, a3⟩ := pigeon n p fun m hm => h4 m (by omega)
      obtain ⟨w1, w2, c1, c2, b1, _, _, b4, b5⟩ := cut_path hs a1 (by omega) a3 h3 h4
      have := h (t - s) (p s) (by omega) (by omega) c1 b4
      rw [h1, h2] at b5
      have := ih (k - (t - s)) (by omega) i (by omega) c2 b5
      omega

/-- Without them, ways of fewer than n arcs are no worse. -/
theorem short_way {n : Nat} {A : TM} (hs : Sup n A) (hp : NP n A) : ∀ (k i j : Nat) (w : Int), tpow n A k i j = some w → ∃ m w', m < n ∧ m ≤ k ∧ tpow n A m i j = some w' ∧ w ≤ w' := by
  intro k
  induction k using Nat.strongRecOn with
  | _ k ih =>
    intro i j w hw
    by_cases hkn : k < n
    · exact ⟨k, w, hkn, Nat.le_refl _, hw, Int.le_refl _⟩
    · obtain ⟨p, h1, h2, h3, h4⟩ := pow_wt hs hw
      obtain ⟨s, t, a1, a2, a3⟩ := pigeon n p fun m hm => h4 m (by omega)
      obtain ⟨w1, w2, c1, c2, b1, _, _, b4, b5⟩ := cut_path hs a1 (by omega) a3 h3 h4
      have := hp (t - s) (p s) (by omega) c1 b4
      rw [h1, h2] at b5
      obtain ⟨m, w', d1, d2, d3, d4⟩ := ih (k - (t - s)) (by omega) i j c2 b5
      exact ⟨m, w', d1, by omega, d3, by omega⟩

/-- The greatest weights of ways. -/
def star (n : Nat) (A : TM) : TM := tsum n A (n - 1)
theorem ub_star {n : Nat} {A : TM} (hs : Sup n A) (hp : NP n A) {i j : Nat} {u : Int} : Ub (star n A i j) u ↔ ∀ k, Ub (tpow n A k i j) u := by
  unfold star
  rw [ub_tsum]
  constructor
  · intro h k w hw
    obtain ⟨m, w', h1, _, h2, h3⟩ := short_way hs hp k i j w hw
    have := h m (by omega) w' h2; omega
  · intro h m _; exact h m
theorem tsum_some {n : Nat} {A : TM} {i j : Nat} {w : Int} : ∀ {k : Nat}, tsum n A k i j = some w → ∃ m, m ≤ k ∧ tpow n A m i j = some w
  | 0, h => ⟨0, Nat.le_refl _, h⟩
  | k + 1, h => by
    have h' : omax (tsum n A k i j) (tpow n A (k + 1) i j) = some w := h
    cases ha : tsum n A k i j with
    | none => rw [ha] at h'; exact ⟨k + 1, Nat.le_refl _, h'⟩
    | some x =>
      rw [ha] at h'
      cases hb : tpow n A (k + 1) i j with
      | none =>
        rw [hb] at h'
        obtain ⟨m, h1, h2⟩ := tsum_some (ha.trans h')
        exact ⟨m, by omega, h2⟩
      | some y =>
        rw [hb] at h'
        simp only [omax, Option.some.injEq] at h'
        by_cases hxy : x ≤ y
        · exact ⟨k + 1, Nat.le_refl _, by rw [hb, ← h', Int.max_eq_right hxy]⟩
        · obtain ⟨m, h1, h2⟩ := tsum_some ha
          exact ⟨m, by omega, by rw [h2, ← h', Int.max_eq_left (by omega)]⟩
theorem star_some {n : Nat} {A : TM} {i j : Nat} {w : Int} (h : star n A i j = some w) : ∃ m, tpow n A m i j = some w := by
  obtain ⟨m, _, h⟩ := tsum_some h; exact ⟨m, h⟩
theorem star_ge {n : Nat} {A : TM} (hs : Sup n A) (hp : NP n A) {k i j : Nat} {w : Int} (h : tpow n A k i j = some w) : ∃ w', star n A i j = some w' ∧ w ≤ w' := by
  cases hc : star n A i j with
  | none =>
    have h1 : Ub (star n A i j) (w - 1) := by rw [hc]; intro z hz; cases hz
    have := (ub_star hs hp).1 h1 k w h; omega
  | some x =>
    have h1 : Ub (star n A i j) x := by rw [hc]; intro z hz; cases hz; omega
    exact ⟨x, rfl, (ub_star hs hp).1 h1 k w h⟩

/-- The greatest weights of ways of k arcs to a node, from anywhere. -/
def dk (n : Nat) (A : TM) (k j : Nat) : O := osup n fun i => tpow n A k i j
theorem dk_succ {n : Nat} {A : TM} (k j : Nat) : dk n A (k + 1) j = osup n fun i => oadd (dk n A k i) (A i j) := by
  refine ub_ext fun u => ?_
  unfold dk
  rw [ub_sup, ub_sup]
  constructor
  · intro h l hl
    refine ub_add.2 fun x y hx hy => ?_
    obtain ⟨i, hi, e⟩ := sup_some hx
    exact ub_mul.1 (h i hi) l x y hl e hy
  · intro h i hi
    refine ub_mul.2 fun l x y hl hx hy => ?_
    obtain ⟨x', e, hle⟩ := sup_ge (f := fun i => tpow n A k i l) hi hx
    have := ub_add.1 (h l hl) x' y e hy; omega
theorem dk_zero {n : Nat} {A : TM} {j : Nat} (hj : j < n) : dk n A 0 j = some 0 := by
  refine ub_ext fun u => ?_
  unfold dk
  rw [ub_sup]
  constructor
  · intro h x hx; cases hx
    refine h j hj 0 ?_
    show tone n j j = some 0
    unfold tone; rw [if_pos ⟨rfl, hj⟩]
  · intro h i hi x hx
    have hx' : tone n i j = some x := hx
    unfold tone at hx'
    split at hx'
    · cases hx'; exact h 0 rfl
    · cases hx'

/-- Where there is a way of many arcs to a node, there is one of fewer. -/
theorem dk_down {n : Nat} {A : TM} (hs : Sup n A) {k m j : Nat} {x : Int} (h : dk n A k j = some x) (hm : m ≤ k) : ∃ y, dk n A m j = some y := by
  obtain ⟨i, hi, e⟩ := sup_some h
  obtain ⟨p, h1, h2, h3, h4⟩ := pow_wt hs e
  have e1 : wt A p k = oadd (wt A p (k - m)) (wt A (fun q => p (k - m + q)) m) := by rw [← wt_add]; congr 1; omega
  rw [e1] at h3
  obtain ⟨a, b, _, hb, _⟩ := add_some.1 h3
  obtain ⟨w, h5, _⟩ := wt_pow (n := n) hs (p := fun q => p (k - m + q)) (h4 _ (by omega)) hb
  simp only [Nat.add_zero] at h5
  rw [show k - m + m = k by omega, h2] at h5
  obtain ⟨y, h6, _⟩ := sup_ge (f := fun i => tpow n A m i j) (h4 (k - m) (by omega)) h5
  exact ⟨y, h6⟩

/-- KARP, one half: the way of n arcs is no better than some shorter one. -/
theorem karp_le {n : Nat} {A : TM} (hs : Sup n A) (hp : NP n A) {j : Nat} {x : Int} (h : dk n A n j = some x) : ∃ k y, k < n ∧ dk n A k j = some y ∧ x ≤ y := by
  obtain ⟨i, hi, e⟩ := sup_some h
  obtain ⟨m, w', h1, _, h2, h3⟩ := short_way hs hp n i j x e
  obtain ⟨y, h4, h5⟩ := sup_ge (f := fun i => tpow n A m i j) hi h2
  exact ⟨m, y, h1, h4, by omega⟩

theorem mod_path {A : TM} {p : Nat → Nat} {L : Nat} (hL : 0 < L) (hc : p 0 = p L) (hw : wt A p L = some 0) : ∀ q, wt A (fun m => p (m % L)) (L * q) = some 0
  | 0 => rfl
  | q + 1 => by
    rw [Nat.mul_succ, wt_add, mod_path hL hc hw q]
    have : wt A (fun m => p ((L * q + m) % L)) L = wt A p L := wt_congr fun m hm => by
      rw [Nat.mul_add_mod]
      by_cases e : m = L
      · subst e; rw [Nat.mod_self]; exact hc
      · rw [Nat.mod_eq_of_lt (by omega)]
    rw [this, hw]; rfl

/-- .. the other half: at some node it is as good as any. -/
theorem karp_ge {n : Nat} {A : TM} (hs : Sup n A) (hp : NP n A) {L c : Nat} (hL : 0 < L) (hc : tpow n A L c c = some 0) : ∃ j x, dk n A n j = some x ∧ ∀ k y, dk n A k j = some y → y ≤ x := by
  obtain ⟨p, h1, h2, h3, h4⟩ := pow_wt hs hc
  have hcn : c < n := by rw [← h1]; exact h4 0 (by omega)
  -- the best way to c
  have hbest : ∃ m b, m < n ∧ dk n A m c = some b ∧ ∀ k y, dk n A k c = some y → y ≤ b := by
    have key : ∀ N, ∃ m b, m ≤ N ∧ dk n A m c = some b ∧ ∀ k y, k ≤ N → dk n A k c = some y → y ≤ b := by
      intro N
      induction N with
      | zero => exact ⟨0, 0, Nat.le_refl _, dk_zero hcn, fun k y hk hy => by rw [show k = 0 by omega, dk_zero hcn] at hy; cases hy; omega⟩
      | succ N ih =>
        obtain ⟨m, b, k1, k2, k3⟩ := ih
        cases hd : dk n A (N + 1) c with
        | none => exact ⟨m, b, by omega, k2, fun k y hk hy => by
            by_cases e : k = N + 1
            · subst e; rw [hd] at hy; cases hy
            · exact k3 k y (by omega) hy⟩
        | some z =>
          by_cases hz : z ≤ b
          · exact ⟨m, b, by omega, k2, fun k y hk hy => by
              by_cases e : k = N + 1
              · subst e; rw [hd] at hy; cases hy; exact hz
              · exact k3 k y (by omega) hy⟩
          · exact ⟨N + 1, z, Nat.le_refl _, hd, fun k y hk hy => by
              by_cases e : k = N + 1
              · subst e; rw [hd] at hy; cases hy; omega
              · have := k3 k y (by omega) hy; omega⟩
    obtain ⟨m, b, k1, k2, k3⟩ := key (n - 1)
    refine ⟨m, b, by omega, k2, fun k y hy => ?_⟩
    obtain ⟨i, hi, e⟩ := sup_some hy
    obtain ⟨m', w', q1, _, q2, q3⟩ := short_way hs hp k i c y e
    obtain ⟨z, q4, q5⟩ := sup_ge (f := fun i => tpow n A m' i c) hi q2
    have := k3 m' z (by omega) q4; omega
  obtain ⟨m, b, hm, hb, hmax⟩ := hbest
  let q : Nat → Nat := fun x => p (x % L)
  let t := n - m
  have hq0 : q 0 = c := by show p (0 % L) = c; rw [Nat.zero_mod, h1]
  have hqn : ∀ x, q x < n := fun x => h4 _ (by have := Nat.mod_lt x hL; omega)
  have hz : wt A q (L * t) = some 0 := mod_path hL (h1.trans h2.symm) h3 t
  have htL : t ≤ L * t := Nat.le_mul_of_pos_left t hL
  have hsplit : wt A q (L * t) = oadd (wt A q t) (wt A (fun x => q (t + x)) (L * t - t)) := by rw [← wt_add]; congr 1; omega
  rw [hz] at hsplit
  obtain ⟨x1, x2, e1, e2, e3⟩ := add_some.1 hsplit.symm
  -- on from c to the node
  obtain ⟨i, hi, ei⟩ := sup_some hb
  obtain ⟨u1, f1, f2⟩ := wt_pow (n := n) hs (hqn 0) e1
  rw [hq0] at f1
  have g1 : ∃ w', tpow n A (m + t) i (q t) = some w' ∧ b + u1 ≤ w' := by
    rw [tpow_add hs]; exact mul_ge hcn ei f1
  obtain ⟨w', g1, g2⟩ := g1
  rw [show m + t = n by omega] at g1
  obtain ⟨x, g3, g4⟩ := sup_ge (f := fun i => tpow n A n i (q t)) hi g1
  refine ⟨q t, x, g3, fun k y hy => ?_⟩
  -- back to c
  obtain ⟨u2, f3, f4⟩ := wt_pow (n := n) hs (p := fun x => q (t + x)) (hqn _) e2
  simp only [Nat.add_zero] at f3
  rw [show t + (L * t - t) = L * t by omega, show q (L * t) = c by show p (L * t % L) = c; rw [Nat.mul_mod_right, h1]] at f3
  obtain ⟨i2, hi2, ei2⟩ := sup_some hy
  have g5 : ∃ w, tpow n A (k + (L * t - t)) i2 c = some w ∧ y + u2 ≤ w := by
    rw [tpow_add hs]; exact mul_ge (hqn t) ei2 f3
  obtain ⟨w, g5, g6⟩ := g5
  obtain ⟨z, g7, g8⟩ := sup_ge (f := fun i => tpow n A (k + (L * t - t)) i c) hi2 g5
  have := hmax _ _ g7
  omega

/-- How far the arcs are above num/den. -/
def gain (A : TM) (num den : Int) : TM := fun i j => (A i j).map fun x => den * x - num
theorem gain_sup {n : Nat} {A : TM} (hs : Sup n A) (num den : Int) : Sup n (gain A num den) := fun i j h => by unfold gain; rw [hs i j h]; rfl
theorem wt_gain {A : TM} {num den : Int} {p : Nat → Nat} : ∀ k, wt (gain A num den) p k = (wt A p k).map fun x => den * x - num * (k : Int)
  | 0 => by simp [wt]
  | k + 1 => by
    show oadd (wt _ p k) _ = (oadd (wt A p k) _).map _
    rw [wt_gain k]
    unfold gain
    cases wt A p k <;> cases A (p k) (p (k + 1)) <;> simp [oadd, Int.mul_add]
    omega
theorem pow_gain {n : Nat} {A : TM} {num den : Int} (hd : 0 < den) : ∀ k i j, tpow n (gain A num den) k i j = (tpow n A k i j).map fun x => den * x - num * (k : Int)
  | 0, i, j => by
    show tone n i j = (tone n i j).map _
    unfold tone; split <;> simp
  | k + 1, i, j => by
    show tmul n _ _ i j = (tmul n _ _ i j).map _
    refine ub_ext fun u => ?_
    have hub : ∀ (o : O) (f : Int → Int) (u : Int), Ub (o.map f) u ↔ ∀ x, o = some x → f x ≤ u := fun o f u => by
      cases o with
      | none => exact ⟨fun _ x hx => (by cases hx), fun _ x hx => (by cases hx)⟩
      | some z => exact ⟨fun h x hx => by cases hx; exact h _ rfl, fun h x hx => by cases hx; exact h z rfl⟩
    rw [hub, ub_mul]
    constructor
    · intro h w hw
      obtain ⟨l, x, y, hl, hx, hy, rfl⟩ := mul_some hw
      have := h l (den * x - num * k) (den * y - num) hl (by rw [pow_gain hd k, hx]; rfl) (by unfold gain; rw [hy]; rfl)
      simp only [Int.mul_add, Int.natCast_add]; simp; omega
    · intro h l x y hl hx hy
      rw [pow_gain hd k] at hx
      obtain ⟨a, ha, rfl⟩ := Option.map_eq_some_iff.1 hx
      unfold gain at hy
      obtain ⟨b, hb, rfl⟩ := Option.map_eq_some_iff.1 hy
      obtain ⟨w, hw, hle⟩ := mul_ge (n := n) hl ha hb
      have h1 := h w hw
      have h2 := Int.mul_le_mul_of_nonneg_left hle (Int.le_of_lt hd)
      simp only [Int.mul_add, Int.natCast_add] at h1 h2; simp at h1; omega
end Go.Cy

end
section
/-
  THE GREATEST MEAN OF A CYCLE: that there is one, that it is one number, and that Karp's way finds it.
-/
namespace Go.Cy

/-- num/den is the mean of A: no closed path is above it, and one has it. -/
structure MeanOf (n : Nat) (A : TM) (num den : Int) : Prop where
  pos : 0 < den
  le : ∀ k i w, 0 < k → tpow n A k i i = some w → den * w ≤ num * (k : Int)
  eq : ∃ k c w, 0 < k ∧ tpow n A k c c = some w ∧ den * w = num * (k : Int)

theorem MeanOf.np {n : Nat} {A : TM} {num den : Int} (h : MeanOf n A num den) : NP n (gain A num den) := fun k i hk w hw => by
  rw [pow_gain h.pos] at hw
  obtain ⟨x, hx, rfl⟩ := Option.map_eq_some_iff.1 hw
  have := h.le k i x hk hx; omega
theorem MeanOf.zero {n : Nat} {A : TM} {num den : Int} (h : MeanOf n A num den) : ∃ L c, 0 < L ∧ tpow n (gain A num den) L c c = some 0 := by
  obtain ⟨k, c, w, h1, h2, h3⟩ := h.eq
  exact ⟨k, c, h1, by rw [pow_gain h.pos, h2]; simp; omega⟩
theorem MeanOf.of_gain {n : Nat} {A : TM} {num den : Int} (hd : 0 < den) (h1 : NP n (gain A num den)) (h2 : ∃ L c, 0 < L ∧ tpow n (gain A num den) L c c = some 0) : MeanOf n A num den := by
  refine ⟨hd, fun k i w hk hw => ?_, ?_⟩
  · have := h1 k i hk (den * w - num * k) (by rw [pow_gain hd, hw]; rfl); omega
  · obtain ⟨L, c, hL, h⟩ := h2
    rw [pow_gain hd] at h
    obtain ⟨x, hx, he⟩ := Option.map_eq_some_iff.1 h
    exact ⟨L, c, x, hL, hx, by omega⟩

/-- The means are equal as fractions. -/
theorem MeanOf.uniq {n : Nat} {A : TM} {p q p' q' : Int} (h : MeanOf n A p q) (h' : MeanOf n A p' q') : p * q' = p' * q := by
  obtain ⟨k, c, w, h1, h2, h3⟩ := h.eq
  obtain ⟨k', c', w', h1', h2', h3'⟩ := h'.eq
  have e1 := h'.le k c w h1 h2
  have e2 := h.le k' c' w' h1' h2'
  have hk : (0 : Int) < k := by omega
  have hk' : (0 : Int) < k' := by omega
  have hq := h.pos
  have hq' := h'.pos
  -- q' w <= p' k, q w = p k: multiply
  have f1 : k * (p * q') ≤ k * (p' * q) := by
    have : q * (q' * w) ≤ q * (p' * k) := Int.mul_le_mul_of_nonneg_left e1 (by omega)
    have a : q * (q' * w) = k * (p * q') := by rw [show q * (q' * w) = q' * (q * w) by rw [← Int.mul_assoc, Int.mul_comm q q', Int.mul_assoc], h3, ← Int.mul_assoc, Int.mul_comm q' p, Int.mul_comm]
    have b : q * (p' * k) = k * (p' * q) := by rw [← Int.mul_assoc, Int.mul_comm q p', Int.mul_comm]
    omega
  have f2 : k' * (p' * q) ≤ k' * (p * q') := by
    have : q' * (q * w') ≤ q' * (p * k') := Int.mul_le_mul_of_nonneg_left e2 (by omega)
    have a : q' * (q * w') = k' * (p' * q) := by rw [show q' * (q * w') = q * (q' * w') by rw [← Int.mul_assoc, Int.mul_comm q' q, Int.mul_assoc], h3', ← Int.mul_assoc, Int.mul_comm q p', Int.mul_comm]
    have b : q' * (p * k') = k' * (p * q') := by rw [← Int.mul_assoc, Int.mul_comm q' p, Int.mul_comm]
    omega
  exact Int.le_antisymm (Int.le_of_mul_le_mul_left f1 hk) (Int.le_of_mul_le_mul_left f2 hk')

/-- Another name of the same fraction. -/
theorem MeanOf.scale {n : Nat} {A : TM} {p q p' q' : Int} (h : MeanOf n A p q) (hq' : 0 < q') (e : p * q' = p' * q) : MeanOf n A p' q' := by
  have hq := h.pos
  refine ⟨hq', fun k i w hk hw => ?_, ?_⟩
  · have h1 := Int.mul_le_mul_of_nonneg_left (h.le k i w hk hw) (show 0 ≤ q' by omega)
    refine Int.le_of_mul_le_mul_left (a := q) ?_ hq
    have a : q * (q' * w) = q' * (q * w) := by rw [← Int.mul_assoc, Int.mul_comm q q', Int.mul_assoc]
    have b : q * (p' * k) = q' * (p * k) := by rw [← Int.mul_assoc, ← Int.mul_assoc, Int.mul_comm q p', Int.mul_comm q' p, e]
    omega
  · obtain ⟨k, c, w, h1, h2, h3⟩ := h.eq
    refine ⟨k, c, w, h1, h2, ?_⟩
    refine Int.eq_of_mul_eq_mul_left (a := q) (by omega) ?_
    rw [show q * (q' * w) = q' * (q * w) by rw [← Int.mul_assoc, Int.mul_comm q q', Int.mul_assoc], h3, ← Int.mul_assoc, ← Int.mul_assoc, Int.mul_comm q p', Int.mul_comm q' p, e]

/-- A greatest fraction of finitely many. -/
theorem max_frac {α : Type} (num den : α → Int) (hd : ∀ a, 0 < den a) : ∀ (l : List α), l ≠ [] → ∃ a ∈ l, ∀ b ∈ l, num b * den a ≤ num a * den b
  | [], h => absurd rfl h
  | [a], _ => ⟨a, by simp, fun b hb => by simp at hb; subst hb; exact Int.le_refl _⟩
  | a :: b :: l, _ => by
    obtain ⟨m, h1, h2⟩ := max_frac num den hd (b :: l) (by simp)
    by_cases hc : num a * den m ≤ num m * den a
    · exact ⟨m, by simp [List.mem_cons.1 h1], fun c hc' => by
        rcases List.mem_cons.1 hc' with rfl | hc'
        · exact hc
        · exact h2 c hc'⟩
    · refine ⟨a, by simp, fun c hc' => ?_⟩
      rcases List.mem_cons.1 hc' with rfl | hc'
      · exact Int.le_refl _
      · have e1 := h2 c hc'
        have hm := hd m
        have ha := hd a
        have hcd := hd c
        refine Int.le_of_mul_le_mul_left (a := den m) ?_ hm
        have s1 : den a * (num c * den m) ≤ den a * (num m * den c) := Int.mul_le_mul_of_nonneg_left e1 (by omega)
        have s2 : den c * (num m * den a) ≤ den c * (num a * den m) := Int.mul_le_mul_of_nonneg_left (by omega) (by omega)
        have a1 : den a * (num c * den m) = den m * (num c * den a) := by rw [Int.mul_comm, Int.mul_assoc, Int.mul_comm (den m), ← Int.mul_assoc, Int.mul_comm]
        have a2 : den a * (num m * den c) = den c * (num m * den a) := by rw [Int.mul_comm, Int.mul_assoc, Int.mul_comm (den c), ← Int.mul_assoc, Int.mul_comm]
        have a3 : den c * (num a * den m) = den m * (num a * den c) := by rw [Int.mul_comm, Int.mul_assoc, Int.mul_comm (den m), ← Int.mul_assoc, Int.mul_comm]
        omega

/-- Where there is a closed path, there is a mean. -/
theorem mean_ex {n : Nat} {A : TM} (hs : Sup n A) {k0 c0 : Nat} {w0 : Int} (hk0 : 0 < k0) (h0 : tpow n A k0 c0 c0 = some w0) : ∃ p q, MeanOf n A p q := by
  -- a short closed path
  have hshort : ∀ (k i : Nat) (w : Int), 0 < k → tpow n A k i i = some w → ∃ k' i' w', 0 < k' ∧ k' ≤ n ∧ i' < n ∧ tpow n A k' i' i' = some w' := by
    intro k i w hk hw
    obtain ⟨p, h1, h2, h3, h4⟩ := pow_wt hs hw
    by_cases hkn : k ≤ n
    · exact ⟨k, i, w, hk, hkn, by rw [← h1]; exact h4 0 (by omega), hw⟩
    · obtain ⟨s, t, a1, a2, a3⟩ := pigeon n p fun m hm => h4 m (by omega)
      obtain ⟨w1, w2, c1, c2, _, _, _, b4, _⟩ := cut_path hs a1 (by omega) a3 h3 h4
      exact ⟨t - s, p s, c1, by omega, by omega, h4 s (by omega), b4⟩
  obtain ⟨k1, c1, w1, p1, p2, p3, p4⟩ := hshort k0 c0 w0 hk0 h0
  -- the candidates
  let cand : List (Nat × Nat) := (List.range n).flatMap fun k => (List.range n).map fun i => (k, i)
  have hcand : ∀ k i, (k, i) ∈ cand ↔ k < n ∧ i < n := fun k i => by simp [cand]
  let good := cand.filter fun q => (tpow n A (q.1 + 1) q.2 q.2).isSome
  have hgood : ∀ k i, (k, i) ∈ good ↔ (k < n ∧ i < n) ∧ (tpow n A (k + 1) i i).isSome = true := fun k i => by
    show (k, i) ∈ List.filter _ _ ↔ _
    rw [List.mem_filter, hcand]
  have hne : good ≠ [] := fun e => by
    have : (k1 - 1, c1) ∈ good := (hgood _ _).2 ⟨⟨by omega, p3⟩, by rw [show k1 - 1 + 1 = k1 by omega, p4]; rfl⟩
    rw [e] at this; cases this
  obtain ⟨a, ha, hmax⟩ := max_frac (fun q : Nat × Nat => (tpow n A (q.1 + 1) q.2 q.2).getD 0) (fun q => ((q.1 + 1 : Nat) : Int)) (fun q => by omega) good hne
  obtain ⟨ka, ia⟩ := a
  have ha' := (hgood _ _).1 ha
  obtain ⟨wa, hwa⟩ := Option.isSome_iff_exists.1 ha'.2
  have hle : ∀ k i, 0 < k → k ≤ n → ∀ w, tpow n A k i i = some w → ((ka + 1 : Nat) : Int) * w ≤ wa * k := fun k i hk hkn w hw => by
    have hi : i < n := Classical.byContradiction fun hi => by rw [tpow_sup hs k i i fun h => hi h.1] at hw; cases hw
    have := hmax (k - 1, i) ((hgood _ _).2 ⟨⟨by omega, hi⟩, by rw [show k - 1 + 1 = k by omega, hw]; rfl⟩)
    simp only [hwa, show k - 1 + 1 = k by omega, hw, Option.getD_some] at this
    rw [Int.mul_comm]; exact this
  refine ⟨wa, ((ka + 1 : Nat) : Int), MeanOf.of_gain (by omega) (np_of_short (gain_sup hs _ _) fun k i hk hkn w hw => ?_) ⟨ka + 1, ia, by omega, by rw [pow_gain (by omega), hwa]; simp; rw [Int.mul_comm]; omega⟩⟩
  rw [pow_gain (by omega)] at hw
  obtain ⟨x, hx, rfl⟩ := Option.map_eq_some_iff.1 hw
  have := hle k i hk hkn x hx; omega

theorem map_max {den c : Int} (hd : 0 < den) (a b : O) : (omax a b).map (fun x => den * x - c) = omax (a.map fun x => den * x - c) (b.map fun x => den * x - c) := by
  cases a with
  | none => cases b <;> rfl
  | some x => cases b with
    | none => rfl
    | some y =>
      simp only [omax, Option.map_some, Option.some.injEq]
      rcases Int.le_total x y with h | h
      · have := Int.mul_le_mul_of_nonneg_left h (Int.le_of_lt hd)
        rw [Int.max_eq_right h, Int.max_eq_right (by omega)]
      · have := Int.mul_le_mul_of_nonneg_left h (Int.le_of_lt hd)
        rw [Int.max_eq_left h, Int.max_eq_left (by omega)]
theorem map_sup {den c : Int} (hd : 0 < den) (f : Nat → O) : ∀ n, (osup n f).map (fun x => den * x - c) = osup n fun k => (f k).map fun x => den * x - c
  | 0 => rfl
  | n + 1 => by rw [osup, map_max hd, map_sup hd f n]; rfl
theorem dk_gain {n : Nat} {A : TM} {num den : Int} (hd : 0 < den) (k j : Nat) : dk n (gain A num den) k j = (dk n A k j).map fun x => den * x - num * (k : Int) := by
  unfold dk
  rw [map_sup hd]
  exact sup_congr fun i _ => pow_gain hd k i j

/-- KARP'S THEOREM, with the mean. -/
theorem karp_a {n : Nat} {A : TM} {p q : Int} (hs : Sup n A) (h : MeanOf n A p q) {j : Nat} {x : Int} (hx : dk n A n j = some x) : ∃ k y, k < n ∧ dk n A k j = some y ∧ q * (x - y) ≤ p * ((n : Int) - k) := by
  obtain ⟨k, y, h1, h2, h3⟩ := karp_le (gain_sup hs p q) h.np (j := j) (x := q * x - p * n) (by rw [dk_gain h.pos, hx]; rfl)
  rw [dk_gain h.pos] at h2
  obtain ⟨z, hz, rfl⟩ := Option.map_eq_some_iff.1 h2
  refine ⟨k, z, h1, hz, ?_⟩
  rw [Int.mul_sub, Int.mul_sub]; omega
theorem karp_b {n : Nat} {A : TM} {p q : Int} (hs : Sup n A) (h : MeanOf n A p q) : ∃ j x, j < n ∧ dk n A n j = some x ∧ ∀ k y, dk n A k j = some y → p * ((n : Int) - k) ≤ q * (x - y) := by
  obtain ⟨L, c, hL, hc⟩ := h.zero
  obtain ⟨j, x, h1, h2⟩ := karp_ge (gain_sup hs p q) h.np hL hc
  have hj : j < n := Classical.byContradiction fun hj => by
    obtain ⟨i, _, e⟩ := sup_some h1
    rw [tpow_sup (gain_sup hs p q) _ _ _ fun h => hj h.2] at e; cases e
  rw [dk_gain h.pos] at h1
  obtain ⟨z, hz, rfl⟩ := Option.map_eq_some_iff.1 h1
  refine ⟨j, z, hj, hz, fun k y hy => ?_⟩
  have := h2 k (q * y - p * k) (by rw [dk_gain h.pos, hy]; rfl)
  rw [Int.mul_sub, Int.mul_sub]; omega

/-- A way of n arcs meets a node twice. -/
theorem closed_of_dk {n : Nat} {A : TM} (hs : Sup n A) {j : Nat} {x : Int} (h : dk n A n j = some x) : ∃ k c w, 0 < k ∧ tpow n A k c c = some w := by
  obtain ⟨i, hi, e⟩ := sup_some h
  obtain ⟨p, h1, h2, h3, h4⟩ := pow_wt hs e
  obtain ⟨s, t, a1, a2, a3⟩ := pigeon n p fun m hm => h4 m (by omega)
  obtain ⟨w1, w2, c1, c2, _, _, _, b4, _⟩ := cut_path hs a1 (by omega) a3 h3 h4
  exact ⟨t - s, p s, c1, by omega, b4⟩
theorem dk_of_closed {n : Nat} {A : TM} (hs : Sup n A) {k c : Nat} {w : Int} (hk : 0 < k) (h : tpow n A k c c = some w) : ∃ j x, j < n ∧ dk n A n j = some x := by
  obtain ⟨p, q, hm⟩ := mean_ex hs hk h
  obtain ⟨j, x, h1, h2, _⟩ := karp_b hs hm
  exact ⟨j, x, h1, h2⟩

/-- Karp's way. -/
def bestI (n : Nat) (a : Nat → Nat → Int) : Nat → Nat → Int
  | 0, _ => 0
  | k + 1, j => gre ((List.range n).map fun i => aft (bestI n a k i) (a i j))
def belowI (f g : Int × Int) : Bool := decide (f.1 * g.2 < g.1 * f.2)
/-- The least rate of a node, over the first k numbers of arcs. -/
def rateI (n : Nat) (a : Nat → Nat → Int) (j : Nat) : Nat → Int × Int
  | 0 => (0, 0)
  | k + 1 => let r := (bestI n a n j - bestI n a k j, (n : Int) - k)
    if k = 0 ∨ belowI r (rateI n a j k) = true then r else rateI n a j k
/-- The greatest of the first j nodes. -/
def topI (n : Nat) (a : Nat → Nat → Int) : Nat → Option (Int × Int)
  | 0 => none
  | j + 1 => if bestI n a n j = Nv then topI n a j else
    match topI n a j with
    | none => some (rateI n a j n)
    | some m => if belowI m (rateI n a j n) then some (rateI n a j n) else some m
def lowI (f : Int × Int) : Int × Int := (f.1.tdiv (Int.gcd f.1 f.2), f.2.tdiv (Int.gcd f.1 f.2))
def meanI (n : Nat) (a : Nat → Nat → Int) : Option (Int × Int) := (topI n a n).map lowI

theorem best_good {n : Nat} {b : Int} {a : Nat → Nat → Int} (ha : GoodM b a) (hb : 0 ≤ b) : ∀ (k : Nat) (j : Nat), Good (k * b) (bestI n a k j)
  | 0, j => .inr (by simp [bestI])
  | k + 1, j => by
    refine gre_good fun x hx => ?_
    obtain ⟨i, _, rfl⟩ := List.mem_map.1 hx
    have := aft_good (best_good (n := n) ha hb k i) (ha i j)
    rwa [show (((k + 1 : Nat) : Int) * b) = (k : Int) * b + b by rw [Int.natCast_add, Int.add_mul]; simp]
theorem best_dec {n : Nat} {b : Int} {a : Nat → Nat → Int} (ha : GoodM b a) (hb : 0 ≤ b) : ∀ {k : Nat}, (k : Int) * b ≤ 1000000000000 → ∀ j, j < n → dec (bestI n a k j) = dk n (DM a) k j
  | 0, _, j, hj => by rw [dk_zero hj]; exact dec_some (by unfold Nv; simp [bestI])
  | k + 1, h, j, hj => by
    have e : (((k + 1 : Nat) : Int) * b) = (k : Int) * b + b := by rw [Int.natCast_add, Int.add_mul]; simp
    show dec (gre _) = _
    rw [gre_range (b := (k : Int) * b + b) (by omega) fun i _ => aft_good (best_good ha hb k i) (ha i j), dk_succ]
    refine sup_congr fun i hi => ?_
    rw [aft_dec (best_good ha hb k i) (ha i j) (by omega), best_dec ha hb (by omega) i hi]
    rfl

/-- What the least rate is. -/
theorem rate_spec {n : Nat} {a : Nat → Nat → Int} {j : Nat} : ∀ {k : Nat}, 0 < k → k ≤ n → (∃ k0, k0 < k ∧ rateI n a j k = (bestI n a n j - bestI n a k0 j, (n : Int) - k0)) ∧
    ∀ m, m < k → (rateI n a j k).1 * ((n : Int) - m) ≤ (bestI n a n j - bestI n a m j) * (rateI n a j k).2
  | 0, h, _ => absurd h (by omega)
  | k + 1, _, hn => by
    by_cases hk : k = 0
    · subst hk
      have e : rateI n a j 1 = (bestI n a n j - bestI n a 0 j, (n : Int) - (0 : Nat)) := by
        unfold rateI; exact if_pos (.inl rfl)
      refine ⟨⟨0, by omega, e⟩, fun m hm => ?_⟩
      rw [show m = 0 by omega, e]; exact Int.le_refl _
    · obtain ⟨⟨k0, h1, h2⟩, h3⟩ := rate_spec (n := n) (a := a) (j := j) (k := k) (by omega) (by omega)
      by_cases hb : belowI (bestI n a n j - bestI n a k j, (n : Int) - k) (rateI n a j k) = true
      · have e : rateI n a j (k + 1) = (bestI n a n j - bestI n a k j, (n : Int) - k) := if_pos (.inr hb)
        refine ⟨⟨k, by omega, e⟩, fun m hm => ?_⟩
        rw [e]
        by_cases em : m = k
        · subst em; exact Int.le_refl _
        · have g1 := h3 m (by omega)
          have g2 := of_decide_eq_true hb
          rw [h2] at g1 g2
          simp only at g1 g2 ⊢
          refine Int.le_of_mul_le_mul_left (a := (n : Int) - k0) ?_ (by omega)
          have s1 := Int.mul_le_mul_of_nonneg_left g1 (show (0 : Int) ≤ (n : Int) - k by omega)
          have s2 := Int.mul_le_mul_of_nonneg_left (Int.le_of_lt g2) (show (0 : Int) ≤ (n : Int) - m by omega)
          simp only [Int.mul_comm, Int.mul_left_comm] at s1 s2 ⊢
          exact Int.le_trans s2 s1
      · have e : rateI n a j (k + 1) = rateI n a j k := if_neg (by rintro (h | h); exact hk h; exact hb h)
        rw [e]
        refine ⟨⟨k0, by omega, h2⟩, fun m hm => ?_⟩
        by_cases em : m = k
        · subst em
          have g2 : ¬ ((bestI n a n j - bestI n a m j) * (rateI n a j m).2 < (rateI n a j m).1 * ((n : Int) - m)) := fun h => hb (decide_eq_true h)
          omega
        · exact h3 m (by omega)

/-- What the greatest of them is. -/
theorem top_spec {n : Nat} {a : Nat → Nat → Int} (hn : 0 < n) : ∀ {j : Nat},
    (topI n a j = none → ∀ i, i < j → bestI n a n i = Nv) ∧
    ∀ m, topI n a j = some m → (∃ i, i < j ∧ bestI n a n i ≠ Nv ∧ m = rateI n a i n) ∧ ∀ i, i < j → bestI n a n i ≠ Nv → (rateI n a i n).1 * m.2 ≤ m.1 * (rateI n a i n).2
  | 0 => ⟨fun _ i h => by omega, fun m h => by cases h⟩
  | j + 1 => by
    obtain ⟨h1, h2⟩ := top_spec (a := a) hn (j := j)
    have hpos : ∀ i, 0 < (rateI n a i n).2 := fun i => by
      obtain ⟨⟨k0, h3, h4⟩, _⟩ := rate_spec (a := a) (j := i) hn (Nat.le_refl n)
      rw [h4]; simp only; omega
    by_cases hb : bestI n a n j = Nv
    · have e : topI n a (j + 1) = topI n a j := by show (if _ then _ else _) = _; rw [if_pos hb]
      rw [e]
      refine ⟨fun h i hi => ?_, fun m hm => ?_⟩
      · by_cases ei : i = j
        · subst ei; exact hb
        · exact h1 h i (by omega)
      · obtain ⟨⟨i0, k1, k2, k3⟩, k4⟩ := h2 m hm
        refine ⟨⟨i0, by omega, k2, k3⟩, fun i hi hne => ?_⟩
        by_cases ei : i = j
        · subst ei; exact absurd hb hne
        · exact k4 i (by omega) hne
    · cases ht : topI n a j with
      | none =>
        have e : topI n a (j + 1) = some (rateI n a j n) := by show (if _ then _ else _) = _; rw [if_neg hb, ht]
        rw [e]
        refine ⟨(by simp), fun m hm => ?_⟩
        cases hm
        refine ⟨⟨j, by omega, hb, rfl⟩, fun i hi hne => ?_⟩
        by_cases ei : i = j
        · subst ei; exact Int.le_refl _
        · exact absurd (h1 ht i (by omega)) hne
      | some m0 =>
        obtain ⟨⟨i0, k1, k2, k3⟩, k4⟩ := h2 m0 ht
        by_cases hlt : belowI m0 (rateI n a j n) = true
        · have e : topI n a (j + 1) = some (rateI n a j n) := by show (if _ then _ else _) = _; rw [if_neg hb, ht]; simp only [hlt, if_true]
          rw [e]
          refine ⟨(by simp), fun m hm => ?_⟩
          cases hm
          refine ⟨⟨j, by omega, hb, rfl⟩, fun i hi hne => ?_⟩
          by_cases ei : i = j
          · subst ei; exact Int.le_refl _
          · have g1 := k4 i (by omega) hne
            have g2 := of_decide_eq_true hlt
            have hm0 : 0 < m0.2 := by rw [k3]; exact hpos _
            refine Int.le_of_mul_le_mul_left (a := m0.2) ?_ hm0
            have s1 := Int.mul_le_mul_of_nonneg_left g1 (Int.le_of_lt (hpos j))
            have s2 := Int.mul_le_mul_of_nonneg_left (Int.le_of_lt g2) (Int.le_of_lt (hpos i))
            simp only [Int.mul_comm, Int.mul_left_comm, Int.mul_assoc] at s1 s2 ⊢
            exact Int.le_trans s1 s2
        · have e : topI n a (j + 1) = some m0 := by show (if _ then _ else _) = _; rw [if_neg hb, ht]; simp only [hlt]; rfl
          rw [e]
          refine ⟨(by simp), fun m hm => ?_⟩
          cases hm
          refine ⟨⟨i0, by omega, k2, k3⟩, fun i hi hne => ?_⟩
          by_cases ei : i = j
          · subst ei
            have g2 : ¬ (m0.1 * (rateI n a i n).2 < (rateI n a i n).1 * m0.2) := fun h => hlt (decide_eq_true h)
            omega
          · exact k4 i (by omega) hne

/-- The lowest terms of a fraction. -/
theorem low_spec {f : Int × Int} (h : 0 < f.2) : 0 < (lowI f).2 ∧ f.1 * (lowI f).2 = (lowI f).1 * f.2 ∧ Int.gcd (lowI f).1 (lowI f).2 = 1 := by
  have hg : 0 < Int.gcd f.1 f.2 := Int.gcd_pos_iff.2 (.inr (by omega))
  have d1 : ((Int.gcd f.1 f.2 : Nat) : Int) ∣ f.1 := Int.gcd_dvd_left ..
  have d2 : ((Int.gcd f.1 f.2 : Nat) : Int) ∣ f.2 := Int.gcd_dvd_right ..
  obtain ⟨x, hx⟩ := d1
  obtain ⟨y, hy⟩ := d2
  have hgz : ((Int.gcd f.1 f.2 : Nat) : Int) ≠ 0 := by omega
  have e1 : (lowI f).1 = x := (congrArg (fun z => Int.tdiv z _) hx).trans (Int.mul_tdiv_cancel_left _ hgz)
  have e2 : (lowI f).2 = y := (congrArg (fun z => Int.tdiv z _) hy).trans (Int.mul_tdiv_cancel_left _ hgz)
  rw [e1, e2]
  refine ⟨?_, ?_, ?_⟩
  · refine Classical.byContradiction fun hn => ?_
    have : ((Int.gcd f.1 f.2 : Nat) : Int) * y ≤ 0 := Int.mul_nonpos_of_nonneg_of_nonpos (by omega) (by omega)
    omega
  · have : f.1 * y = x * f.2 := by
      have a := congrArg (· * y) hx
      have b := congrArg (x * ·) hy
      have a' : f.1 * y = (Int.gcd f.1 f.2 : Int) * x * y := a
      have b' : x * f.2 = x * ((Int.gcd f.1 f.2 : Int) * y) := b
      rw [a', b', Int.mul_comm _ x, Int.mul_assoc]
    exact this
  · have e : Int.gcd f.1 f.2 = Int.gcd f.1 f.2 * Int.gcd x y := by
      have := Int.gcd_mul_left (m := (Int.gcd f.1 f.2 : Int)) (n := x) (k := y)
      rw [← hx, ← hy] at this
      simpa using this
    exact Nat.eq_of_mul_eq_mul_left hg (by omega)

/-- KARP'S WAY FINDS THE MEAN. -/
theorem mean_none {n : Nat} {b : Int} {a : Nat → Nat → Int} (hn : 0 < n) (ha : GoodM b a) (hb : 0 ≤ b) (hs : Sup n (DM a)) (hB : (n : Int) * b ≤ 1000000000000) (h : meanI n a = none) : ∀ k c, 0 < k → tpow n (DM a) k c c = none := by
  intro k c hk
  cases hw : tpow n (DM a) k c c with
  | none => rfl
  | some w =>
    obtain ⟨j, x, h1, h2⟩ := dk_of_closed hs hk hw
    have ht : topI n a n = none := by
      unfold meanI at h
      cases ht : topI n a n with
      | none => rfl
      | some m => rw [ht] at h; cases h
    have := (top_spec hn).1 ht j h1
    rw [← best_dec ha hb hB j h1, this, dec_nv] at h2; cases h2
theorem mean_some {n : Nat} {b : Int} {a : Nat → Nat → Int} (hn : 0 < n) (ha : GoodM b a) (hb : 0 ≤ b) (hs : Sup n (DM a)) (hB : (n : Int) * b ≤ 1000000000000) {m : Int × Int} (h : meanI n a = some m) :
    MeanOf n (DM a) m.1 m.2 ∧ Int.gcd m.1 m.2 = 1 := by
  unfold meanI at h
  cases ht : topI n a n with
  | none => rw [ht] at h; cases h
  | some r =>
    rw [ht] at h
    cases h
    obtain ⟨⟨i, h1, h2, h3⟩, h4⟩ := (top_spec hn).2 r ht
    have hdk : ∀ k j, k ≤ n → j < n → dec (bestI n a k j) = dk n (DM a) k j := fun k j hk hj => best_dec ha hb (Int.le_trans (Int.mul_le_mul_of_nonneg_right (by omega) hb) hB) j hj
    have hx : dk n (DM a) n i = some (bestI n a n i) := by rw [← hdk n i (Nat.le_refl _) h1, dec_some h2]
    obtain ⟨k, c, w, g1, g2⟩ := closed_of_dk hs hx
    obtain ⟨p, q, hm⟩ := mean_ex hs g1 g2
    have hq := hm.pos
    obtain ⟨⟨k0, s1, s2⟩, s3⟩ := rate_spec (a := a) (j := i) hn (Nat.le_refl n)
    have hr2 : 0 < r.2 := by rw [h3, s2]; simp only; omega
    -- at most the mean
    have le1 : q * r.1 ≤ p * r.2 := by
      obtain ⟨k, y, t1, t2, t3⟩ := karp_a hs hm hx
      have hy : bestI n a k i = y := by
        have := hdk k i (by omega) h1
        rw [t2] at this
        unfold dec at this
        split at this
        · cases this
        · simpa using this
      have := s3 k t1
      rw [hy, ← h3] at this
      refine Int.le_of_mul_le_mul_left (a := (n : Int) - k) ?_ (by omega)
      have u1 := Int.mul_le_mul_of_nonneg_left this (Int.le_of_lt hq)
      have u2 := Int.mul_le_mul_of_nonneg_left t3 (Int.le_of_lt hr2)
      simp only [Int.mul_comm, Int.mul_left_comm, Int.mul_assoc] at u1 u2 ⊢
      exact Int.le_trans u1 u2
    have le2 : p * r.2 ≤ q * r.1 := by
      obtain ⟨j, x, t1, t2, t3⟩ := karp_b hs hm
      have hx' : bestI n a n j ≠ Nv ∧ bestI n a n j = x := by
        have := hdk n j (Nat.le_refl _) t1
        rw [t2] at this
        unfold dec at this
        split at this
        · cases this
        · rename_i hne; exact ⟨hne, by simpa using this⟩
      have u0 := h4 j t1 hx'.1
      obtain ⟨⟨k1, v1, v2⟩, _⟩ := rate_spec (a := a) (j := j) hn (Nat.le_refl n)
      rw [v2] at u0
      simp only at u0
      obtain ⟨y, hy⟩ := dk_down hs t2 (show k1 ≤ n by omega)
      have hy' : bestI n a k1 j = y := by
        have := hdk k1 j (by omega) t1
        rw [hy] at this
        unfold dec at this
        split at this
        · cases this
        · simpa using this
      rw [hx'.2, hy'] at u0
      have t4 := t3 k1 y hy
      refine Int.le_of_mul_le_mul_left (a := (n : Int) - k1) ?_ (by omega)
      have u1 := Int.mul_le_mul_of_nonneg_left u0 (Int.le_of_lt hq)
      have u2 := Int.mul_le_mul_of_nonneg_left t4 (Int.le_of_lt hr2)
      simp only [Int.mul_comm, Int.mul_left_comm, Int.mul_assoc] at u1 u2 ⊢
      exact Int.le_trans u2 u1
    obtain ⟨l1, l2, l3⟩ := low_spec hr2
    refine ⟨(hm.scale hr2 (p' := r.1) ?_).scale l1 l2, l3⟩
    rw [Int.mul_comm r.1]; omega
end Go.Cy

end
section
/-
  MATRICES OF INTS as deep values: by functions of the row and the column.
-/
namespace Go.Cy
open Go.Vm Go.RowKit

theorem genM_len (R N : Nat) (f : Nat → Nat → Int) : (genM R N f).length = R := by simp [genM]
theorem genM_row {R N : Nat} {f : Nat → Nat → Int} {i : Nat} (h : i < (genM R N f).length) : (genM R N f)[i] = (List.range N).map (f i) := by simp [genM]
theorem genM_get {R N : Nat} {f : Nat → Nat → Int} {i j : Nat} (h : i < (genM R N f).length) (h' : j < ((genM R N f)[i]).length) : ((genM R N f)[i])[j] = f i j := by simp [genM]
theorem genM_rowlen {R N : Nat} {f : Nat → Nat → Int} {i : Nat} (h : i < (genM R N f).length) : ((genM R N f)[i]).length = N := by simp [genM]

/-- A matrix as a function: never outside. -/
def mf (m : List (List Int)) : Nat → Nat → Int := fun i j => (m.getD i []).getD j Nv
def okX (L x : Int) : Bool := decide (x = Nv) || (decide (-L ≤ x) && decide (x ≤ L))
def okRow (n : Nat) (L : Int) (r : List Int) : Bool := decide (r.length = n) && r.all (okX L)
def validB (L : Int) (m : List (List Int)) : Bool := (decide (1 ≤ m.length) && decide (m.length ≤ 6)) && m.all (okRow m.length L)

theorem genM_mf {m : List (List Int)} {n : Nat} (hn : m.length = n) (hr : ∀ r ∈ m, r.length = n) : m = genM n n (mf m) := by
  refine List.ext_getElem (by simp [genM, hn]) fun i h1 h2 => ?_
  refine List.ext_getElem (by simp [genM]; exact hr _ (List.getElem_mem h1)) fun j h3 h4 => ?_
  rw [genM_get]
  simp [mf, h1, h3]
theorem valid_of {L : Int} {m : List (List Int)} (h : validB L m = true) : 1 ≤ m.length ∧ m.length ≤ 6 ∧ m = genM m.length m.length (mf m) ∧ GoodM L (mf m) ∧ Sup m.length (DM (mf m)) := by
  unfold validB at h
  simp only [Bool.and_eq_true, decide_eq_true_eq, List.all_eq_true] at h
  obtain ⟨⟨h1, h2⟩, h3⟩ := h
  have hr : ∀ r ∈ m, r.length = m.length ∧ ∀ x ∈ r, x = Nv ∨ (-L ≤ x ∧ x ≤ L) := fun r hr => by
    have := h3 r hr
    simp only [okRow, Bool.and_eq_true, decide_eq_true_eq, List.all_eq_true, okX, Bool.or_eq_true] at this
    exact this
  refine ⟨h1, h2, genM_mf rfl fun r h => (hr r h).1, fun i j => ?_, fun i j hij => ?_⟩
  · unfold mf
    by_cases hi : i < m.length
    · have e : m.getD i [] = m[i] := by simp [hi]
      rw [e]
      by_cases hj : j < m[i].length
      · have e2 : m[i].getD j Nv = m[i][j] := by simp [hj]
        rw [e2]; exact (hr _ (List.getElem_mem hi)).2 _ (List.getElem_mem hj)
      · left; simp [hj]
    · left; simp [hi]
  · show dec _ = none
    have : mf m i j = Nv := by
      unfold mf
      by_cases hi : i < m.length
      · have e : m.getD i [] = m[i] := by simp [hi]
        rw [e]
        have hj : ¬ j < m[i].length := fun h => hij ⟨hi, by rw [← (hr _ (List.getElem_mem hi)).1]; exact h⟩
        simp [hj]
      · simp [hi]
    rw [this, dec_nv]

theorem gre_take {l : List Int} {i : Nat} (h : i < l.length) : gre (l.take (i + 1)) = max (gre (l.take i)) l[i] := by
  rw [List.take_succ_eq_append_getElem h]; exact foldl_snoc _ _ _
theorem gre_end {l : List Int} {i : Nat} (h : l.length ≤ i) : l.take i = l := List.take_of_length_le h
theorem wrapI {x : Int} (h : -9223372036854775808 ≤ x ∧ x ≤ 9223372036854775807) : IntKind.i64.wrap x = x := wrap_id (by omega)

/-- Cells of a slice of ints of one's own. -/
def icells (l : List Int) : List XV := l.map fun x => .d (DI x)
theorem icells_len (l : List Int) : (icells l).length = l.length := by simp [icells]
theorem icells_get {l : List Int} {i : Nat} (h : i < l.length) : (icells l)[0 + i]? = some (.d (DI l[i])) := by simp [icells, h]
end Go.Cy

end
section
/-
  MATRICES THAT ARE MADE BY A FUNCTION VALUE, behind other objects.
-/
namespace Go.Vm
open Go.RowKit

/-- A contract on deep values, among objects. -/
theorem DeepCall.own {P : Program} {f : FuncId} {args : List DV} {res : DV} (h : DeepCall P f args res) (σ : List VObj) : OwnCall P f σ (args.map .d) σ (.d res) := by
  intro M W0 ι w vs hm hl hx
  refine (h (Forb M ι σ) w vs hm.forb_lt (by simpa using hl) fun i v x hv hx' => ?_).mono fun e w' => ?_
  · have := hx i v (.d x) hv (by simp [hx'])
    cases this with
    | d h => exact h
  · rintro ⟨v, rfl, h1, h2⟩
    obtain ⟨g1, g2⟩ := hm.grown h2
    exact ⟨ι, σ, .d res, v, rfl, g1, g2, .d h1, rfl, rfl⟩

section
variable (L N : Nat) (f : Nat → Nat → Int)
def oslL (k : Nat) : XV := .osl (L + k + 1) 0 N 1 N true
def gP (i : Nat) : List VObj := ⟨updL N (oslL L N) (.d Dnil) i, 0⟩ :: doneG N f i
def gQ (i j : Nat) : List VObj := ⟨updL N (oslL L N) (.d Dnil) (i + 1), 0⟩ :: (doneG N f i ++ [⟨rowC N f i j, 0⟩])
end
section
variable {L N : Nat} {f : Nat → Nat → Int} {pre : List VObj}
theorem gP_zero : gP L N f 0 = [⟨List.replicate N (.d Dnil), 0⟩] := by rw [updL_zero (f := oslL L N)]; rfl
theorem gP_len (i : Nat) : (gP L N f i).length = i + 1 := by simp [gP, doneG_len]
theorem gQ_len (i j : Nat) : (gQ L N f i j).length = i + 2 := by simp [gQ, doneG_len]
theorem gP_at (h : pre.length = L) (i : Nat) : (pre ++ gP L N f i)[L]? = some ⟨updL N (oslL L N) (.d Dnil) i, 0⟩ := by
  rw [List.getElem?_append_right (by omega), h]; simp [gP]
theorem gQ_at (h : pre.length = L) (i j : Nat) : (pre ++ gQ L N f i j)[L]? = some ⟨updL N (oslL L N) (.d Dnil) (i + 1), 0⟩ := by
  rw [List.getElem?_append_right (by omega), h]; simp [gQ]
theorem gP_start (h : pre.length = L) {i : Nat} (hi : i < N) :
    ((pre ++ gP L N f i) ++ [(⟨List.replicate N (XV.d (.lit (.int .i64 0))), 0⟩ : VObj)]).set L ⟨(updL N (oslL L N) (.d Dnil) i).set (0 + i) (.osl (pre ++ gP L N f i).length 0 N 1 N true), 0⟩ = pre ++ gQ L N f i 0 := by
  rw [List.append_assoc, List.set_append_right _ _ (by omega), h, List.length_append, gP_len, h, Nat.zero_add, show XV.osl (L + (i + 1)) 0 N 1 N true = oslL L N i from rfl, updL_set hi, updL_zero (f := rowF f i), Nat.sub_self]
  rfl
theorem gQ_row (h : pre.length = L) (i j : Nat) : (pre ++ gQ L N f i j)[L + i + 1]? = some ⟨rowC N f i j, 0⟩ := by
  rw [List.getElem?_append_right (by omega), show L + i + 1 - pre.length = i + 1 by omega]
  simp only [gQ, List.getElem?_cons_succ]
  rw [List.getElem?_append_right (by rw [doneG_len]; omega), doneG_len]; simp
theorem gQ_step (h : pre.length = L) {i j : Nat} (hj : j < N) : (pre ++ gQ L N f i j).set (L + i + 1) ⟨(rowC N f i j).set (0 + j) (.d (DI (f i j))), 0⟩ = pre ++ gQ L N f i (j + 1) := by
  rw [Nat.zero_add, show rowC N f i j = updL N (rowF f i) _ j from rfl, show XV.d (DI (f i j)) = rowF f i j from rfl, updL_set hj, List.set_append_right _ _ (by omega), show L + i + 1 - pre.length = i + 1 by omega]
  simp only [gQ, List.set_cons_succ]
  rw [List.set_append_right _ _ (by rw [doneG_len]; omega), doneG_len]
  simp [rowC]
theorem gQ_end (i : Nat) : gQ L N f i N = gP L N f (i + 1) := by rw [gQ, gP, doneG_succ]
theorem oslL_get {i : Nat} (hi : i < N) : (updL N (oslL L N) (.d Dnil) (i + 1))[0 + i]? = some (.osl (L + i + 1) 0 N 1 N true) := by
  rw [Nat.zero_add, updL_get hi (by omega)]; rfl
theorem rowC_len' (i j : Nat) : (rowC N f i j).length = N := updL_len
theorem gP_fin (h : pre.length = L) : deepen (freezeAll (pre ++ gP L N f N)) 5 (.osl L 0 N 1 N true) = some (genD N N f) := by
  have hf : freezeAll (gP L N f N) = ⟨updL N (oslL L N) (.d Dnil) N, 1⟩ :: (List.range N).map fun i => (⟨((List.range N).map fun j => DI (f i j)).map XV.d, 1⟩ : VObj) := by
    simp [freezeAll, gP, doneG, Function.comp_def, rowC, updL_full, rowF]
  have hpl : (freezeAll pre).length = L := by simp [freezeAll, h]
  have hfa : freezeAll (pre ++ gP L N f N) = freezeAll pre ++ freezeAll (gP L N f N) := by simp [freezeAll]
  have hlen : (updL N (oslL L N) (.d Dnil) N).length = N := updL_len
  rw [hfa, hf, deepen_osl (ob := ⟨updL N (oslL L N) (.d Dnil) N, 1⟩) (by rw [List.getElem?_append_right (by omega), hpl]; simp) rfl (by simp [hlen])]
  have h2 : ((updL N (oslL L N) (.d Dnil) N).drop 0).take (N * 1) = (List.range N).map (oslL L N) := by rw [List.drop_zero, Nat.mul_one, List.take_of_length_le (by omega), updL_full (Nat.le_refl _)]
  rw [show ((⟨updL N (oslL L N) (.d Dnil) N, 1⟩ : VObj).cells.drop 0).take (N * 1) = (List.range N).map (oslL L N) from h2]
  have hall : ∀ (l : List Nat), (∀ i ∈ l, i < N) → (l.map (oslL L N)).mapM (deepen (freezeAll pre ++ (⟨updL N (oslL L N) (.d Dnil) N, 1⟩ :: (List.range N).map fun i => (⟨((List.range N).map fun j => DI (f i j)).map XV.d, 1⟩ : VObj))) 4) = some (l.map fun k => rowG N (f k)) := by
    intro l
    induction l with
    | nil => intro _; rfl
    | cons i l ih =>
      intro hl
      have hi := hl i (by simp)
      rw [List.map_cons, List.mapM_cons, ih (fun k hk => hl k (by simp [hk]))]
      rw [show oslL L N i = .osl (L + i + 1) 0 N 1 N true from rfl, deepen_cells (k := 2) (R := N) (ds := (List.range N).map fun j => DI (f i j)) (by
        rw [List.getElem?_append_right (by omega), hpl, show L + i + 1 - L = i + 1 by omega]; simp [hi]) rfl (by simp)]
      rfl
  rw [hall (List.range N) (fun i hi => by simpa using hi)]; rfl
theorem keeps_pre {pre2 τ : List VObj} (h : pre.length = L) (h2 : pre2.length = L) : KeepsZ (fun id => id < L) (pre ++ τ) (pre2 ++ τ) := fun id ob hz ho => by
  simp only [Nat.not_lt] at hz
  refine ⟨ob, ?_, rfl, Iff.rfl⟩
  rw [List.getElem?_append_right (by omega)] at ho ⊢
  rw [h2, ← h]; exact ho
end
end Go.Vm
namespace Go.Vm
/-- Cells of which the first k have turned. -/
def mixL (n : Nat) (f old : Nat → XV) (k : Nat) : List XV := (List.range n).map fun q => if q < k then f q else old q
theorem mixL_len {n : Nat} {f old : Nat → XV} {k : Nat} : (mixL n f old k).length = n := by simp [mixL]
theorem mixL_zero {n : Nat} {f old : Nat → XV} : mixL n f old 0 = (List.range n).map old := by simp [mixL]
theorem mixL_full {n : Nat} {f old : Nat → XV} : mixL n f old n = (List.range n).map f := by
  refine List.map_congr_left fun q hq => ?_
  rw [if_pos (by simpa using hq)]
theorem mixL_set {n : Nat} {f old : Nat → XV} {k : Nat} (_ : k < n) : (mixL n f old k).set (0 + k) (f k) = mixL n f old (k + 1) := by
  refine List.ext_getElem (by simp [mixL]) fun i h1 h2 => ?_
  simp only [mixL, Nat.zero_add, List.getElem_set, List.getElem_map, List.getElem_range]
  by_cases e : k = i
  · subst e; simp
  · rw [if_neg e]
    by_cases h : i < k
    · rw [if_pos h, if_pos (by omega)]
    · rw [if_neg h, if_neg (by omega)]
end Go.Vm
namespace Go.Vm
section
variable {P : Program} {σ : List VObj} {kn : Kn} {dst : Option Tmp} {ty : TypeId} {pos : String} {af : Array Edge} {g : Option (Nat × Bool)}
/-- A function value that brings variables. -/
theorem K.makeF {fn : Fn} {caps : Array Operand} {xs : List XV} {x : Operand} {v : XV} {m : Nat} (ha : caps.toList.mapM (evK kn) = some xs) (hx : caps[m]? = some x) (hv : evK kn x = some v) (hl : litOf v = none) :
    KEv P ⟨dst, .makeFunc fn #[] caps, ty, pos, af, g⟩ σ kn (.fn fn [] xs) σ 0 := ev_op fun env he => by
  have e1 := evK_evalX he hv
  unfold evalOp
  rw [litOp_none (x := x) (by simpa [Op.operands] using Array.mem_of_getElem? hx) (by rw [e1]; exact hl)]
  have := mapM_evK he ha
  simp [this]
end
end Go.Vm
namespace Go.Vm
theorem mixL_put {n : Nat} {f old : Nat → XV} {k : Nat} {v : XV} (_ : k < n) : (mixL n f old k).set (0 + k) v = mixL n f (fun q => if q = k then v else old q) k := by
  refine List.ext_getElem (by simp [mixL]) fun i h1 h2 => ?_
  simp only [mixL, Nat.zero_add, List.getElem_set, List.getElem_map, List.getElem_range]
  by_cases e : k = i
  · subst e; simp
  · rw [if_neg e]
    by_cases h : i < k
    · rw [if_pos h, if_pos h]
    · rw [if_neg h, if_neg h, if_neg (fun e' => e e'.symm)]
theorem mixL_put2 {n : Nat} {f old : Nat → XV} {k : Nat} {v w : XV} (hk : k < n) : (mixL n f (fun q => if q = k then v else old q) k).set (0 + k) w = mixL n f (fun q => if q = k then w else old q) k := by
  rw [mixL_put hk]; congr 1; funext q; split <;> rfl
theorem mixL_done {n : Nat} {f old : Nat → XV} {k : Nat} (hk : k < n) : mixL n f (fun q => if q = k then f k else old q) k = mixL n f old (k + 1) := by
  rw [← mixL_put hk, mixL_set hk]
theorem mixL_get {n : Nat} {f old : Nat → XV} {k : Nat} {v : XV} (hk : k < n) : (mixL n f (fun q => if q = k then v else old q) k)[0 + k]? = some v := by
  simp [mixL, hk]
theorem set_last (σ : List VObj) (a b : VObj) : (σ ++ [a]).set σ.length b = σ ++ [b] := by
  rw [List.set_append_right _ _ (Nat.le_refl _), Nat.sub_self]; rfl
theorem mixL_rep {n : Nat} {f : Nat → XV} {v : XV} : List.replicate n v = mixL n f (fun _ => v) 0 := by
  rw [mixL_zero, List.map_const', List.length_range]
end Go.Vm
namespace Go.Cy
theorem gre_ge (l : List Int) : Nv ≤ gre l := by
  have key : ∀ (l : List Int) (z : Int), Nv ≤ z → Nv ≤ l.foldl max z := by
    intro l
    induction l with
    | nil => intro z hz; exact hz
    | cons x l ih => intro z hz; exact ih _ (by omega)
  exact key l Nv (Int.le_refl _)
/-- The greatest of the first k values. -/
def greR (k : Nat) (f : Nat → Int) : Int := gre ((List.range k).map f)
theorem greR_succ (k : Nat) (f : Nat → Int) : greR (k + 1) f = max (greR k f) (f k) := by
  unfold greR
  rw [List.range_succ, List.map_append]
  exact foldl_snoc _ _ _
theorem greR_nv {k : Nat} {f : Nat → Int} (h : f k = Nv) : greR (k + 1) f = greR k f := by
  rw [greR_succ, h]; have := gre_ge ((List.range k).map f); unfold greR; omega
theorem prodI_greR (n : Nat) (a b : Nat → Nat → Int) (i j : Nat) : prodI n a b i j = greR n fun k => aft (a i k) (b k j) := rfl
theorem greR_good {b : Int} {k : Nat} {f : Nat → Int} (h : ∀ q, Good b (f q)) : Good b (greR k f) := gre_good fun x hx => by
  obtain ⟨q, _, rfl⟩ := List.mem_map.1 hx; exact h q

/-- The first eight rows and columns. -/
def fewM (m : List (List Int)) : List (List Int) := (m.take 8).map (List.take 8)
theorem few_valid {L : Int} {m : List (List Int)} (h : validB L m = true) : fewM m = m := by
  unfold validB at h
  simp only [Bool.and_eq_true, decide_eq_true_eq, List.all_eq_true] at h
  obtain ⟨⟨h1, h2⟩, h3⟩ := h
  unfold fewM
  rw [List.take_of_length_le (by omega)]
  refine List.ext_getElem (by simp) fun i h5 h6 => ?_
  rw [List.getElem_map]
  have := h3 m[i] (List.getElem_mem h6)
  unfold okRow at this
  simp only [Bool.and_eq_true, decide_eq_true_eq] at this
  exact List.take_of_length_le (by omega)
theorem few_validB (L : Int) (m : List (List Int)) : validB L (fewM m) = validB L m := by
  cases h : validB L m with
  | true => rw [few_valid h, h]
  | false =>
    cases h2 : validB L (fewM m) with
    | false => rfl
    | true =>
      exfalso
      have e : fewM m = m := by
        unfold validB at h2
        simp only [Bool.and_eq_true, decide_eq_true_eq, List.all_eq_true] at h2
        obtain ⟨⟨h1, h3⟩, h4⟩ := h2
        have hl : (fewM m).length = min 8 m.length := by simp [fewM]
        rw [hl] at h1 h3 h4
        have hm : m.take 8 = m := List.take_of_length_le (by omega)
        unfold fewM at h4 ⊢
        rw [hm] at h4 ⊢
        refine List.ext_getElem (by simp) fun i h5 h6 => ?_
        rw [List.getElem_map]
        have := h4 (m[i].take 8) (List.mem_map.2 ⟨m[i], List.getElem_mem h6, rfl⟩)
        unfold okRow at this
        simp only [Bool.and_eq_true, decide_eq_true_eq, List.length_take] at this
        exact List.take_of_length_le (by omega)
      rw [e, h] at h2; cases h2
end Go.Cy

end
section
/-
  VALUES WITHOUT ADDRESSES: what a cell of one's own, or a slot, stands for may be told in another way.
-/
namespace Go.Vm
open Go.RowKit

theorem Mem.recell {M : Nat → Prop} {W0 w : World} {ι : List Nat} {σ : List VObj} (hm : Mem M W0 ι σ w) {id i : Nat} {ob : VObj} {x : XV} {d : DV} (ho : σ[id]? = some ob) (h2 : ob.mode < 2) (hx : ob.cells[i]? = some x)
    (hd : ∀ v, XRep w ι (Forb M ι σ) v x → DRep w (Forb M ι σ) v d) : Mem M W0 ι (σ.set id ⟨ob.cells.set i (.d d), ob.mode⟩) w ∧ Ext M ι σ w ι (σ.set id ⟨ob.cells.set i (.d d), ob.mode⟩) w := by
  have hlt := (List.getElem?_eq_some_iff.1 ho).1
  have hback : ∀ (j : Nat) (o : VObj), (σ.set id ⟨ob.cells.set i (.d d), ob.mode⟩)[j]? = some o → ∃ o1, σ[j]? = some o1 ∧ o.mode = o1.mode ∧ o.cells.length = o1.cells.length := by
    intro j o h
    by_cases e : id = j
    · subst e
      rw [List.getElem?_set_self hlt] at h
      cases h
      exact ⟨ob, ho, rfl, by simp⟩
    · rw [List.getElem?_set_ne e] at h
      exact ⟨o, h, rfl, rfl⟩
  have hmt : ∀ c, Mut ι (σ.set id ⟨ob.cells.set i (.d d), ob.mode⟩) c → Mut ι σ c := by
    rintro c ⟨j, p, h1, h2, h3⟩
    obtain ⟨o, k1, k2, _⟩ := hback j p h1
    exact ⟨j, o, k1, h2, by rw [← k2]; exact h3⟩
  have hext : Ext M ι σ w ι (σ.set id ⟨ob.cells.set i (.d d), ob.mode⟩) w := ⟨fun _ _ h => h, fun _ _ _ => rfl, Nat.le_refl _, fun c _ h => hmt c h, fun _ _ h => h, fun _ r h => ⟨r, h⟩⟩
  refine ⟨⟨by rw [hm.len]; simp, ?_, fun j o b h1 h2' h3 => by
    by_cases e : id = j
    · subst e
      rw [List.getElem?_set_self hlt] at h1
      cases h1
      simp only at h3; omega
    · rw [List.getElem?_set_ne e] at h1
      exact (hm.spec j o b h1 h2' h3).ext hext rfl, hm.fresh, ?_, hm.below, hm.outer⟩, hext⟩
  · intro j o b h1 h2' h3
    by_cases e : id = j
    · subst e
      rw [List.getElem?_set_self hlt] at h1
      cases h1
      obtain ⟨cur, ty, q1, q2, q3⟩ := hm.objs id ob b ho h2' h2
      refine ⟨cur, ty, q1, by simpa using q2, fun m y hy => ?_⟩
      by_cases em : i = m
      · subst em
        rw [List.getElem?_set_self (List.getElem?_eq_some_iff.1 hx).1] at hy
        cases hy
        obtain ⟨v, kv, kx⟩ := q3 i x hx
        exact ⟨v, kv, (XRep.d (hd v kx)).ext hext⟩
      · rw [List.getElem?_set_ne em] at hy
        obtain ⟨v, kv, kx⟩ := q3 m y hy
        exact ⟨v, kv, kx.ext hext⟩
    · rw [List.getElem?_set_ne e] at h1
      obtain ⟨cur, ty, q1, q2, q3⟩ := hm.objs j o b h1 h2' h3
      exact ⟨cur, ty, q1, q2, fun m y hy => by
        obtain ⟨v, kv, kx⟩ := q3 m y hy
        exact ⟨v, kv, kx.ext hext⟩⟩
  · intro i' j oi oj bi bj hij h1 h2' h3 h4 h5 h6
    obtain ⟨o1, a1, a2, _⟩ := hback i' oi h1
    obtain ⟨o2, b1, b2, _⟩ := hback j oj h2'
    exact hm.apart i' j o1 o2 bi bj hij a1 b1 h3 h4 (by rw [← a2]; exact h5) (by omega)

section
variable {P : Program} {M : Nat → Prop} {W0 : World} {n : Nat} {σ : List VObj} {kn : Kn}
/-- A cell that refers to an object which is only read from here on. -/
theorem KC.ghostC {c : Code} {T : Exit → List VObj → Kn → Prop} (ids : List Nat) (m : Nat) {id i : Nat} {ob : VObj} {x : XV} {d : DV} (ho : (freezeIds σ ids)[id]? = some ob) (h2 : ob.mode < 2) (hx : ob.cells[i]? = some x) (hd : deepen (freezeIds σ ids) m x = some d)
    (h : KC P M W0 n c ((freezeIds σ ids).set id ⟨ob.cells.set i (.d d), ob.mode⟩) kn T) : KC P M W0 n c σ kn T := by
  intro env he C ι a w hF Q hQ
  obtain ⟨f1, f2⟩ := freezeIds_tamed hF.mem ids
  obtain ⟨g1, g2⟩ := f1.recell ho h2 hx fun v hv => deepen_sound f1 m v x d hv hd
  exact h env he C ι a w ⟨g1, fun s => ((hF.env s).ext f2).ext g2, hF.size, (hF.defers.ext f2).ext g2, fun l hl => let ⟨r, hr⟩ := hF.round l hl; (f2.trans g2).loops l r hr⟩ Q fun e ι' s' a' w' hT hFr hE => hQ e ι' s' a' w' hT hFr (f2.trans (g2.trans hE))
/-- A slot that is told in another way. -/
theorem KC.ghostX {c : Code} {T : Exit → List VObj → Kn → Prop} {t : Nat} {x y : XV} (hl : look kn t = some x) (hd : ∀ (w : World) (ι : List Nat) (F : Nat → Prop) (v : Value), XRep w ι F v x → XRep w ι F v y)
    (h : KC P M W0 n c σ (extK (some t) y kn) T) : KC P M W0 n c σ kn T := by
  intro env he C ι a w hF Q hQ
  refine h (putE env (some t) y) (he.ext (some t) y) C ι a w ⟨hF.mem, fun s => ?_, hF.size, hF.defers, hF.round⟩ Q hQ
  have hs := hF.env s
  simp only [putE, upd]
  split
  · rename_i e
    subst e
    have he' : env s = x := he s x hl
    simp only [he'] at hs
    exact hd _ _ _ _ hs
  · exact hs
theorem osl_loose {w : World} {ι : List Nat} {F : Nat → Prop} {v : Value} {id off len k lo : Nat} (h : XRep w ι F v (.osl id off len k lo true)) : XRep w ι F v (.osl id off len k lo false) := by
  cases h with
  | osl hb hl hlo hex hs => exact .osl hb hl hlo (fun h => by cases h) hs
end
theorem resK_tct {P : Program} {σ : List VObj} {kn : Kn} {fn : Func} {a t b c id m md : Nat} (ds : List DV) {y z : XV} (hr : fn.results = #[.tmp b, .cell a t, .tmp c]) (hl : look kn a = some (.optr id 0)) (ho : σ[id]? = some ⟨ds.map .d, md⟩) (h2 : md < 2) (ha : isAggT P t = some true) (hs : sizeT P t = some m) (hm : ds.length = m) (hy : look kn b = some y) (hz : look kn c = some z) :
    resK P fn σ kn = some (.tup [y, .d (.agg ds), z]) := by
  unfold resK
  rw [hr]
  have e : resVarK P σ kn (.cell a t) = some (.d (.agg ds)) := by
    simp only [resVarK, hl, Option.bind_some, opLoad, ho]
    rw [if_neg (fun h => h h2)]
    simp only [takeVar, ha, hs, List.drop_zero]
    rw [if_pos (by simp; omega), List.take_of_length_le (by simp; omega), aggX_d]; rfl
  have e2 : resVarK P σ kn (.tmp b) = some y := hy
  have e3 : resVarK P σ kn (.tmp c) = some z := hz
  simp [e, e2, e3]
end Go.Vm

end
section
/-
  VALUES WITHOUT ADDRESSES, 30: maps whose keys are strings, walks over strings, checks for nil.
-/
namespace Go.Vm
open Go.RowKit

/-- The entries of a map of the call's own. -/
def entsX (names : List ByteArray) (xs : List XV) : List XV := List.zipWith (fun k x => XV.ent (.string k) x) names xs

theorem entsX_snoc {names : List ByteArray} {xs : List XV} (h : names.length = xs.length) (k : ByteArray) (x : XV) : entsX names xs ++ [XV.ent (.string k) x] = entsX (names ++ [k]) (xs ++ [x]) := by
  unfold entsX
  rw [List.zipWith_append h]
  rfl

theorem entsX_get {names : List ByteArray} {xs : List XV} (_ : names.length = xs.length) {i : Nat} {c : XV} (hc : (entsX names xs)[i]? = some c) : ∃ k x, names[i]? = some k ∧ xs[i]? = some x ∧ c = XV.ent (.string k) x := by
  unfold entsX at hc
  rw [List.getElem?_zipWith] at hc
  split at hc
  · rename_i k x h1 h2; cases hc; exact ⟨k, x, h1, h2, rfl⟩
  · cases hc

theorem entsX_len {names : List ByteArray} {xs : List XV} (h : names.length = xs.length) : (entsX names xs).length = names.length := by
  simp [entsX, h]

def World.withHeap (w : World) (h : Array Obj) : World := { w with heap := h }

section
variable {P : Program} {σ : List VObj} {kn : Kn} {dst : Option Tmp} {ty : TypeId} {pos : String} {af : Array Edge} {g : Option (Nat × Bool)}

theorem K.semP {o : Oper} {x : XV} (hs : ∀ env, Agree kn env → ∀ (F : Nat → Prop) (ι : List Nat) (w : World) (ev : Operand → Value), (∀ y ∈ o.op.operands, XRep w ι F (ev y) (evalX env y)) → ∃ v, (execOp ev o).run P w = .ok (.value v) w ∧ XRep w ι F v x) : KEv P o σ kn x σ 0 :=
  fun env he => .semP (s := ⟨σ, env⟩) (hs env he)

theorem K.semG {o : Oper} {x : XV} {τ : List VObj} (hs : ∀ env, Agree kn env → ∀ (M : Nat → Prop) (W0 : World) (ι : List Nat) (w : World) (ev : Operand → Value), Mem M W0 ι σ w → (∀ y ∈ o.op.operands, XRep w ι (Forb M ι σ) (ev y) (evalX env y)) → Good P M W0 ι σ w (execOp ev o) x (σ ++ τ)) : KEv P o σ kn x (σ ++ τ) 3 :=
  fun env he => .semG (s := ⟨σ, env⟩) (hs env he)

theorem K.semW {o : Oper} {x : XV} {σ' : List VObj} (hs : ∀ env, Agree kn env → ∀ (M : Nat → Prop) (W0 : World) (ι : List Nat) (w : World) (ev : Operand → Value), Mem M W0 ι σ w → (∀ y ∈ o.op.operands, XRep w ι (Forb M ι σ) (ev y) (evalX env y)) → Good P M W0 ι σ w (execOp ev o) x σ') : KEv P o σ kn x σ' 2 :=
  fun env he => .semW (s := ⟨σ, env⟩) (hs env he)

/-- A pointer to a variable of the call's own is not nil. -/
theorem K.nilCheckO {x : Operand} {id off : Nat} (hx : evK kn x = some (.optr id off)) : KEv P ⟨dst, .nilCheck x, ty, pos, af, g⟩ σ kn (.optr id off) σ 0 := by
  refine K.semP fun env he F ι w ev h => ?_
  have h1 := h x (by simp [Op.operands])
  rw [evK_evalX he hx] at h1
  generalize hv : ev x = v at h1
  cases h1 with
  | optr hb =>
    refine ⟨_, ?_, .optr hb⟩
    simp [execOp, hv]

theorem K.makeMap {t : TypeId} : KEv P ⟨dst, .makeMap t none, ty, pos, af, g⟩ σ kn (.omp σ.length) (σ ++ [⟨[], 3⟩]) 3 := by
  refine K.semG fun env he M W0 ι w ev hm h => ?_
  obtain ⟨m1, m2⟩ := hm.pushS (.map #[] 0) 3 [] (by omega) (fun w' hw => .inl ⟨.inl rfl, #[], 0, hw, rfl, fun i e c hi => by simp at hi⟩)
  refine ⟨_, _, .map (some w.heap.size), .inl ?_, m1, m2, .omp (by simp [hm.len])⟩
  simp [execOp, Instr.makeMap, Result.andThen]

theorem isKey_string (k : ByteArray) : MapKept.IsKey .string (.string k) := trivial

/-- An entry that is added to a map of the call's own. -/
theorem run_mapNew {w : World} {mty kt et : TypeId} {r : Nat} {es : Array MapEntry} {clock : Nat} {k : ByteArray} {v : Value} (hm : P.underlying mty = some (.map kt et)) (hd : P.underlying kt = some .string)
    (hb : w.heap[r]? = some (.map es clock)) (hks : ∀ x ∈ es.toList, ∃ k, x.key = .string k) (hne : ∀ x ∈ es.toList, x.key ≠ .string k) :
    (Instr.mapUpdate mty (.map (some r)) (.string k) v).run P w = .ok () (World.setObj' w r (.map (es.push { key := .string k, val := v, born := clock }) (clock + 1))) := by
  have hks' : ∀ x ∈ es.toList, MapKept.IsKey .string x.key := fun x hx => by obtain ⟨k, e⟩ := hks x hx; rw [e]; trivial
  rcases MapKept.findNow_spec (isKey_string k) es.toList 0 hks' with ⟨h1, _⟩ | ⟨j, e, _, h2, h3⟩
  · simp [Instr.mapUpdate, run_underlying hm, MapKept.run_getObj_map hb, MapKept.run_checkKey hd (isKey_string k), MapKept.run_findKey hd h1, MapKept.run_setObj_map _ hb, Result.andThen, World.setObj']
  · exact absurd h3 (hne e (List.mem_of_getElem? h2))

theorem good_mapNew {mty kt et : TypeId} {m key val : Operand} {id : Nat} {names : List ByteArray} {xs : List XV} {k : ByteArray} {x : XV} (hm : evK kn m = some (.omp id)) (ho : σ[id]? = some ⟨entsX names xs, 3⟩) (hl : names.length = xs.length)
    (hk : evK kn key = some (.d (.lit (.string k)))) (hv : evK kn val = some x) (hne : k ∉ names) (ht : P.underlying mty = some (.map kt et)) (hd : P.underlying kt = some .string) {env : Nat → XV} (he : Agree kn env)
    {M : Nat → Prop} {W0 : World} {ι : List Nat} {w : World} {ev : Operand → Value} (hM : Mem M W0 ι σ w) (h1 : XRep w ι (Forb M ι σ) (ev m) (evalX env m)) (h2 : XRep w ι (Forb M ι σ) (ev key) (evalX env key)) (h3 : XRep w ι (Forb M ι σ) (ev val) (evalX env val))
    {o : Oper} (hex : execOp ev o = (do Instr.mapUpdate mty (ev m) (ev key) (ev val); pure .skip)) : Good P M W0 ι σ w (execOp ev o) undefX (σ.set id ⟨entsX (names ++ [k]) (xs ++ [x]), 3⟩) := by
  rw [evK_evalX he hm] at h1
  rw [evK_evalX he hk] at h2
  rw [evK_evalX he hv] at h3
  rw [hex]
  generalize ev m = vm at *
  generalize ev key = vk at *
  generalize ev val = vv at *
  cases h1 with
  | @omp b _ hb =>
  cases h2 with
  | d h2 =>
  cases h2 with
  | lit =>
  rcases hM.spec id _ b ho hb (by simp) with ⟨_, es, clock, q1, q2, q3⟩ | ⟨q, _⟩ | ⟨q, _⟩
  · have hent : ∀ (i : Nat) (e : MapEntry), es[i]? = some e → ∃ k y, names[i]? = some k ∧ xs[i]? = some y ∧ e.key = .string k ∧ XRep w ι (Forb M ι σ) e.val y := fun i e hi => by
      have hlt : i < (entsX names xs).length := by rw [← q2]; exact (Array.getElem?_eq_some_iff.1 hi).1
      obtain ⟨y, e1, e2⟩ := q3 i e _ hi (List.getElem?_eq_getElem hlt)
      obtain ⟨k', y', a1, a2, a3⟩ := entsX_get hl (List.getElem?_eq_getElem hlt)
      rw [a3] at e1
      simp only [XV.ent, XV.tup.injEq, List.cons.injEq, XV.d.injEq, DV.lit.injEq, and_true] at e1
      exact ⟨k', y', a1, a2, e1.1.symm, by rw [e1.2]; exact e2⟩
    have hmem : ∀ x ∈ es.toList, ∃ k', x.key = .string k' ∧ k' ∈ names := fun x hx => by
      obtain ⟨i, hi⟩ := List.getElem?_of_mem hx
      obtain ⟨k', y, a1, _, a3, _⟩ := hent i x (by simpa using hi)
      exact ⟨k', a3, List.mem_of_getElem? a1⟩
    obtain ⟨w1, w2⟩ := hM.writeS ho hb (.inl rfl) (.map (es.push { key := .string k, val := vv, born := clock }) (clock + 1)) (fun _ _ _ e => by cases e) (entsX (names ++ [k]) (xs ++ [x])) (fun w' σ' hext hw => by
      refine .inl ⟨.inl rfl, _, _, hw, ?_, fun i e c hi hc => ?_⟩
      · rw [entsX_len (by simp [hl])]; rw [Array.size_push, q2, entsX_len hl]; simp
      · obtain ⟨k', y, a1, a2, rfl⟩ := entsX_get (by simp [hl]) hc
        rw [Array.getElem?_push] at hi
        rw [entsX_len hl] at q2
        split at hi
        · rename_i e1
          cases hi
          have hn : names.length = i := by omega
          subst hn
          rw [List.getElem?_append_right (Nat.le_refl _)] at a1
          rw [List.getElem?_append_right (by omega), hl] at a2
          simp only [Nat.sub_self, List.getElem?_cons_zero, Option.some.injEq] at a1 a2
          subst a1; subst a2
          exact ⟨x, rfl, h3.ext hext⟩
        · obtain ⟨k2, y2, b1, b2, b3, b4⟩ := hent i e hi
          have hn : i < names.length := (List.getElem?_eq_some_iff.1 b1).1
          rw [List.getElem?_append_left hn, b1] at a1
          rw [List.getElem?_append_left (by omega), b2] at a2
          cases a1; cases a2
          exact ⟨y, by rw [b3], b4.ext hext⟩)
    refine ⟨ι, _, undef, .inr ⟨?_, rfl⟩, w1, w2, .d (.lit _)⟩
    have hr := run_mapNew (P := P) (v := vv) ht hd q1 (fun x hx => by obtain ⟨k', e, _⟩ := hmem x hx; exact ⟨k', e⟩) (k := k) (fun x hx e => by
      obtain ⟨k', e', hmm⟩ := hmem x hx
      rw [e'] at e
      cases e
      exact hne hmm)
    simp [hr, Result.andThen]
  · simp at q
  · simp at q

theorem not_mem_of_all {names : List ByteArray} {k : ByteArray} (h : names.all (fun x => !decide (x = k)) = true) : k ∉ names := fun hm => by
  have := List.all_eq_true.1 h k hm
  simp at this

theorem K.insert {mty kt et : TypeId} {m key val : Operand} {id : Nat} {names : List ByteArray} {xs : List XV} {k : ByteArray} {x : XV} (hm : evK kn m = some (.omp id)) (ho : σ[id]? = some ⟨entsX names xs, 3⟩) (hl : names.length = xs.length)
    (hk : evK kn key = some (.d (.lit (.string k)))) (hv : evK kn val = some x) (hne : names.all (fun x => !decide (x = k)) = true) (ht : P.underlying mty = some (.map kt et)) (hd : P.underlying kt = some .string) :
    KEv P ⟨dst, .insert mty m key val, ty, pos, af, g⟩ σ kn undefX (σ.set id ⟨entsX (names ++ [k]) (xs ++ [x]), 3⟩) 2 :=
  K.semW fun _ he _ _ _ _ _ hM h => good_mapNew hm ho hl hk hv (not_mem_of_all hne) ht hd he hM (h m (by simp [Op.operands])) (h key (by simp [Op.operands])) (h val (by simp [Op.operands])) rfl

theorem K.mapUpdateN {mty kt et : TypeId} {m key val : Operand} {id : Nat} {names : List ByteArray} {xs : List XV} {k : ByteArray} {x : XV} (hm : evK kn m = some (.omp id)) (ho : σ[id]? = some ⟨entsX names xs, 3⟩) (hl : names.length = xs.length)
    (hk : evK kn key = some (.d (.lit (.string k)))) (hv : evK kn val = some x) (hne : names.all (fun x => !decide (x = k)) = true) (ht : P.underlying mty = some (.map kt et)) (hd : P.underlying kt = some .string) :
    KEv P ⟨dst, .mapUpdate mty m key val, ty, pos, af, g⟩ σ kn undefX (σ.set id ⟨entsX (names ++ [k]) (xs ++ [x]), 3⟩) 2 :=
  K.semW fun _ he _ _ _ _ _ hM h => good_mapNew hm ho hl hk hv (not_mem_of_all hne) ht hd he hM (h m (by simp [Op.operands])) (h key (by simp [Op.operands])) (h val (by simp [Op.operands])) rfl

/-- What a map that is only read holds at a key. -/
theorem K.lookupD {mty kt et : TypeId} {m key : Operand} {names : List ByteArray} {ds : List DV} {k : ByteArray} {i : Nat} {y : DV} (hm : evK kn m = some (.d (.mp (names.map .string) ds))) (hk : evK kn key = some (.d (.lit (.string k))))
    (hi : names[i]? = some k) (hnd : ∀ j, names[j]? = some k → j = i) (hy : ds[i]? = some y) (ht : P.underlying mty = some (.map kt et)) (hd : P.underlying kt = some .string) :
    KEv P ⟨dst, .lookup mty m key false, ty, pos, af, g⟩ σ kn (.d y) σ 0 := by
  refine K.semP fun env he F ι w ev h => ?_
  have h1 := h m (by simp [Op.operands])
  have h2 := h key (by simp [Op.operands])
  rw [evK_evalX he hm] at h1
  rw [evK_evalX he hk] at h2
  have hex : ∀ ev : Operand → Value, execOp ev ⟨dst, .lookup mty m key false, ty, pos, af, g⟩ = (do pure (.value (← Instr.lookup mty (ev m) (ev key) false))) := fun _ => rfl
  rw [hex]
  generalize ev m = vm at *
  generalize ev key = vk at *
  cases h1 with
  | d h1 =>
  cases h1 with
  | @mp b es clock _ _ hb hh hks hn hx =>
  cases h2 with
  | d h2 =>
  cases h2 with
  | lit =>
  have hke : ∀ (j : Nat) (e : MapEntry), es[j]? = some e → ∃ k', names[j]? = some k' ∧ e.key = .string k' := fun j e hj => by
    have : (es.toList.map (·.key))[j]? = some e.key := by simp [hj]
    rw [hks, List.getElem?_map, Option.map_eq_some_iff] at this
    obtain ⟨k', a1, a2⟩ := this
    exact ⟨k', a1, a2.symm⟩
  have hkk : ∀ x ∈ es.toList, MapKept.IsKey .string x.key := fun x hx => by
    obtain ⟨j, hj⟩ := List.getElem?_of_mem hx
    obtain ⟨k', _, e⟩ := hke j x (by simpa using hj)
    rw [e]; trivial
  have hlen : names.length = es.size := by
    have := congrArg List.length hks
    simp at this; omega
  rcases MapKept.findNow_spec (isKey_string k) es.toList 0 hkk with ⟨_, h2⟩ | ⟨j, e, h1, h2, h3⟩
  · exfalso
    have hlt : i < es.size := by rw [← hlen]; exact (List.getElem?_eq_some_iff.1 hi).1
    obtain ⟨k', a1, a2⟩ := hke i es[i] (Array.getElem?_eq_getElem hlt)
    rw [hi] at a1; cases a1
    exact h2 es[i] (by simp) a2
  · obtain ⟨k', a1, a2⟩ := hke j e (by simpa using h2)
    rw [h3] at a2
    cases a2
    have hji := hnd j a1
    subst hji
    refine ⟨e.val, ?_, .d (hx j e y (by simpa using h2) hy)⟩
    simp [Instr.lookup, run_underlying ht, MapKept.run_getObj_map hh, MapKept.run_checkKey hd (isKey_string k), MapKept.run_findKey hd h1, Result.andThen]

/-- A walk over a string begins. -/
theorem K.rangeS {t : TypeId} {x : Operand} {s : ByteArray} (hx : evK kn x = some (.d (.lit (.string s)))) (ht : P.underlying t = some .string) :
    KEv P ⟨dst, .range t x, ty, pos, af, g⟩ σ kn (.optr σ.length 0) (σ ++ [⟨[.d (.lit (.string s)), .d (DI (0 : Nat))], 5⟩]) 3 := by
  refine K.semG fun env he M W0 ι w ev hm h => ?_
  have h1 := h x (by simp [Op.operands])
  rw [evK_evalX he hx] at h1
  have hex : ∀ ev : Operand → Value, execOp ev ⟨dst, .range t x, ty, pos, af, g⟩ = (do pure (.value (← Instr.range t (ev x)))) := fun _ => rfl
  rw [hex]
  generalize ev x = vx at *
  cases h1 with
  | d h1 =>
  cases h1 with
  | lit =>
  obtain ⟨m1, m2⟩ := hm.pushS (.stringIter s 0) 5 [.d (.lit (.string s)), .d (DI (0 : Nat))] (by omega) (fun w' hw => .inr (.inl ⟨rfl, s, 0, hw, rfl⟩))
  refine ⟨_, _, .pointer (some ⟨w.heap.size, 0, none⟩), .inl ?_, m1, m2, .optr (by simp [hm.len])⟩
  rw [Sem.run_bind, run_range_string w t s ht]
  rfl

/-- Its next step, at a letter of one byte. -/
theorem K.nextS {x : Operand} {id p : Nat} {s : ByteArray} (hx : evK kn x = some (.optr id 0)) (ho : σ[id]? = some ⟨[.d (.lit (.string s)), .d (DI (p : Nat))], 5⟩) (hp : p < s.size) (ha : (s[p]'hp).toNat < 128) :
    KEv P ⟨dst, .next x true, ty, pos, af, g⟩ σ kn (.d (.lit (.tuple #[.bool true, .int .i64 (p : Nat), .int .i32 ((s[p]'hp).toNat : Nat)]))) (σ.set id ⟨[.d (.lit (.string s)), .d (DI ((p + 1 : Nat) : Nat))], 5⟩) 2 := by
  refine K.semW fun env he M W0 ι w ev hm h => ?_
  have h1 := h x (by simp [Op.operands])
  rw [evK_evalX he hx] at h1
  have hex : ∀ ev : Operand → Value, execOp ev ⟨dst, .next x true, ty, pos, af, g⟩ = (do pure (.value (← Instr.next (ev x) true ty))) := fun _ => rfl
  rw [hex]
  generalize ev x = vx at *
  cases h1 with
  | @optr b _ _ hb =>
  rcases hm.spec id _ b ho hb (by simp) with ⟨q, _⟩ | ⟨_, s', p', q1, q2⟩ | ⟨q, _⟩
  rotate_right
  · simp at q
  · simp at q
  · simp only [List.cons.injEq, XV.d.injEq, DV.lit.injEq, Value.string.injEq, Value.int.injEq, and_true, true_and] at q2
    obtain ⟨rfl, e2⟩ := q2
    have e2 : p = p' := by omega
    subst e2
    obtain ⟨w1, w2⟩ := hm.writeS ho hb (.inr rfl) (.stringIter s (p + 1)) (fun _ _ _ e => by cases e) [.d (.lit (.string s)), .d (DI ((p + 1 : Nat) : Nat))] (fun w' σ' _ hw => .inr (.inl ⟨rfl, s, p + 1, hw, rfl⟩))
    refine ⟨ι, _, _, .inl ?_, w1, w2, .d (.lit _)⟩
    simp [Instr.next, getObj, setObj, Sem.run, q1, hp, decode_ascii s p hp ha, Result.andThen, World.setObj', goInt]

/-- It is over. -/
theorem K.nextE {x : Operand} {id p : Nat} {s : ByteArray} (hx : evK kn x = some (.optr id 0)) (ho : σ[id]? = some ⟨[.d (.lit (.string s)), .d (DI (p : Nat))], 5⟩) (hp : ¬ p < s.size) :
    KEv P ⟨dst, .next x true, ty, pos, af, g⟩ σ kn (.d (.lit (.tuple #[.bool false]))) σ 2 := by
  refine K.semW fun env he M W0 ι w ev hm h => ?_
  have h1 := h x (by simp [Op.operands])
  rw [evK_evalX he hx] at h1
  have hex : ∀ ev : Operand → Value, execOp ev ⟨dst, .next x true, ty, pos, af, g⟩ = (do pure (.value (← Instr.next (ev x) true ty))) := fun _ => rfl
  rw [hex]
  generalize ev x = vx at *
  cases h1 with
  | @optr b _ _ hb =>
  rcases hm.spec id _ b ho hb (by simp) with ⟨q, _⟩ | ⟨_, s', p', q1, q2⟩ | ⟨q, _⟩
  rotate_right
  · simp at q
  · simp at q
  · simp only [List.cons.injEq, XV.d.injEq, DV.lit.injEq, Value.string.injEq, Value.int.injEq, and_true, true_and] at q2
    obtain ⟨rfl, e2⟩ := q2
    have e2 : p = p' := by omega
    subst e2
    refine .pure hm (v := .tuple #[.bool false]) ?_ (.d (.lit _))
    simp [Instr.next, getObj, Sem.run, q1, hp, Result.andThen]

end
end Go.Vm

end
section
/-
  VALUES WITHOUT ADDRESSES, 31: strings; loops round by round; calls that leave the caller's objects but for some, whatever they made of their own.
-/
namespace Go.Vm
open Go.RowKit

theorem DRep.mono {w : World} {F F1 : Nat → Prop} {v : Value} {x : DV} (h : DRep w F v x) (hf : ∀ b, F1 b → F b) : DRep w F1 v x := h.ext (fun _ _ _ => rfl) (fun b _ h => hf b h)

/-- What reads before and behind a call, told with the objects that were there. -/
theorem XRep.within {w w' : World} {ι ι' : List Nat} {F F' F1 : Nat → Prop} {v0 : Value} {x : XV} (h : XRep w ι F v0 x) (hpre : ∀ (id b : Nat), ι[id]? = some b → ι'[id]? = some b) (hf : ∀ b, F1 b → F' b) :
    ∀ {v : Value}, XRep w' ι' F' v x → XRep w' ι F1 v x := by
  induction h with
  | d _ => intro v k; cases k with | d k => exact .d (k.mono hf)
  | @osl b off len cap id k lo ex hb hl hlo hex hs =>
    intro v k'
    cases k' with
    | osl hb2 hl2 hlo2 hex2 hs2 =>
      have := hpre _ _ hb
      rw [hb2] at this; cases this
      exact .osl hb hl2 hlo2 hex2 hs2
  | @optr b off id hb =>
    intro v k'
    cases k' with
    | optr hb2 =>
      have := hpre _ _ hb
      rw [hb2] at this; cases this
      exact .optr hb
  | @tup vs ds hn hx ih =>
    intro v k'
    cases k' with
    | tup hn2 hx2 =>
      refine .tup hn2 fun i u x hu hxd => ?_
      have hlt : i < vs.size := by rw [hn]; exact (List.getElem?_eq_some_iff.1 hxd).1
      exact ih i vs[i] x (Array.getElem?_eq_getElem hlt) hxd (hx2 i u x hu hxd)
  | @agg vs ds hn hx ih =>
    intro v k'
    cases k' with
    | agg hn2 hx2 =>
      refine .agg hn2 fun i u x hu hxd => ?_
      have hlt : i < vs.size := by rw [hn]; exact (List.getElem?_eq_some_iff.1 hxd).1
      exact ih i vs[i] x (Array.getElem?_eq_getElem hlt) hxd (hx2 i u x hu hxd)
  | @fn f vs us ds es hn hx hm hy ih1 ih2 =>
    intro v k'
    cases k' with
    | fn hn2 hx2 hm2 hy2 =>
      refine .fn hn2 (fun i u x hu hxd => ?_) hm2 (fun i u x hu hxd => ?_)
      · have hlt : i < vs.size := by rw [hn]; exact (List.getElem?_eq_some_iff.1 hxd).1
        exact ih1 i vs[i] x (Array.getElem?_eq_getElem hlt) hxd (hx2 i u x hu hxd)
      · have hlt : i < us.size := by rw [hm]; exact (List.getElem?_eq_some_iff.1 hxd).1
        exact ih2 i us[i] x (Array.getElem?_eq_getElem hlt) hxd (hy2 i u x hu hxd)
  | ifc _ ih =>
    intro v k'
    cases k' with
    | ifc k2 => exact .ifc (ih k2)
  | @omp b id hb =>
    intro v k'
    cases k' with
    | omp hb2 =>
      have := hpre _ _ hb
      rw [hb2] at this; cases this
      exact .omp hb
  | @yl l id hb =>
    intro v k'
    cases k' with
    | yl hb2 =>
      have := hpre _ _ hb
      rw [hb2] at this; cases this
      exact .yl hb

/-- The caller's objects behind a call: as they were, or with plain cells. -/
def Same1 (σ σ1 : List VObj) : Prop := σ1.length = σ.length ∧ ∀ (id : Nat) (o : VObj), σ1[id]? = some o → σ[id]? = some o ∨ (o.mode < 2 ∧ ∀ (i : Nat) (x : XV), o.cells[i]? = some x → ∃ d, x = .d d)

theorem Same1.refl (σ : List VObj) : Same1 σ σ := ⟨rfl, fun _ _ h => .inl h⟩

theorem Same1.put {σ : List VObj} {id md : Nat} {ds : List DV} (hmd : md < 2) : Same1 σ (σ.set id ⟨ds.map .d, md⟩) := by
  refine ⟨by simp, fun j o h => ?_⟩
  rcases set_get _ _ _ _ _ h with ⟨rfl, rfl, _⟩ | ⟨_, h'⟩
  · exact .inr ⟨hmd, fun i x hx => by
      simp only [List.getElem?_map, Option.map_eq_some_iff] at hx
      obtain ⟨d, _, rfl⟩ := hx
      exact ⟨d, rfl⟩⟩
  · exact .inl h'

/-- Objects that a call made are forgotten. -/
theorem Mem.drop {M : Nat → Prop} {W0 w w' : World} {ι ι' : List Nat} {σ σ1 τ : List VObj} (hm : Mem M W0 ι σ w) (hm' : Mem M W0 ι' (σ1 ++ τ) w') (he : Ext M ι σ w ι' (σ1 ++ τ) w') (hs : Same1 σ σ1) :
    Mem M W0 ι σ1 w' ∧ Ext M ι σ w ι σ1 w' ∧ ∀ b, Forb M ι σ1 b → Forb M ι' (σ1 ++ τ) b := by
  obtain ⟨hlen, hsame⟩ := hs
  have hget : ∀ (id : Nat) (o : VObj), σ1[id]? = some o → (σ1 ++ τ)[id]? = some o := fun id o h => by
    rw [List.getElem?_append_left (List.getElem?_eq_some_iff.1 h).1]; exact h
  have hmut : ∀ b, Mut ι σ1 b → Mut ι' (σ1 ++ τ) b := by
    rintro b ⟨id, o, h1, h2, h3⟩
    exact ⟨id, o, hget id o h1, he.pre _ _ h2, h3⟩
  have hforb : ∀ b, Forb M ι σ1 b → Forb M ι' (σ1 ++ τ) b := fun b h => h.imp id (hmut b)
  refine ⟨⟨by rw [hm.len, hlen], ?_, ?_, fun id b h => hm'.fresh id b (he.pre _ _ h), ?_, hm'.below, hm'.outer⟩, ⟨fun _ _ h => h, he.heap, he.size, fun b hb h => he.mt b hb (hmut b h), he.shape, he.loops⟩, hforb⟩
  · intro id o b h1 h2 h3
    obtain ⟨cur, ty, q1, q2, q3⟩ := hm'.objs id o b (hget id o h1) (he.pre _ _ h2) h3
    refine ⟨cur, ty, q1, q2, fun i x hi => ?_⟩
    obtain ⟨v, kv, kx⟩ := q3 i x hi
    refine ⟨v, kv, ?_⟩
    rcases hsame id o h1 with h | ⟨_, h⟩
    · obtain ⟨_, _, _, _, r3⟩ := hm.objs id o b h h2 h3
      obtain ⟨v0, _, kx0⟩ := r3 i x hi
      exact kx0.within he.pre hforb kx
    · obtain ⟨d, rfl⟩ := h i x hi
      cases kx with | d kx => exact .d (kx.mono hforb)
  · intro id o b h1 h2 h3
    rcases hsame id o h1 with h | ⟨h, _⟩
    · have a := hm.spec id o b h h2 h3
      have c := hm'.spec id o b (hget id o h1) (he.pre _ _ h2) h3
      rcases c with ⟨c1, es, clock, c2, c3, c4⟩ | c | ⟨c1, r, L, ev, c2, c3, c4, c5, c6⟩
      · rcases a with ⟨_, es0, _, _, a3, a4⟩ | ⟨a, _⟩ | ⟨a, _⟩
        · refine .inl ⟨c1, es, clock, c2, c3, fun i e cc hi hc => ?_⟩
          obtain ⟨x, k1, k2⟩ := c4 i e cc hi hc
          have hlt : i < es0.size := by rw [a3]; exact (List.getElem?_eq_some_iff.1 hc).1
          obtain ⟨x0, k3, k4⟩ := a4 i es0[i] cc (Array.getElem?_eq_getElem hlt) hc
          rw [k1] at k3
          simp only [XV.ent, XV.tup.injEq, List.cons.injEq, and_true] at k3
          refine ⟨x, k1, ?_⟩
          rw [← k3.2] at k4
          exact k4.within he.pre hforb k2
        · omega
        · omega
      · exact .inr (.inl c)
      · rcases a with ⟨a, _⟩ | ⟨a, _⟩ | ⟨_, r0, L0, ev0, _, a3, _, a5, a6⟩
        · omega
        · omega
        · refine .inr (.inr ⟨c1, r, L, ev, c2, c3, c4, c5, fun i v x hv hx => ?_⟩)
          rw [c3] at a3
          have e0 : ev = ev0 := (List.cons.inj a3).2
          subst e0
          have hlt : i < r0.tmps.size := by rw [a5]; exact (List.getElem?_eq_some_iff.1 hx).1
          exact (a6 i r0.tmps[i] x (Array.getElem?_eq_getElem hlt) hx).within he.pre hforb (c6 i v x hv hx)
    · omega
  · intro i j oi oj bi bj hij h1 h2 h3 h4 h5 h6
    exact hm'.apart i j oi oj bi bj hij (hget _ _ h1) (hget _ _ h2) (he.pre _ _ h3) (he.pre _ _ h4) h5 h6

/-- A body's walk gives what the call does among the caller's objects: what it made is told in the result or forgotten. -/
theorem ownDrop_K {P : Program} {f : FuncId} {fn : Func} {c : Code} {σ σ1 : List VObj} {args : List XV} {res : DV} (k : Nat) (hf : P.funcs[f]? = some fn) (hb : fn.body = some c) (hn : args.length ≤ fn.ntmps) (hs : Same1 σ σ1)
    (h : ∀ (M : Nat → Prop) (W0 : World), KC P M W0 fn.ntmps c σ (enterK 0 args) (fun e σ2 kn => (e = .ret ∨ e = .normal) ∧ ∃ x, resK P fn σ2 kn = some x ∧ ∃ ids τ, freezeIds σ2 ids = σ1 ++ τ ∧ deepen (freezeIds σ2 ids) k x = some res)) :
    OwnCall P f σ args σ1 (.d res) := by
  intro M W0 ι w vs hm hl hx
  have hin : InCall P M W0 f σ args (fun σ2 x => ∃ ids τ, freezeIds σ2 ids = σ1 ++ τ ∧ deepen (freezeIds σ2 ids) k x = some res) :=
    inCall_of hf hb hn ((h M W0 _ (agree_enter σ args)).mono fun _ _ ⟨_, h1, h2, x, h3, h4⟩ => ⟨h2, x, resK_X h1 h3, h4⟩)
  refine (hin ι w vs hm hl hx).mono fun e w' => ?_
  rintro ⟨ι', σ2, x, v, rfl, h1, h2, h3, ids, τ, h4, h5⟩
  obtain ⟨f1, f2⟩ := freezeIds_tamed h1 ids
  have hd := deepen_sound f1 k v x res (h3.ext f2) h5
  have he := h2.trans f2
  rw [h4] at f1 he hd
  obtain ⟨g1, g2, g3⟩ := hm.drop f1 he hs
  exact ⟨ι, σ1, .d res, v, rfl, g1, g2, .d (hd.mono g3), rfl, rfl⟩

section
variable {P : Program} {M : Nat → Prop} {W0 : World} {n : Nat} {σ : List VObj} {kn : Kn} {dst : Option Tmp} {ty : TypeId} {pos : String} {af : Array Edge} {g : Option (Nat × Bool)}

/-- A loop that ends within some rounds. -/
def RK (P : Program) (M : Nat → Prop) (W0 : World) (n : Nat) (c : Code) (T : Exit → List VObj → Kn → Prop) : Nat → List VObj → Kn → Prop
  | 0, _, _ => False
  | m + 1, σ, kn => KC P M W0 n c σ kn (thenK (RK P M W0 n c T m) T)

theorem RK.succ {c : Code} {T : Exit → List VObj → Kn → Prop} {m : Nat} (h : KC P M W0 n c σ kn (thenK (RK P M W0 n c T m) T)) : RK P M W0 n c T (m + 1) σ kn := h

theorem KC.loopN {c : Code} {T : Exit → List VObj → Kn → Prop} (m : Nat) (h : RK P M W0 n c T m σ kn) : KC P M W0 n (.loop c) σ kn T := by
  intro env he
  have key : ∀ (m : Nat) (σ : List VObj) (kn : Kn), RK P M W0 n c T m σ kn → ∀ env, Agree kn env → ∀ (C : Ctx) (ι : List Nat) (ac : Act) (w : World), Fr M W0 C n ι ⟨σ, env⟩ ac w → ∀ Q : Exit → Act → World → Prop,
      (∀ (e : Exit) (ι' : List Nat) (s' : St) (a' : Act) (w' : World), (∃ k, Agree k s'.env ∧ T e s'.σ k) → Fr M W0 C n ι' s' a' w' → Ext M ι σ w ι' s'.σ w' → Q e a' w') → Code.roundsIn (FR C.ro) 0 P c Q m ac w := by
    intro m
    induction m with
    | zero => intro σ kn h; exact h.elim
    | succ m ih =>
      intro σ kn h env he C ι ac w hf Q hq
      rw [roundsIn_succ]
      refine h env he C ι ac w hf _ fun e ι' s' a' w' hs h2 h3 => ?_
      obtain ⟨k, k1, k2⟩ := hs
      cases e with
      | normal =>
        obtain ⟨σ', env'⟩ := s'
        exact ih σ' k k2 env' k1 C ι' a' w' h2 Q fun e ι'' s'' a'' w'' q1 q2 q3 => hq e ι'' s'' a'' w'' q1 q2 (h3.trans q3)
      | exit id => exact hq (.exit id) ι' s' a' w' ⟨k, k1, k2⟩ h2 h3
      | goto j => exact hq (.goto j) ι' s' a' w' ⟨k, k1, k2⟩ h2 h3
      | ret => exact hq .ret ι' s' a' w' ⟨k, k1, k2⟩ h2 h3
      | panic c => exact hq (.panic c) ι' s' a' w' ⟨k, k1, k2⟩ h2 h3
      | outgrown => exact hq .outgrown ι' s' a' w' ⟨k, k1, k2⟩ h2 h3
  exact fun C ι ac w hf Q hq => wpIn_loop_rounds m (key m σ kn h env he C ι ac w hf Q hq)

/-- A slice literal of deep values is a deep value: its block is new. -/
theorem K.litSl {t : TypeId} {m k : Nat} {parts : Array (Nat × Operand)} {qs : List (Nat × XV)} {cells : List XV} {lo : Nat} {d : DV} (hp : parts.toList.mapM (fun p => (evK kn p.2).map fun v => (p.1, v)) = some qs) (hq : ∀ q ∈ qs, ∃ e, q.2 = .d e)
    (hr : opBuildSlice P [] t m qs = some (.osl 0 0 m k lo true, [⟨cells, 0⟩])) (hd : deepen [⟨cells, 1⟩] 9 (.osl 0 0 m k lo true) = some d) : KEv P ⟨dst, .buildSlice t m parts, ty, pos, af, g⟩ σ kn (.d d) σ 0 := fun env he => by
  refine .hid (s := ⟨σ, env⟩) fun F ι w ev hF h => ?_
  have hex : ∀ ev : Operand → Value, execOp ev ⟨dst, .buildSlice t m parts, ty, pos, af, g⟩ = (do pure (.value (← Instr.buildSlice t m (parts.map fun (i, x) => (i, ev x))))) := fun _ => rfl
  rw [hex]
  obtain ⟨h1, h2⟩ := mapM_get hp
  have hm := Mem.start F w hF
  obtain ⟨ι', w', v, k1, k2, k3, k4⟩ := opBuildSlice_sound (P := P) hm (ps := (parts.map fun p => (p.1, ev p.2)).toList) (qs := qs) (by simpa using h1) (fun i p q hpi hqi => by
    simp only [Array.toList_map, List.getElem?_map, Option.map_eq_some_iff] at hpi
    obtain ⟨p', hp', rfl⟩ := hpi
    have h3 := h2 i p' q hp' hqi
    obtain ⟨u, hu, rfl⟩ := Option.map_eq_some_iff.1 h3
    obtain ⟨e, he'⟩ := hq _ (List.mem_of_getElem? hqi)
    simp only at he'
    subst he'
    have := h p'.2 (by
      simp only [Op.operands, List.mem_toArray, List.mem_map]
      exact ⟨p', List.mem_of_getElem? hp', rfl⟩)
    rw [evK_evalX he hu] at this
    simp only
    revert this
    generalize ev p'.2 = vv
    intro this
    cases this with
    | d hh => exact ⟨by first | rfl | trivial, .d (hh.mono (forb_nil F))⟩) hr
  obtain ⟨f1, f2⟩ := freezeAll_tamed k2
  have hfr : freezeAll [(⟨cells, 0⟩ : VObj)] = [⟨cells, 1⟩] := rfl
  have hdd := deepen_sound f1 9 v _ d (k4.ext f2) (by rw [hfr]; exact hd)
  refine ⟨v, w', ?_, k2.below, hdd.mono fun b hb => .inl hb⟩
  rw [Array.toArray_toList] at k1
  simp [k1, Result.andThen]

theorem bytes_eq (a b : ByteArray) : (a.toList == b.toList) = decide (a = b) := by
  by_cases h : a = b
  · subst h; simp
  · rw [decide_eq_false h]
    cases hb : a.toList == b.toList with
    | false => rfl
    | true =>
      exfalso
      have e := eq_of_beq hb
      rw [ByteArray.toList_eq, ByteArray.toList_eq] at e
      exact h (ByteArray.ext (Array.toList_inj.1 e))

theorem K.eqlS {t u : TypeId} {x y : Operand} {a b : ByteArray} (hx : evK kn x = some (.d (.lit (.string a)))) (hy : evK kn y = some (.d (.lit (.string b)))) :
    KEv P ⟨dst, .binOp .eql t x y u, ty, pos, af, g⟩ σ kn (.d (DB (decide (a = b)))) σ 0 :=
  K.bin hx hy (by
    rw [pureRun_bind]
    show (some ()).bind _ = _
    simp only [Option.bind_some]
    rw [binOp_string_eql, bytes_eq]; rfl)

end
end Go.Vm

end
section
/-
  WHAT A STATEMENT OPENS, for types that hold themselves: by the depth of the reading.
-/
namespace Go.Vm
open Go.RowKit Go.ChangeShapes Go.WideShapes Go.Deep

/-- The same, for readings of so many levels. -/
def OpnB (B : Nat) (P : Program) (t : TypeId) (R : List DV → Prop) : Prop :=
  ∀ (H : Type) (enc : TypeId × Value → H) (w : World) (held : Bool) (fuel : Nat) (cs : List Value) (x : DataW H × List MemPlace), fuel ≤ B → DataW.trod enc P w 0 (fun _ => true) held fuel t cs = some x → ∃ ds, DReps w cs ds ∧ R ds
section
variable {P : Program} {t e : TypeId}
theorem OpnB.all {R : List DV → Prop} (h : ∀ B, OpnB B P t R) : Opn P t R := fun H enc w held fuel cs x hx => h fuel H enc w held fuel cs x (Nat.le_refl _) hx
theorem Opn.b {R : List DV → Prop} (h : Opn P t R) (B : Nat) : OpnB B P t R := fun H enc w held fuel cs x _ hx => h H enc w held fuel cs x hx
theorem OpnB.less {R : List DV → Prop} {B C : Nat} (h : OpnB C P t R) (hb : B ≤ C) : OpnB B P t R := fun H enc w held fuel cs x hB hx => h H enc w held fuel cs x (Nat.le_trans hB hb) hx
theorem OpnB.mono {B : Nat} {R R' : List DV → Prop} (h : OpnB B P t R) (hr : ∀ ds, R ds → R' ds) : OpnB B P t R' := fun H enc w held fuel cs x hB hx => by
  obtain ⟨ds, h1, h2⟩ := h H enc w held fuel cs x hB hx
  exact ⟨ds, h1, hr _ h2⟩
theorem OpnB.slice {B : Nat} {R : List DV → Prop} {k : Nat} (ht : P.underlying t = some (.slice e)) (hk : P.cellsOf e = k) (he : OpnB B P e R) : OpnB (B + 1) P t (One (VecP k R)) := fun H enc w held fuel cs x hB h => by
  rcases DataW.trod_slice ht h with ⟨rfl, _⟩ | ⟨a, len, cap, elems, rest, n, hfu, rfl, _, _, hl, hm, hlen, hel, _, _⟩
  · exact ⟨[Dnil], .one (.lit _), _, rfl, .nil⟩
  · have each : ∀ i, i < len → ∃ y : List Value × List DV, w.cells? 0 (a.add (i * k)) k = some y.1 ∧ DReps w y.1 y.2 ∧ R y.2 := by
      intro i hi
      have h1 := hel i hi
      rw [List.getElem?_eq_getElem (by omega), hk] at h1
      obtain ⟨c, hc, hd⟩ := Option.bind_eq_some_iff.1 h1
      obtain ⟨ds, h2, h3⟩ := he H enc w held n c _ (by omega) hd
      exact ⟨(c, ds), hc, h2, h3⟩
    obtain ⟨y, hy⟩ := choose_lt each
    have hcl : ∀ i, i < len → (y i).1.length = k ∧ (y i).2.length = k := fun i hi => by
      obtain ⟨_, h2, _⟩ := World.cells?_some (hy i hi).1
      exact ⟨h2, by rw [← (hy i hi).2.1.1]; exact h2⟩
    have f2 := rows_flat k ((List.range len).map fun i => (y i).2) (fun l hl' => by
      obtain ⟨i, hi, rfl⟩ := List.mem_map.1 hl'
      exact (hcl i (by simpa using hi)).2)
    have f1 := rows_flat k ((List.range len).map fun i => (y i).1) (fun l hl' => by
      obtain ⟨i, hi, rfl⟩ := List.mem_map.1 hl'
      exact (hcl i (by simpa using hi)).1)
    simp only [List.length_map, List.length_range] at f1 f2
    refine ⟨[.sl ((List.range len).map fun i => (y i).2).flatten len none], .one ?_, _, rfl, .sl f2.1 (by have := maxLen_is; omega) fun i hi => ?_⟩
    · have split : ∀ p, p < len * k → ∃ i j, i < len ∧ j < k ∧ p = i * k + j := fun p hp => by
        have hk0 : 0 < k := by
          cases k with
          | zero => simp at hp
          | succ k => omega
        exact ⟨p / k, p % k, by rw [Nat.div_lt_iff_lt_mul hk0]; exact hp, Nat.mod_lt _ hk0, by rw [Nat.mul_comm]; exact (Nat.div_add_mod p k).symm⟩
      have cellAt : ∀ i j, i < len → j < k → w.cell? (a.add (i * k + j)) = (y i).1[j]? ∧ ((List.range len).map fun i => (y i).1).flatten[i * k + j]? = (y i).1[j]? ∧ ((List.range len).map fun i => (y i).2).flatten[i * k + j]? = (y i).2[j]? := by
        intro i j hi hj
        obtain ⟨_, _, h3⟩ := World.cells?_some (hy i hi).1
        have h4 := f1.2 i (y i).1 (by simp [hi])
        have h5 := f2.2 i (y i).2 (by simp [hi])
        refine ⟨?_, ?_, ?_⟩
        · rw [← h3 j hj, add_add']
        · conv => rhs; rw [← h4]
          rw [List.getElem?_take, if_pos hj, List.getElem?_drop]
        · conv => rhs; rw [← h5]
          rw [List.getElem?_take, if_pos hj, List.getElem?_drop]
      have key : len * k ≠ 0 → a.spot = none := by
        intro h0
        obtain ⟨i, j, hi, hj, he⟩ := split 0 (by omega)
        have h1 := (cellAt i j hi hj).1
        rw [← he, List.getElem?_eq_getElem (by rw [(hcl i hi).1]; exact hj)] at h1
        have := World.cell?_spot h1
        simpa [Addr.add] using this
      refine .sl ((List.range len).map fun i => (y i).1).flatten hl (fun c h => by cases h) (by rw [f1.1, f2.1]) (fun hne => ⟨key ?_, fun h => h⟩) (fun p v hv => ?_) (fun p v x hv hx => ?_)
      · intro h0
        apply hne
        rw [← List.length_eq_zero_iff, f2.1, h0]
      · have hp : p < len * k := by rw [← f1.1]; exact (List.getElem?_eq_some_iff.1 hv).1
        obtain ⟨i, j, hi, hj, rfl⟩ := split p hp
        obtain ⟨c1, c2, c3⟩ := cellAt i j hi hj
        have hs := key (by omega)
        obtain ⟨b, off, spot⟩ := a
        simp only at hs
        subst hs
        rw [c2, ← c1, add_plain] at hv
        exact hv
      · have hp : p < len * k := by rw [← f1.1]; exact (List.getElem?_eq_some_iff.1 hv).1
        obtain ⟨i, j, hi, hj, rfl⟩ := split p hp
        obtain ⟨c1, c2, c3⟩ := cellAt i j hi hj
        rw [c2] at hv
        rw [c3] at hx
        exact (hy i hi).2.1.2 j v x hv hx
    · rw [f2.2 i (y i).2 (by simp [hi])]
      exact (hy i hi).2.2

/-- A struct, field by field. -/
theorem OpnB.struct {B : Nat} {fs : Array Field} (ht : P.underlying t = some (.struct fs)) (Rs : List (Nat × (List DV → Prop))) (off : Nat → Nat) (h0 : off 0 = 0) (hs : Rs.length = fs.size) (hc : P.cellsOf t = off fs.size)
    (hf : ∀ (i : Nat) (f : Field) (q : Nat × (List DV → Prop)), fs[i]? = some f → Rs[i]? = some q → f.offset = off i ∧ P.cellsOf f.type = q.1 ∧ off (i + 1) = off i + q.1 ∧ OpnB B P f.type q.2) : OpnB (B + 1) P t (Parts Rs) := fun H enc w held fuel cs x hB h => by
  obtain ⟨xs, n, hfu, _, hlen, hxl, hx⟩ := DataW.trod_struct ht h
  have go : ∀ (m i : Nat), m = fs.size - i → i ≤ fs.size → ∃ ds, DReps w (cs.drop (off i)) ds ∧ Parts (Rs.drop i) ds := by
    intro m
    induction m with
    | zero =>
      intro i hm hi
      have : i = fs.size := by omega
      subst this
      rw [List.drop_eq_nil_of_le (by omega), List.drop_eq_nil_of_le (by omega)]
      exact ⟨[], .nil, rfl⟩
    | succ m ih =>
      intro i hm hi
      have hlt : i < fs.size := by omega
      have hlt' : i < Rs.length := by omega
      obtain ⟨a1, a2, a3, a4⟩ := hf i fs[i] Rs[i] (Array.getElem?_eq_getElem hlt) (List.getElem?_eq_getElem hlt')
      obtain ⟨ds', b1, b2⟩ := ih (i + 1) (by omega) (by omega)
      have hx' := hx i fs[i] (Array.getElem?_eq_getElem hlt)
      rw [List.getElem?_eq_getElem (by omega)] at hx'
      obtain ⟨d, c1, c2⟩ := a4 H enc w held n _ _ (by omega) hx'
      rw [a1, a2] at c1
      have hle : off i + Rs[i].1 ≤ cs.length := by
        have mono : ∀ k, i + 1 + k ≤ fs.size → off (i + 1) ≤ off (i + 1 + k) := by
          intro k
          induction k with
          | zero => intro _; exact Nat.le_refl _
          | succ k ihk =>
            intro hk
            have hk1 : i + 1 + k < fs.size := by omega
            obtain ⟨_, _, a3', _⟩ := hf (i + 1 + k) fs[i + 1 + k] Rs[i + 1 + k] (Array.getElem?_eq_getElem hk1) (List.getElem?_eq_getElem (by omega))
            have := ihk (by omega)
            have e : i + 1 + (k + 1) = i + 1 + k + 1 := by omega
            rw [e]; omega
        have := mono (fs.size - (i + 1)) (by omega)
        rw [show i + 1 + (fs.size - (i + 1)) = fs.size by omega] at this
        omega
      refine ⟨d ++ ds', ?_, ?_⟩
      · have e : cs.drop (off i) = (cs.drop (off i)).take Rs[i].1 ++ cs.drop (off (i + 1)) := by
          rw [a3, ← List.drop_drop, List.take_append_drop]
        rw [e]
        exact c1.append b1
      · rw [List.drop_eq_getElem_cons hlt']
        refine ⟨d, ds', rfl, ?_, c2, b2⟩
        rw [← c1.1]; simp; omega
  obtain ⟨ds, h1, h2⟩ := go _ 0 rfl (Nat.zero_le _)
  rw [h0] at h1
  exact ⟨ds, by simpa using h1, by simpa using h2⟩


theorem OpnB.structZ {fs : Array Field} {R : List DV → Prop} (ht : P.underlying t = some (.struct fs)) : OpnB 0 P t R := fun H enc w held fuel cs x hB h => by
  obtain ⟨xs, n, hfu, _⟩ := DataW.trod_struct ht h
  omega
end
end Go.Vm

end
section
/-
  CALLS THAT MAKE A SLICE FOR THEIR CALLER: the first object is kept, the others are forgotten.
-/
namespace Go.Vm
open Go.RowKit
theorem XRep.within2 {w w' : World} {ι ι' ι1 : List Nat} {F F' F1 : Nat → Prop} {v0 : Value} {x : XV} (h : XRep w ι F v0 x) (hpre : ∀ (id b : Nat), ι[id]? = some b → ι'[id]? = some b) (hp1 : ∀ (id b : Nat), ι[id]? = some b → ι1[id]? = some b) (hf : ∀ b, F1 b → F' b) :
    ∀ {v : Value}, XRep w' ι' F' v x → XRep w' ι1 F1 v x := by
  induction h with
  | d _ => intro v k; cases k with | d k => exact .d (k.mono hf)
  | @osl b off len cap id k lo ex hb hl hlo hex hs =>
    intro v k'
    cases k' with
    | osl hb2 hl2 hlo2 hex2 hs2 =>
      have := hpre _ _ hb
      rw [hb2] at this; cases this
      exact .osl (hp1 _ _ hb) hl2 hlo2 hex2 hs2
  | @optr b off id hb =>
    intro v k'
    cases k' with
    | optr hb2 =>
      have := hpre _ _ hb
      rw [hb2] at this; cases this
      exact .optr (hp1 _ _ hb)
  | @tup vs ds hn hx ih =>
    intro v k'
    cases k' with
    | tup hn2 hx2 =>
      refine .tup hn2 fun i u x hu hxd => ?_
      have hlt : i < vs.size := by rw [hn]; exact (List.getElem?_eq_some_iff.1 hxd).1
      exact ih i vs[i] x (Array.getElem?_eq_getElem hlt) hxd (hx2 i u x hu hxd)
  | @agg vs ds hn hx ih =>
    intro v k'
    cases k' with
    | agg hn2 hx2 =>
      refine .agg hn2 fun i u x hu hxd => ?_
      have hlt : i < vs.size := by rw [hn]; exact (List.getElem?_eq_some_iff.1 hxd).1
      exact ih i vs[i] x (Array.getElem?_eq_getElem hlt) hxd (hx2 i u x hu hxd)
  | @fn f vs us ds es hn hx hm hy ih1 ih2 =>
    intro v k'
    cases k' with
    | fn hn2 hx2 hm2 hy2 =>
      refine .fn hn2 (fun i u x hu hxd => ?_) hm2 (fun i u x hu hxd => ?_)
      · have hlt : i < vs.size := by rw [hn]; exact (List.getElem?_eq_some_iff.1 hxd).1
        exact ih1 i vs[i] x (Array.getElem?_eq_getElem hlt) hxd (hx2 i u x hu hxd)
      · have hlt : i < us.size := by rw [hm]; exact (List.getElem?_eq_some_iff.1 hxd).1
        exact ih2 i us[i] x (Array.getElem?_eq_getElem hlt) hxd (hy2 i u x hu hxd)
  | ifc _ ih =>
    intro v k'
    cases k' with
    | ifc k2 => exact .ifc (ih k2)
  | @omp b id hb =>
    intro v k'
    cases k' with
    | omp hb2 =>
      have := hpre _ _ hb
      rw [hb2] at this; cases this
      exact .omp (hp1 _ _ hb)
  | @yl l id hb =>
    intro v k'
    cases k' with
    | yl hb2 =>
      have := hpre _ _ hb
      rw [hb2] at this; cases this
      exact .yl (hp1 _ _ hb)

/-- Some objects that a call made are kept, the others are forgotten. -/
theorem Mem.dropG {M : Nat → Prop} {W0 w w' : World} {ι ι' ι1 : List Nat} {σ σ1 τ : List VObj} (hm : Mem M W0 ι σ w) (hm' : Mem M W0 ι' (σ1 ++ τ) w') (he : Ext M ι σ w ι' (σ1 ++ τ) w') (hlen : ι1.length = σ1.length) (hp1 : ∀ (id b : Nat), ι[id]? = some b → ι1[id]? = some b) (hp2 : ∀ (id b : Nat), ι1[id]? = some b → ι'[id]? = some b)
    (hsame : ∀ (id : Nat) (o : VObj), σ1[id]? = some o → σ[id]? = some o ∨ (o.mode < 2 ∧ ∀ (i : Nat) (x : XV), o.cells[i]? = some x → ∃ d, x = .d d)) :
    Mem M W0 ι1 σ1 w' ∧ Ext M ι σ w ι1 σ1 w' ∧ ∀ b, Forb M ι1 σ1 b → Forb M ι' (σ1 ++ τ) b := by
  have hold : ∀ (id : Nat) (o : VObj) (b : Nat), σ[id]? = some o → ι1[id]? = some b → ι[id]? = some b := fun id o b h hb => by
    have hlt : id < ι.length := by rw [hm.len]; exact (List.getElem?_eq_some_iff.1 h).1
    have h1 := hp1 id ι[id] (List.getElem?_eq_getElem hlt)
    rw [hb] at h1; cases h1
    exact List.getElem?_eq_getElem hlt
  have hget : ∀ (id : Nat) (o : VObj), σ1[id]? = some o → (σ1 ++ τ)[id]? = some o := fun id o h => by
    rw [List.getElem?_append_left (List.getElem?_eq_some_iff.1 h).1]; exact h
  have hmut : ∀ b, Mut ι1 σ1 b → Mut ι' (σ1 ++ τ) b := by
    rintro b ⟨id, o, h1, h2, h3⟩
    exact ⟨id, o, hget id o h1, hp2 _ _ h2, h3⟩
  have hforb : ∀ b, Forb M ι1 σ1 b → Forb M ι' (σ1 ++ τ) b := fun b h => h.imp id (hmut b)
  refine ⟨⟨hlen, ?_, ?_, fun id b h => hm'.fresh id b (hp2 _ _ h), ?_, hm'.below, hm'.outer⟩, ⟨hp1, he.heap, he.size, fun b hb h => he.mt b hb (hmut b h), he.shape, he.loops⟩, hforb⟩
  · intro id o b h1 h2 h3
    obtain ⟨cur, ty, q1, q2, q3⟩ := hm'.objs id o b (hget id o h1) (hp2 _ _ h2) h3
    refine ⟨cur, ty, q1, q2, fun i x hi => ?_⟩
    obtain ⟨v, kv, kx⟩ := q3 i x hi
    refine ⟨v, kv, ?_⟩
    rcases hsame id o h1 with h | ⟨_, h⟩
    · obtain ⟨_, _, _, _, r3⟩ := hm.objs id o b h (hold id o b h h2) h3
      obtain ⟨v0, _, kx0⟩ := r3 i x hi
      exact kx0.within2 he.pre hp1 hforb kx
    · obtain ⟨d, rfl⟩ := h i x hi
      cases kx with | d kx => exact .d (kx.mono hforb)
  · intro id o b h1 h2 h3
    rcases hsame id o h1 with h | ⟨h, _⟩
    · have a := hm.spec id o b h (hold id o b h h2) h3
      have c := hm'.spec id o b (hget id o h1) (hp2 _ _ h2) h3
      rcases c with ⟨c1, es, clock, c2, c3, c4⟩ | c | ⟨c1, r, L, ev, c2, c3, c4, c5, c6⟩
      · rcases a with ⟨_, es0, _, _, a3, a4⟩ | ⟨a, _⟩ | ⟨a, _⟩
        · refine .inl ⟨c1, es, clock, c2, c3, fun i e cc hi hc => ?_⟩
          obtain ⟨x, k1, k2⟩ := c4 i e cc hi hc
          have hlt : i < es0.size := by rw [a3]; exact (List.getElem?_eq_some_iff.1 hc).1
          obtain ⟨x0, k3, k4⟩ := a4 i es0[i] cc (Array.getElem?_eq_getElem hlt) hc
          rw [k1] at k3
          simp only [XV.ent, XV.tup.injEq, List.cons.injEq, and_true] at k3
          refine ⟨x, k1, ?_⟩
          rw [← k3.2] at k4
          exact k4.within2 he.pre hp1 hforb k2
        · omega
        · omega
      · exact .inr (.inl c)
      · rcases a with ⟨a, _⟩ | ⟨a, _⟩ | ⟨_, r0, L0, ev0, _, a3, _, a5, a6⟩
        · omega
        · omega
        · refine .inr (.inr ⟨c1, r, L, ev, c2, c3, c4, c5, fun i v x hv hx => ?_⟩)
          rw [c3] at a3
          have e0 : ev = ev0 := (List.cons.inj a3).2
          subst e0
          have hlt : i < r0.tmps.size := by rw [a5]; exact (List.getElem?_eq_some_iff.1 hx).1
          exact (a6 i r0.tmps[i] x (Array.getElem?_eq_getElem hlt) hx).within2 he.pre hp1 hforb (c6 i v x hv hx)
    · omega
  · intro i j oi oj bi bj hij h1 h2 h3 h4 h5 h6
    exact hm'.apart i j oi oj bi bj hij (hget _ _ h1) (hget _ _ h2) (hp2 _ _ h3) (hp2 _ _ h4) h5 h6

/-- What the call does among the caller's objects: the first slice that it made is kept, what else it made is forgotten. -/
theorem ownKeep_I {P : Program} {f : FuncId} {σ : List VObj} {args : List XV} {ob : VObj} {L : Nat} {ex : Bool} {d : DV} (hob : ob.mode < 2) (hcs : ∀ (i : Nat) (x : XV), ob.cells[i]? = some x → ∃ d, x = .d d)
    (hin0 : ∀ (M : Nat → Prop) (W0 : World), InCall P M W0 f σ args (fun σ2 x => x = .tup [.osl σ.length 0 L 1 L ex, .d d] ∧ ∃ τ, σ2 = (σ ++ [ob]) ++ τ)) :
    OwnCall P f σ args (σ ++ [ob]) (.tup [.osl σ.length 0 L 1 L ex, .d d]) := by
  intro M W0 ι w vs hm hl hx
  have hin := hin0 M W0
  refine (hin ι w vs hm hl hx).mono fun e w' => ?_
  rintro ⟨ι', σ2, x, v, rfl, h1, h2, h3, rfl, τ, rfl⟩
  obtain ⟨b0, hb0⟩ : ∃ b0, ι'[σ.length]? = some b0 := ⟨_, List.getElem?_eq_getElem (show σ.length < ι'.length by rw [h1.len]; simp)⟩
  have hp1 : ∀ (id b : Nat), ι[id]? = some b → (ι ++ [b0])[id]? = some b := fun id b h => by
    rw [List.getElem?_append_left (List.getElem?_eq_some_iff.1 h).1]; exact h
  have hp2 : ∀ (id b : Nat), (ι ++ [b0])[id]? = some b → ι'[id]? = some b := fun id b h => by
    by_cases hid : id < ι.length
    · rw [List.getElem?_append_left hid] at h; exact h2.pre _ _ h
    · rw [List.getElem?_append_right (by omega)] at h
      have h5 := (List.getElem?_eq_some_iff.1 h).1
      simp at h5
      have h6 : id = σ.length := by rw [← hm.len]; omega
      subst h6
      rw [show σ.length - ι.length = 0 by rw [hm.len]; omega] at h
      rw [hb0]; exact h
  obtain ⟨g1, g2, g3⟩ := hm.dropG h1 h2 (ι1 := ι ++ [b0]) (by simp [hm.len]) hp1 hp2 (fun id o ho => by
    by_cases hid : id < σ.length
    · rw [List.getElem?_append_left hid] at ho; exact .inl ho
    · rw [List.getElem?_append_right (by omega)] at ho
      have h5 := (List.getElem?_eq_some_iff.1 ho).1
      simp at h5
      rw [show id - σ.length = 0 by omega] at ho
      simp at ho
      subst ho
      exact .inr ⟨hob, hcs⟩)
  refine ⟨ι ++ [b0], σ ++ [ob], _, v, rfl, g1, g2, ?_, rfl, rfl⟩
  cases h3 with
  | tup hn hx =>
    refine .tup hn fun i u x hu hxd => ?_
    have hxx := hx i u x hu hxd
    match i, hxd with
    | 0, hxd =>
      cases hxd
      cases hxx with
      | osl q1 q2 q3 q4 q5 =>
        refine .osl ?_ q2 q3 q4 q5
        rw [hb0] at q1
        rw [List.getElem?_append_right (by rw [hm.len]; exact Nat.le_refl _)]
        simpa [hm.len] using q1
    | 1, hxd =>
      cases hxd
      cases hxx with
      | d k => exact .d (k.mono g3)
    | i + 2, hxd => simp at hxd
theorem ownDrop_I {P : Program} {f : FuncId} {σ σ1 : List VObj} {args : List XV} {res : DV} (k : Nat) (hs : Same1 σ σ1)
    (hin0 : ∀ (M : Nat → Prop) (W0 : World), InCall P M W0 f σ args (fun σ2 x => ∃ ids τ, freezeIds σ2 ids = σ1 ++ τ ∧ deepen (freezeIds σ2 ids) k x = some res)) :
    OwnCall P f σ args σ1 (.d res) := by
  intro M W0 ι w vs hm hl hx
  refine (hin0 M W0 ι w vs hm hl hx).mono fun e w' => ?_
  rintro ⟨ι', σ2, x, v, rfl, h1, h2, h3, ids, τ, h4, h5⟩
  obtain ⟨f1, f2⟩ := freezeIds_tamed h1 ids
  have hd := deepen_sound f1 k v x res (h3.ext f2) h5
  have he := h2.trans f2
  rw [h4] at f1 he hd
  obtain ⟨g1, g2, g3⟩ := hm.drop f1 he hs
  exact ⟨ι, σ1, .d res, v, rfl, g1, g2, .d (hd.mono g3), rfl, rfl⟩
theorem InCall.weak {P : Program} {M : Nat → Prop} {W0 : World} {f : FuncId} {σ : List VObj} {args : List XV} {Q Q' : List VObj → XV → Prop} (h : InCall P M W0 f σ args Q) (hq : ∀ σ2 x, Q σ2 x → Q' σ2 x) : InCall P M W0 f σ args Q' := by
  intro ι w vs hm hl hx
  refine (h ι w vs hm hl hx).mono fun e w' => ?_
  rintro ⟨ι', σ2, x, v, a, b, c, d, q⟩
  exact ⟨ι', σ2, x, v, a, b, c, d, hq _ _ q⟩
theorem freezeIds_nil (σ : List VObj) : freezeIds σ [] = σ := by
  unfold freezeIds
  apply List.ext_getElem?
  intro i
  rw [List.getElem?_mapIdx]
  cases σ[i]? <;> simp
section
variable {P : Program} {σ : List VObj} {kn : Kn} {dst : Option Tmp} {ty : TypeId} {pos : String} {af : Array Edge} {g : Option (Nat × Bool)}
theorem K.extractY {x : Operand} {i : Nat} {xs : List XV} {c : XV} (hx : evK kn x = some (.tup xs)) (hc : xs[i]? = some c) : KEv P ⟨dst, .extract x i, ty, pos, af, g⟩ σ kn c σ 0 := ev_op fun env he => by
  have e1 := evK_evalX he hx
  unfold evalOp
  rw [litOp_none (x := x) (by simp [Op.operands]) (by rw [e1]; rfl)]
  simp [e1, opExtract, hc]
end
end Go.Vm

end
