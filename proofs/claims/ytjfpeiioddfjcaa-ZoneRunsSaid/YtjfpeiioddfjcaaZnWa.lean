import Derived.Test.YtjfpeiioddfjcaaZnX
import Derived.Test.YtjfpeiioddfjcaaZnRe
/-
  LEAST POINTS: a zone that is not empty has a point in quarters; the least one.
-/
namespace Go.Zn
namespace IntOM
instance inst : OM Int where
  add := (· + ·)
  e := 0
  le := (· ≤ ·)
  mn := min
  add_assoc := Int.add_assoc
  add_comm := Int.add_comm
  add_e := Int.add_zero
  le_refl := Int.le_refl
  le_trans := fun _ _ _ => Int.le_trans
  le_anti := fun _ _ => Int.le_antisymm
  add_le := fun _ _ _ _ => Int.add_le_add
  mn_l := Int.min_le_left
  mn_r := Int.min_le_right
  mn_or := fun a b => by rcases Int.le_total a b with h | h; exact .inl (Int.min_eq_left h); exact .inr (Int.min_eq_right h)
end IntOM
attribute [local instance] IntOM.inst
def gG (a : Nat → Nat → Int) : Nat → Nat → Int := fun i j => gre (a i j) 4
theorem gre_low {b : Int} (h : Zg 5000 b) : -10001 ≤ gre b 4 := by
  unfold Zg Lim at h
  unfold gre; omega
theorem gre_top : gre 1099511627776 4 = 2199023255551 := rfl
/-- A way's sum in quarters, from its sum as a bound. -/
theorem w_gre {a : Nat → Nat → Int} (ha : ZgM 5000 a) : ∀ (i : Nat) (l : List Nat), -10001 * (l.length : Int) ≤ w (gG a) i l ∧ match w (dec2 a) i l with
    | none => 2199023255551 - 10001 * (l.length : Int) ≤ w (gG a) i l
    | some x => 4 * (x / 2) - (if x % 2 = 1 then 0 else (l.length : Int)) ≤ w (gG a) i l
  | i, [] => by
    have e1 : w (gG a) i [] = 0 := rfl
    have e2 : w (dec2 a) i [] = some 1 := rfl
    rw [e1, e2]
    exact ⟨by simp, by show 4 * ((1 : Int) / 2) - _ ≤ (0 : Int); simp⟩
  | i, j :: l => by
    obtain ⟨h1, h2⟩ := w_gre ha j l
    have e1 : w (gG a) i (j :: l) = gre (a i j) 4 + w (gG a) j l := rfl
    have e2 : w (dec2 a) i (j :: l) = badd (dec (a i j)) (w (dec2 a) j l) := rfl
    have hb := gre_low (ha i j)
    have hln : ((j :: l).length : Int) = (l.length : Int) + 1 := by simp
    rw [e1, e2, hln]
    refine ⟨by omega, ?_⟩
    unfold dec
    by_cases hc : a i j = 1099511627776
    · rw [if_pos hc, hc, gre_top]
      have : badd none (w (dec2 a) j l) = none := by cases w (dec2 a) j l <;> rfl
      rw [this]
      show _ ≤ _
      omega
    · rw [if_neg hc]
      cases hw : w (dec2 a) j l with
      | none =>
        rw [hw] at h2
        have h2 : 2199023255551 - 10001 * (l.length : Int) ≤ w (gG a) j l := h2
        show _ ≤ _
        omega
      | some x =>
        rw [hw] at h2
        have h2 : 4 * (x / 2) - (if x % 2 = 1 then 0 else (l.length : Int)) ≤ w (gG a) j l := h2
        show 4 * ((2 * (a i j / 2 + x / 2) + min (a i j % 2) (x % 2)) / 2) - (if (2 * (a i j / 2 + x / 2) + min (a i j % 2) (x % 2)) % 2 = 1 then 0 else ((l.length : Int) + 1)) ≤ _
        unfold gre
        split at h2 <;> split <;> omega
/-- No simple cycle is negative in quarters. -/
theorem noneg_gre {n : Nat} {a : Nat → Nat → Int} (hn : n ≤ 4) (ha : ZgM 5000 a) (h : NoNeg n (dec2 a)) : NoNeg n (gG a) := fun i l hs => by
  have h1 := h i l hs
  have hl : l.length + 1 ≤ 4 := by have := simple_len hs; omega
  have e1 : cyc (gG a) i l = w (gG a) i (l ++ [i]) := by rw [w_append, w_one]; rfl
  have e2 : cyc (dec2 a) i l = w (dec2 a) i (l ++ [i]) := by rw [w_append, w_one]; rfl
  obtain ⟨k1, k2⟩ := w_gre ha i (l ++ [i])
  have hln : ((l ++ [i]).length : Int) = (l.length : Int) + 1 := by simp
  rw [e2] at h1
  rw [e1]
  rw [hln] at k2
  show (0 : Int) ≤ _
  cases hw : w (dec2 a) i (l ++ [i]) with
  | none =>
    rw [hw] at k2
    have k2 : 2199023255551 - 10001 * ((l.length : Int) + 1) ≤ w (gG a) i (l ++ [i]) := k2
    omega
  | some x =>
    rw [hw] at k2 h1
    have k2 : 4 * (x / 2) - (if x % 2 = 1 then 0 else ((l.length : Int) + 1)) ≤ w (gG a) i (l ++ [i]) := k2
    have h1 : (1 : Int) ≤ x := h1
    split at k2 <;> omega
def Sol (n : Nat) (a : Nat → Nat → Int) (q : Nat → Int) : Prop := q 0 = 0 ∧ (∀ i, i < n → 0 ≤ q i) ∧ In n a q
theorem sol_ex {n : Nat} {a : Nat → Nat → Int} (hn : n ≤ 4) (h1 : 1 ≤ n) (ha : ZgM 5000 (flo n a)) (he : emptyB n (tightM n a) = false) : ∃ p, Sol n a p ∧ ∀ i, i < n → p i ≤ 40000 := by
  have hg := noneg_gre hn ha (flo_noneg hn ha he)
  have hd : ∀ i, i < n → OM.le (gG (flo n a) i i) (OM.e : Int) := fun i hi => by
    show gre (flo n a i i) 4 ≤ 0
    exact gre_mono (flo_one hi)
  refine ⟨fun j => - fw ops n (gG (flo n a)) 0 j, ⟨?_, fun i hi => ?_, fun i j hi hj => ?_⟩, fun i hi => ?_⟩
  · have := fw_diag hg hd (show 0 < n by omega)
    show - fw ops n (gG (flo n a)) 0 0 = 0
    rw [this]; rfl
  · have h2 : fw ops n (gG (flo n a)) 0 i ≤ gre (flo n a 0 i) 4 := fw_le (a := gG (flo n a)) (show 0 < n by omega) hi
    have h3 : gre (flo n a 0 i) 4 ≤ 0 := gre_mono (flo_zero hi)
    show 0 ≤ - fw ops n (gG (flo n a)) 0 i
    omega
  · have h2 : fw ops n (gG (flo n a)) 0 j ≤ fw ops n (gG (flo n a)) 0 i + fw ops n (gG (flo n a)) i j := fw_closed hg hd 0 i j (by omega) hi hj
    have h3 : fw ops n (gG (flo n a)) i j ≤ gre (flo n a i j) 4 := fw_le (a := gG (flo n a)) hi hj
    have h4 : gre (flo n a i j) 4 ≤ gre (a i j) 4 := gre_mono flo_le
    show - fw ops n (gG (flo n a)) 0 i - - fw ops n (gG (flo n a)) 0 j ≤ gre (a i j) 4
    omega
  · obtain ⟨_, l, h2, _, h4⟩ := fw_min hg hd (show 0 < n by omega) hi
    have h5 := (w_gre ha 0 l).1
    have := simple_len h2
    show - fw ops n (gG (flo n a)) 0 i ≤ 40000
    rw [← h4]
    omega
/-- The least point. -/
structure Lst (n : Nat) (a : Nat → Nat → Int) (v : Nat → Int) : Prop where
  sol : Sol n a v
  low : ∀ q, Sol n a q → ∀ i, i < n → v i ≤ q i
theorem Lst.uniq {n : Nat} {a : Nat → Nat → Int} {v u : Nat → Int} (h : Lst n a v) (h' : Lst n a u) {i : Nat} (hi : i < n) : v i = u i := Int.le_antisymm (h.low u h'.sol i hi) (h'.low v h.sol i hi)
noncomputable def lst (n : Nat) (a : Nat → Nat → Int) : Nat → Int := open Classical in if h : ∃ v, Lst n a v then Classical.choose h else fun _ => 0
theorem lst_eq {n : Nat} {a : Nat → Nat → Int} {v : Nat → Int} (h : Lst n a v) {i : Nat} (hi : i < n) : v i = lst n a i := by
  unfold lst
  rw [dif_pos ⟨v, h⟩]
  exact h.uniq (Classical.choose_spec (⟨v, h⟩ : ∃ v, Lst n a v)) hi
/-- On the way up to the least point. -/
structure Up (n : Nat) (a : Nat → Nat → Int) (v : Nat → Int) : Prop where
  zero : v 0 = 0
  pos : ∀ i, i < n → 0 ≤ v i
  low : ∀ q, Sol n a q → ∀ i, i < n → v i ≤ q i
theorem Up.start {n : Nat} {a : Nat → Nat → Int} : Up n a fun _ => 0 := ⟨rfl, fun _ _ => Int.le_refl _, fun _ hq i hi => hq.2.1 i hi⟩
theorem Up.done {n : Nat} {a : Nat → Nat → Int} {v : Nat → Int} (h : Up n a v) (hi : In n a v) : Lst n a v := ⟨⟨h.zero, h.pos, hi⟩, h.low⟩
def put1 (v : Nat → Int) (j : Nat) (x : Int) : Nat → Int := fun i => if i = j then x else v i
theorem Up.raise {n i j : Nat} {a : Nat → Nat → Int} {v : Nat → Int} {x : Int} {p : Nat → Int} (h : Up n a v) (hp : Sol n a p) (hi : i < n) (hj : j < n) (h1 : v j < x) (h2 : x ≤ v i - gre (a i j) 4) : Up n a (put1 v j x) ∧ 0 < j ∧ x ≤ p j := by
  have hb : ∀ q, Sol n a q → x ≤ q j := fun q hq => by
    have := hq.2.2 i j hi hj
    have := h.low q hq i hi
    omega
  have hj0 : 0 < j := by
    rcases Nat.eq_zero_or_pos j with e | e
    · subst e
      have := hb p hp
      have := hp.1
      have := h.zero
      omega
    · exact e
  refine ⟨⟨?_, fun k hk => ?_, fun q hq k hk => ?_⟩, hj0, hb p hp⟩
  · unfold put1; rw [if_neg (by omega)]; exact h.zero
  · unfold put1
    split
    · have := h.pos j hj; omega
    · exact h.pos k hk
  · unfold put1
    split
    · rename_i e; subst e; exact hb q hq
    · exact h.low q hq k hk
def gap (p v : Nat → Int) : Nat := (p 0 - v 0).toNat + (p 1 - v 1).toNat + (p 2 - v 2).toNat + (p 3 - v 3).toNat
theorem gap_put {p v : Nat → Int} {j : Nat} {x : Int} (hj : j < 4) (h1 : v j < x) (h2 : x ≤ p j) : gap p (put1 v j x) < gap p v := by
  have e : ∀ k, put1 v j x k = if k = j then x else v k := fun _ => rfl
  unfold gap
  rw [e 0, e 1, e 2, e 3]
  match j, hj with
  | 0, _ => simp only [if_true, Nat.succ_ne_zero, if_false]; simp; omega
  | 1, _ => simp; omega
  | 2, _ => simp; omega
  | 3, _ => simp; omega
end Go.Zn

