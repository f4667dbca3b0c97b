import Derived.Test.YthbnnffmhnjpjaaFlP
/-
  DATAFLOW GRAPHS: the repetition vector as the program computes it, and that it balances every link.
-/
namespace Go.Fl

abbrev Fra := Nat × Nat
def knB (x : Fra) : Bool := !(decide (x.1 = 0) && decide (x.2 = 0))
def gcdF (a b : Nat) : Nat := Nat.gcd a b
def timesF (x : Fra) (n d : Nat) : Fra := ((x.1 * n) / Nat.gcd (x.1 * n) (x.2 * d), (x.2 * d) / Nat.gcd (x.1 * n) (x.2 * d))
abbrev Rat6 := Nat → Fra
def setF (R : Rat6) (i : Nat) (v : Fra) : Rat6 := fun j => if j = i then v else R j
def stepR (p : Rat6 × Bool) (l : LN) : Rat6 × Bool :=
  if knB (p.1 l.f) = knB (p.1 l.t) then p
  else if knB (p.1 l.f) = false then (setF p.1 l.f (timesF (p.1 l.t) l.k l.g), true)
  else (setF p.1 l.t (timesF (p.1 l.f) l.g l.k), true)
def passR (L : List LN) (R : Rat6) : Rat6 × Bool := L.foldl stepR (R, false)
def ratesF (L : List LN) : Nat → Rat6 → Rat6
  | 0, R => R
  | n + 1, R => if (passR L R).2 = true then ratesF L n (passR L R).1 else (passR L R).1
def startR (first : Nat) : Rat6 := fun i => if i = first then (1, 1) else (0, 0)
def knum (R : Rat6) : Nat := tot fun i => if knB (R i) = true then 1 else 0
def balB (L : List LN) (R : Rat6) : Bool := L.all fun l => !(knB (R l.f) && decide (timesF (R l.f) l.g l.k ≠ R l.t))
def commF (R : Rat6) : Nat → Nat
  | 0 => 1
  | i + 1 => if knB (R i) = true then commF R i * ((R i).2 / Nat.gcd (commF R i) (R i).2) else commF R i
def addR (R : Rat6) (C : Nat) (q : Nat → Nat) : Nat → Nat := fun a => if knB (R a) = true then (R a).1 * (C / (R a).2) else q a
def repStep (L : List LN) (N i : Nat) (q : Nat → Nat) : Option (Nat → Nat) :=
  if 0 < q i then some q else if balB L (ratesF L 6 (startR i)) = true then some (addR (ratesF L 6 (startR i)) (commF (ratesF L 6 (startR i)) N) q) else none
def repFold (L : List LN) (N : Nat) : Nat → Option (Nat → Nat)
  | 0 => some fun _ => 0
  | i + 1 => (repFold L N i).bind (repStep L N i)

structure GoodF (x : Fra) (e : Nat) : Prop where
  n0 : 0 < x.1
  d0 : 0 < x.2
  nd : x.1 ∣ 60 ^ e
  dd : x.2 ∣ 60 ^ e
  co : Nat.gcd x.1 x.2 = 1

structure GoodR (N : Nat) (R : Rat6) : Prop where
  out : ∀ i, N ≤ i → R i = (0, 0)
  pos : 1 ≤ knum R
  val : ∀ i, knB (R i) = true → GoodF (R i) (knum R - 1)

theorem knB_false {x : Fra} : knB x = false ↔ x = (0, 0) := by
  obtain ⟨a, b⟩ := x
  simp [knB]
theorem knum_le (R : Rat6) : knum R ≤ 6 := by
  have : knum R ≤ tot fun _ => 1 := tot_le fun i _ => by split <;> omega
  exact this
theorem GoodF.kn {x : Fra} {e : Nat} (h : GoodF x e) : knB x = true := by
  have := h.n0
  simp [knB]; omega
theorem six_dvd {n : Nat} (h1 : 1 ≤ n) (h6 : n ≤ 6) : n ∣ 60 := by
  rcases (show n = 1 ∨ n = 2 ∨ n = 3 ∨ n = 4 ∨ n = 5 ∨ n = 6 by omega) with rfl | rfl | rfl | rfl | rfl | rfl <;> decide
theorem GoodF.mono {x : Fra} {e e' : Nat} (h : GoodF x e) (he : e ≤ e') : GoodF x e' :=
  ⟨h.n0, h.d0, Nat.dvd_trans h.nd (Nat.pow_dvd_pow 60 he), Nat.dvd_trans h.dd (Nat.pow_dvd_pow 60 he), h.co⟩
theorem GoodF.le {x : Fra} {e : Nat} (h : GoodF x e) (he : e ≤ 5) : x.1 ≤ 777600000 ∧ x.2 ≤ 777600000 := by
  have h5 := h.mono he
  exact ⟨Nat.le_of_dvd (by decide) (show x.1 ∣ 777600000 from h5.nd), Nat.le_of_dvd (by decide) (show x.2 ∣ 777600000 from h5.dd)⟩
theorem timesF_good {x : Fra} {e n d : Nat} (h : GoodF x e) (hn : 1 ≤ n) (hn6 : n ≤ 6) (hd : 1 ≤ d) (hd6 : d ≤ 6) : GoodF (timesF x n d) (e + 1) := by
  have p1 : 0 < x.1 * n := Nat.mul_pos h.n0 hn
  have p2 : 0 < x.2 * d := Nat.mul_pos h.d0 hd
  have g0 : 0 < Nat.gcd (x.1 * n) (x.2 * d) := Nat.gcd_pos_of_pos_left _ p1
  have g1 := Nat.gcd_dvd_left (x.1 * n) (x.2 * d)
  have g2 := Nat.gcd_dvd_right (x.1 * n) (x.2 * d)
  refine ⟨Nat.div_pos (Nat.le_of_dvd p1 g1) g0, Nat.div_pos (Nat.le_of_dvd p2 g2) g0, ?_, ?_, Nat.coprime_div_gcd_div_gcd g0⟩
  · refine Nat.dvd_trans (Nat.div_dvd_of_dvd g1) ?_
    rw [Nat.pow_succ]
    exact Nat.mul_dvd_mul h.nd (six_dvd hn hn6)
  · refine Nat.dvd_trans (Nat.div_dvd_of_dvd g2) ?_
    rw [Nat.pow_succ]
    exact Nat.mul_dvd_mul h.dd (six_dvd hd hd6)
theorem timesF_eq {x y : Fra} {n d : Nat} (hx : 0 < x.1) (hx2 : 0 < x.2) (hn : 0 < n) (hd : 0 < d) (h : timesF x n d = y) : x.1 * n * y.2 = x.2 * d * y.1 := by
  subst h
  have p1 : 0 < x.1 * n := Nat.mul_pos hx hn
  have g1 := Nat.gcd_dvd_left (x.1 * n) (x.2 * d)
  have g2 := Nat.gcd_dvd_right (x.1 * n) (x.2 * d)
  simp only [timesF]
  generalize hg : Nat.gcd (x.1 * n) (x.2 * d) = g at g1 g2 ⊢
  have g0 : 0 < g := hg ▸ Nat.gcd_pos_of_pos_left _ p1
  obtain ⟨a, ha⟩ := g1
  obtain ⟨b, hb⟩ := g2
  rw [ha, hb, Nat.mul_div_cancel_left _ g0, Nat.mul_div_cancel_left _ g0]
  rw [Nat.mul_assoc, Nat.mul_assoc, Nat.mul_comm a b]
/-- The same fraction times the same fraction in other terms. -/
theorem timesF_twice (x : Fra) (n d : Nat) : timesF x (2 * n) (2 * d) = timesF x n d := by
  unfold timesF
  have e1 : x.1 * (2 * n) = 2 * (x.1 * n) := by rw [Nat.mul_left_comm]
  have e2 : x.2 * (2 * d) = 2 * (x.2 * d) := by rw [Nat.mul_left_comm]
  rw [e1, e2, Nat.gcd_mul_left, Nat.mul_div_mul_left _ _ (by omega), Nat.mul_div_mul_left _ _ (by omega)]

theorem knum_set {R : Rat6} {i : Nat} {v : Fra} (hi : i < 6) (h : knB (R i) = false) (hv : knB v = true) : knum (setF R i v) = knum R + 1 := by
  have h1 := tot_upd (X := fun i => if knB (R i) = true then 1 else 0) (v := 1) hi
  have e : (fun j => if j = i then 1 else if knB (R j) = true then 1 else 0) = fun j => if knB (setF R i v j) = true then 1 else 0 := by
    funext j
    unfold setF
    by_cases e : j = i
    · rw [if_pos e, if_pos e, if_pos hv]
    · rw [if_neg e, if_neg e]
  rw [e, h] at h1
  simp only [Bool.false_eq_true, if_false] at h1
  exact h1

theorem GoodR.set {N : Nat} {R : Rat6} (hG : GoodR N R) (hN : N ≤ 6) {i : Nat} {v : Fra} (hi : i < N) (h : knB (R i) = false) (hv : GoodF v (knum R)) : GoodR N (setF R i v) ∧ knum (setF R i v) = knum R + 1 := by
  have hk := knum_set (v := v) (show i < 6 by omega) h hv.kn
  refine ⟨⟨fun j hj => ?_, by omega, fun j hj => ?_⟩, hk⟩
  · unfold setF; rw [if_neg (by omega)]; exact hG.out j hj
  · rw [hk]
    unfold setF at hj ⊢
    by_cases e : j = i
    · rw [if_pos e]; exact hv.mono (by omega)
    · rw [if_neg e] at hj ⊢; exact (hG.val j hj).mono (by omega)

theorem step_good {N : Nat} {p : Rat6 × Bool} {l : LN} (hN : N ≤ 6) (hG : GoodR N p.1) (hl : OkL N l) : GoodR N (stepR p l).1 ∧ ((stepR p l = p ∧ knB (p.1 l.f) = knB (p.1 l.t)) ∨ ((stepR p l).2 = true ∧ knum (stepR p l).1 = knum p.1 + 1)) := by
  have hp := hG.pos
  unfold stepR
  split
  · exact ⟨hG, .inl ⟨rfl, ‹_›⟩⟩
  · rename_i h1
    split
    · rename_i h2
      have h3 : knB (p.1 l.t) = true := by rw [h2] at h1; simpa using h1
      have h4 := timesF_good (hG.val _ h3) hl.k1 hl.k6 hl.g1 hl.g6
      have h5 := hG.set hN hl.f h2 (v := timesF (p.1 l.t) l.k l.g) (by rwa [show knum p.1 - 1 + 1 = knum p.1 by omega] at h4)
      exact ⟨h5.1, .inr ⟨rfl, h5.2⟩⟩
    · rename_i h2
      have h2 : knB (p.1 l.f) = true := by simpa using h2
      have h3 : knB (p.1 l.t) = false := by rw [h2] at h1; simpa using h1
      have h4 := timesF_good (hG.val _ h2) hl.g1 hl.g6 hl.k1 hl.k6
      have h5 := hG.set hN hl.t h3 (v := timesF (p.1 l.f) l.g l.k) (by rwa [show knum p.1 - 1 + 1 = knum p.1 by omega] at h4)
      exact ⟨h5.1, .inr ⟨rfl, h5.2⟩⟩

theorem fold_good {N : Nat} (hN : N ≤ 6) : ∀ {L : List LN} {p : Rat6 × Bool}, GoodR N p.1 → (∀ l ∈ L, OkL N l) → GoodR N (L.foldl stepR p).1 ∧
    ((L.foldl stepR p = p ∧ ∀ l ∈ L, knB (p.1 l.f) = knB (p.1 l.t)) ∨ ((L.foldl stepR p).2 = true ∧ knum p.1 + 1 ≤ knum (L.foldl stepR p).1))
  | [], p, hG, _ => ⟨hG, .inl ⟨rfl, fun l hl => by simp at hl⟩⟩
  | l :: L, p, hG, hL => by
    obtain ⟨h1, h2⟩ := step_good hN hG (hL l (by simp))
    obtain ⟨h3, h4⟩ := fold_good hN h1 (fun l hl => hL l (List.mem_cons_of_mem _ hl))
    rw [List.foldl_cons]
    refine ⟨h3, ?_⟩
    rcases h2 with ⟨h2, h2'⟩ | ⟨h2, h2'⟩ <;> rcases h4 with ⟨h4, h4'⟩ | ⟨h4, h4'⟩
    · rw [h2] at h4 h4' ⊢
      refine .inl ⟨h4, fun l' hl' => ?_⟩
      rcases List.mem_cons.1 hl' with rfl | hl'
      · exact h2'
      · exact h4' l' hl'
    · rw [h2] at h4 h4' ⊢; exact .inr ⟨h4, h4'⟩
    · right; rw [h4]; exact ⟨h2, by omega⟩
    · exact .inr ⟨h4, by omega⟩

theorem pass_good {N : Nat} {L : List LN} {R : Rat6} (hN : N ≤ 6) (hG : GoodR N R) (hL : ∀ l ∈ L, OkL N l) : GoodR N (passR L R).1 ∧
    (((passR L R).2 = false ∧ (passR L R).1 = R ∧ ∀ l ∈ L, knB (R l.f) = knB (R l.t)) ∨ ((passR L R).2 = true ∧ knum R + 1 ≤ knum (passR L R).1)) := by
  obtain ⟨h1, h2⟩ := fold_good hN (p := (R, false)) hG hL
  refine ⟨h1, ?_⟩
  rcases h2 with ⟨h2, h3⟩ | h2
  · left; unfold passR; rw [h2]; exact ⟨rfl, rfl, h3⟩
  · exact .inr h2

theorem rates_good {N : Nat} {L : List LN} (hN : N ≤ 6) (hL : ∀ l ∈ L, OkL N l) : ∀ (n : Nat) {R : Rat6}, GoodR N R → 7 ≤ knum R + n → GoodR N (ratesF L n R) ∧ (∀ l ∈ L, knB (ratesF L n R l.f) = knB (ratesF L n R l.t)) ∧ ∀ i, knB (R i) = true → ratesF L n R i = R i
  | 0, R, hG, h => by have := knum_le R; omega
  | n + 1, R, hG, h => by
    obtain ⟨h1, h2⟩ := pass_good hN hG hL
    have keep : ∀ i, knB (R i) = true → (passR L R).1 i = R i := by
      intro i hi
      have : ∀ (L : List LN) (p : Rat6 × Bool), knB (p.1 i) = true → (L.foldl stepR p).1 i = p.1 i := by
        intro L
        induction L with
        | nil => intro p _; rfl
        | cons l L ih =>
          intro p hp
          have e : (stepR p l).1 i = p.1 i := by
            unfold stepR
            split
            · rfl
            · split
              · rename_i h2; simp only [setF]; rw [if_neg (fun e => by subst e; rw [hp] at h2; cases h2)]
              · rename_i h1 h2
                simp only [setF]; rw [if_neg (fun e => by subst e; rw [hp] at h1; simp at h1 h2; rw [h1] at h2; cases h2)]
          rw [List.foldl_cons, ih _ (by rw [e]; exact hp), e]
      exact this L (R, false) hi
    simp only [ratesF]
    rcases h2 with ⟨h2, h3, h4⟩ | ⟨h2, h3⟩
    · rw [if_neg (by rw [h2]; simp)]
      rw [h3]; exact ⟨hG, h4, fun _ _ => rfl⟩
    · rw [if_pos h2]
      obtain ⟨k1, k2, k3⟩ := rates_good hN hL n h1 (by omega)
      exact ⟨k1, k2, fun i hi => by rw [k3 i (by rw [keep i hi]; exact hi), keep i hi]⟩

theorem start_good {N i : Nat} (hN : N ≤ 6) (hi : i < N) : GoodR N (startR i) ∧ knum (startR i) = 1 := by
  have hk : knum (startR i) = 1 := by
    have h1 := tot_upd (X := fun _ => 0) (v := 1) (show i < 6 by omega)
    have e : (fun j => if j = i then 1 else 0) = fun j => if knB (startR i j) = true then 1 else 0 := by
      funext j; unfold startR
      by_cases e : j = i
      · rw [if_pos e, if_pos e]; rfl
      · rw [if_neg e, if_neg e]; rfl
    rw [e] at h1
    have h0 : tot (fun _ => 0) = 0 := rfl
    rw [h0] at h1
    exact h1
  refine ⟨⟨fun j hj => ?_, by omega, fun j hj => ?_⟩, hk⟩
  · unfold startR; rw [if_neg (by omega)]
  · unfold startR at hj ⊢
    by_cases e : j = i
    · rw [if_pos e]; exact ⟨by decide, by decide, by simp, by simp, by decide⟩
    · rw [if_neg e] at hj; cases hj

theorem comm_good {N : Nat} {R : Rat6} (hG : GoodR N R) : ∀ (i : Nat), 0 < commF R i ∧ commF R i ∣ 60 ^ 5 ∧ ∀ j, j < i → knB (R j) = true → (R j).2 ∣ commF R i
  | 0 => ⟨by simp [commF], by simp [commF], fun j hj => by omega⟩
  | i + 1 => by
    obtain ⟨h1, h2, h3⟩ := comm_good hG i
    simp only [commF]
    split
    · rename_i hk
      have hv := (hG.val i hk).mono (show knum R - 1 ≤ 5 by have := knum_le R; omega)
      have e : commF R i * ((R i).2 / Nat.gcd (commF R i) (R i).2) = Nat.lcm (commF R i) (R i).2 := by
        unfold Nat.lcm; rw [Nat.mul_div_assoc _ (Nat.gcd_dvd_right _ _)]
      rw [e]
      refine ⟨Nat.lcm_pos h1 hv.d0, Nat.lcm_dvd h2 hv.dd, fun j hj hkj => ?_⟩
      by_cases e : j = i
      · subst e; exact Nat.dvd_lcm_right _ _
      · exact Nat.dvd_trans (h3 j (by omega) hkj) (Nat.dvd_lcm_left _ _)
    · rename_i hk
      refine ⟨h1, h2, fun j hj hkj => ?_⟩
      by_cases e : j = i
      · subst e; exact absurd hkj hk
      · exact h3 j (by omega) hkj

/-- What a repetition vector promises. -/
structure RepOk (L : List LN) (N i : Nat) (q : Nat → Nat) : Prop where
  pos : ∀ j, j < i → 0 < q j
  out : ∀ j, N ≤ j → q j = 0
  bal : ∀ l ∈ L, l.g * q l.f = l.k * q l.t
  le : ∀ j, q j ≤ 604661760000000000

theorem addR_le {N : Nat} {R : Rat6} (hG : GoodR N R) (j : Nat) (hk : knB (R j) = true) : (R j).1 ≤ 777600000 ∧ commF R N / (R j).2 ≤ 777600000 ∧ (R j).1 * (commF R N / (R j).2) ≤ 604661760000000000 := by
  have h1 := ((hG.val j hk).le (by have := knum_le R; omega)).1
  have h2 : commF R N ≤ 777600000 := Nat.le_of_dvd (by decide) (show commF R N ∣ 777600000 from (comm_good hG N).2.1)
  have h3 : commF R N / (R j).2 ≤ 777600000 := Nat.le_trans (Nat.div_le_self _ _) h2
  exact ⟨h1, h3, Nat.mul_le_mul h1 h3⟩

theorem add_ok {N : Nat} {L : List LN} {q : Nat → Nat} {i : Nat} (hN : N ≤ 6) (hL : ∀ l ∈ L, OkL N l) (hi : i < N) (hq : RepOk L N i q) (hb : balB L (ratesF L 6 (startR i)) = true) :
    RepOk L N (i + 1) (addR (ratesF L 6 (startR i)) (commF (ratesF L 6 (startR i)) N) q) := by
  obtain ⟨s1, s2⟩ := start_good hN hi
  obtain ⟨h1, h2, h3⟩ := rates_good hN hL 6 s1 (by omega)
  have hki : knB (startR i i) = true := by unfold startR; rw [if_pos rfl]; rfl
  have hi1 := h3 i hki
  generalize ratesF L 6 (startR i) = R at h1 h2 h3 hb hi1
  obtain ⟨c1, c2, c3⟩ := comm_good h1 N
  have hin : ∀ j, knB (R j) = true → j < N := fun j hj => by
    rcases Nat.lt_or_ge j N with h | h
    · exact h
    · rw [h1.out j h] at hj; cases hj
  have hpos : ∀ j, knB (R j) = true → 0 < (R j).1 * (commF R N / (R j).2) := fun j hj =>
    Nat.mul_pos (h1.val j hj).n0 (Nat.div_pos (Nat.le_of_dvd c1 (c3 j (hin j hj) hj)) (h1.val j hj).d0)
  refine ⟨fun j hj => ?_, fun j hj => ?_, fun l hl => ?_, fun j => ?_⟩
  · unfold addR
    split
    · exact hpos j ‹_›
    · rename_i hk
      refine hq.pos j ?_
      rcases Nat.lt_or_ge j i with h | h
      · exact h
      · have : j = i := by omega
        subst this
        rw [hi1] at hk; exact absurd hki hk
  · unfold addR
    rw [h1.out j hj]
    exact hq.out j hj
  · have hkk := h2 l hl
    unfold addR
    by_cases hk : knB (R l.f) = true
    · rw [if_pos hk, if_pos (hkk ▸ hk)]
      have hkt : knB (R l.t) = true := hkk ▸ hk
      have hb1 := List.all_eq_true.1 hb l hl
      rw [hk] at hb1
      have hb2 : timesF (R l.f) l.g l.k = R l.t := by simpa using hb1
      have hg := (hL l hl).g1
      have hkp := (hL l hl).k1
      have h4 := timesF_eq (h1.val _ hk).n0 (h1.val _ hk).d0 hg hkp hb2
      obtain ⟨a, ha⟩ := c3 _ (hin _ hk) hk
      obtain ⟨b, hb⟩ := c3 _ (hin _ hkt) hkt
      have ea : commF R N / (R l.f).2 = a := by rw [ha]; exact Nat.mul_div_cancel_left _ (h1.val _ hk).d0
      have eb : commF R N / (R l.t).2 = b := by rw [hb]; exact Nat.mul_div_cancel_left _ (h1.val _ hkt).d0
      rw [ea, eb]
      have d1 := (h1.val _ hk).d0
      have d2 := (h1.val _ hkt).d0
      have hab : (R l.f).2 * a = (R l.t).2 * b := by rw [← ha, ← hb]
      -- g·nf·a = k·nt·b, from nf·g·dt = df·k·nt and df·a = dt·b
      refine Nat.eq_of_mul_eq_mul_right d2 ?_
      calc l.g * ((R l.f).1 * a) * (R l.t).2 = ((R l.f).1 * l.g * (R l.t).2) * a := by
            simp only [Nat.mul_assoc, Nat.mul_comm, Nat.mul_left_comm]
        _ = ((R l.f).2 * l.k * (R l.t).1) * a := by rw [h4]
        _ = l.k * (R l.t).1 * ((R l.f).2 * a) := by simp only [Nat.mul_assoc, Nat.mul_comm, Nat.mul_left_comm]
        _ = l.k * (R l.t).1 * ((R l.t).2 * b) := by rw [hab]
        _ = l.k * ((R l.t).1 * b) * (R l.t).2 := by simp only [Nat.mul_assoc, Nat.mul_comm, Nat.mul_left_comm]
    · rw [if_neg hk, if_neg (hkk ▸ hk)]
      exact hq.bal l hl
  · unfold addR
    split
    · exact (addR_le h1 j ‹_›).2.2
    · exact hq.le j

theorem repFold_ok {N : Nat} {L : List LN} (hN : N ≤ 6) (hL : ∀ l ∈ L, OkL N l) : ∀ (i : Nat), i ≤ N → ∀ q, repFold L N i = some q → RepOk L N i q
  | 0, _, q, h => by
    simp only [repFold, Option.some.injEq] at h
    subst h
    exact ⟨fun j hj => by omega, fun _ _ => rfl, fun l _ => by simp, fun _ => by omega⟩
  | i + 1, hi, q, h => by
    simp only [repFold] at h
    cases h0 : repFold L N i with
    | none => rw [h0] at h; cases h
    | some q0 =>
      rw [h0] at h
      simp only [Option.bind_some] at h
      have ih := repFold_ok hN hL i (by omega) q0 h0
      unfold repStep at h
      split at h
      · rename_i hp
        cases h
        refine ⟨fun j hj => ?_, ih.out, ih.bal, ih.le⟩
        by_cases e : j = i
        · subst e; exact hp
        · exact ih.pos j (by omega)
      · split at h
        · rename_i hb
          cases h
          exact add_ok hN hL (by omega) ih hb
        · cases h
end Go.Fl

