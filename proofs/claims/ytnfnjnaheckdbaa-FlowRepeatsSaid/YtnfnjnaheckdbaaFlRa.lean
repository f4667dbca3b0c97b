/-
  DATAFLOW GRAPHS: the repetition vector as another program computes it (every round without a stop, the balance at the end), and that it is the same.
-/
import Derived.Test.YtnfnjnaheckdbaaFlR
namespace Go.Fl

def roundsR (L : List LN) : Nat → Rat6 → Rat6
  | 0, R => R
  | n + 1, R => roundsR L n (passR L R).1
theorem roundsR_snoc (L : List LN) : ∀ (n : Nat) (R : Rat6), roundsR L (n + 1) R = (passR L (roundsR L n R)).1
  | 0, _ => rfl
  | n + 1, R => by
    show roundsR L (n + 1) (passR L R).1 = _
    rw [roundsR_snoc L n]; rfl
theorem knum_leN {N : Nat} {R : Rat6} (hN : N ≤ 6) (hG : GoodR N R) : knum R ≤ N := by
  have h1 : knum R ≤ tot fun i => if i < N then 1 else 0 := tot_le fun i _ => by
    show (if knB (R i) = true then 1 else 0) ≤ if i < N then 1 else 0
    by_cases h : i < N
    · rw [if_pos h]; split <;> omega
    · rw [hG.out i (by omega)]; simp [knB]
  have h2 : (tot fun i => if i < N then 1 else 0) = N := by
    rcases (show N = 0 ∨ N = 1 ∨ N = 2 ∨ N = 3 ∨ N = 4 ∨ N = 5 ∨ N = 6 by omega) with rfl | rfl | rfl | rfl | rfl | rfl | rfl <;> decide
  omega
theorem rounds_fix {L : List LN} {R : Rat6} (h : (passR L R).1 = R) : ∀ m, roundsR L m R = R
  | 0 => rfl
  | m + 1 => by show roundsR L m (passR L R).1 = R; rw [h]; exact rounds_fix h m
theorem rounds_good {N : Nat} {L : List LN} (hN : N ≤ 6) (hL : ∀ l ∈ L, OkL N l) : ∀ (m : Nat) {R : Rat6}, GoodR N R → GoodR N (roundsR L m R)
  | 0, _, hG => hG
  | m + 1, _, hG => rounds_good hN hL m (pass_good hN hG hL).1
theorem rounds_rates {N : Nat} {L : List LN} (hN : N ≤ 6) (hL : ∀ l ∈ L, OkL N l) : ∀ (n m : Nat) {R : Rat6}, GoodR N R → 7 ≤ knum R + n → N ≤ knum R + m → ratesF L n R = roundsR L m R
  | 0, m, R, hG, h, _ => by have := knum_le R; omega
  | n + 1, m, R, hG, h, hm => by
    obtain ⟨h1, h2⟩ := pass_good hN hG hL
    simp only [ratesF]
    rcases h2 with ⟨h2, h3, _⟩ | ⟨h2, h3⟩
    · rw [if_neg (by rw [h2]; simp), rounds_fix h3, h3]
    · rw [if_pos h2]
      cases m with
      | zero => have := knum_leN hN h1; omega
      | succ m => exact rounds_rates hN hL n m h1 (by omega) (by omega)
theorem rounds_start {N i : Nat} {L : List LN} (hN : N ≤ 6) (hi : i < N) (hL : ∀ l ∈ L, OkL N l) : roundsR L N (startR i) = ratesF L 6 (startR i) := by
  obtain ⟨s1, s2⟩ := start_good hN hi
  exact (rounds_rates hN hL 6 N s1 (by omega) (by omega)).symm

/-- The common factor of the numbers, so far. -/
def commG (R : Rat6) (C : Nat) : Nat → Nat
  | 0 => 0
  | j + 1 => if knB (R j) = true then Nat.gcd (commG R C j) ((R j).1 * (C / (R j).2)) else commG R C j
theorem commG_dvd {R : Rat6} {C : Nat} : ∀ (n j : Nat), j < n → knB (R j) = true → commG R C n ∣ (R j).1 * (C / (R j).2)
  | 0, j, h, _ => by omega
  | n + 1, j, h, hk => by
    simp only [commG]
    by_cases e : j = n
    · subst e; rw [if_pos hk]; exact Nat.gcd_dvd_right _ _
    · have ih := commG_dvd (C := C) n j (by omega) hk
      split
      · exact Nat.dvd_trans (Nat.gcd_dvd_left _ _) ih
      · exact ih
theorem commF_dvd {R : Rat6} {D : Nat} (h : ∀ j, knB (R j) = true → (R j).2 ∣ D) : ∀ n, commF R n ∣ D
  | 0 => by simp [commF]
  | n + 1 => by
    simp only [commF]
    split
    · rename_i hk
      have e : commF R n * ((R n).2 / Nat.gcd (commF R n) (R n).2) = Nat.lcm (commF R n) (R n).2 := by
        unfold Nat.lcm; rw [Nat.mul_div_assoc _ (Nat.gcd_dvd_right _ _)]
      rw [e]; exact Nat.lcm_dvd (commF_dvd h n) (h n hk)
    · exact commF_dvd h n
theorem commG_one {N i : Nat} {R : Rat6} (hG : GoodR N R) (hi : i < N) (h1 : R i = (1, 1)) : commG R (commF R N) N = 1 := by
  obtain ⟨c1, _, c3⟩ := comm_good hG N
  have hin : ∀ j, knB (R j) = true → j < N := fun j hj => by
    rcases Nat.lt_or_ge j N with h | h
    · exact h
    · rw [hG.out j h] at hj; cases hj
  generalize hC : commF R N = C at c1 c3
  generalize hg : commG R C N = G
  have hki : knB (R i) = true := by rw [h1]; rfl
  have hGC : G ∣ C := by
    have := commG_dvd (C := C) N i hi hki
    rw [hg, h1] at this
    simpa using this
  obtain ⟨m, hm⟩ := hGC
  have hGp : 0 < G := by
    rcases Nat.eq_zero_or_pos G with h | h
    · subst h; omega
    · exact h
  have hmp : 0 < m := by
    rcases Nat.eq_zero_or_pos m with h | h
    · subst h; omega
    · exact h
  have hall : ∀ j, knB (R j) = true → (R j).2 ∣ m := fun j hj => by
    have hv := hG.val j hj
    obtain ⟨b, hb⟩ := c3 j (hin j hj) hj
    have hd := commG_dvd (C := C) N j (hin j hj) hj
    have eb : C / (R j).2 = b := by rw [hb]; exact Nat.mul_div_cancel_left _ hv.d0
    rw [hg, eb] at hd
    obtain ⟨x, hx⟩ := hd
    -- num·b = G·x and den·b = G·m, so den·x·G = num·m·G, so den divides num·m
    have h2 : (R j).2 * x = (R j).1 * m := by
      refine Nat.eq_of_mul_eq_mul_left hGp ?_
      calc G * ((R j).2 * x) = (R j).2 * (G * x) := by simp only [Nat.mul_comm, Nat.mul_left_comm]
        _ = (R j).2 * ((R j).1 * b) := by rw [hx]
        _ = (R j).1 * ((R j).2 * b) := by simp only [Nat.mul_comm, Nat.mul_left_comm]
        _ = (R j).1 * (G * m) := by rw [← hb, hm]
        _ = G * ((R j).1 * m) := by simp only [Nat.mul_comm, Nat.mul_left_comm]
    have hco : Nat.Coprime (R j).2 (R j).1 := by rw [Nat.coprime_comm]; exact hv.co
    exact hco.dvd_of_dvd_mul_left ⟨x, h2.symm⟩
  have hCm : C ∣ m := by rw [← hC]; exact commF_dvd hall N
  have h3 := Nat.le_of_dvd hmp hCm
  rw [hm] at h3
  have h4 : G * m ≤ 1 * m := by omega
  have := Nat.le_of_mul_le_mul_right h4 hmp
  omega
theorem commG_le {N : Nat} {R : Rat6} (hG : GoodR N R) : ∀ j, commG R (commF R N) j ≤ 604661760000000000
  | 0 => by simp [commG]
  | j + 1 => by
    simp only [commG]
    split
    · rename_i hk
      have hle := (addR_le hG j hk).2.2
      have hj : j < N := by
        rcases Nat.lt_or_ge j N with h | h
        · exact h
        · rw [hG.out j h] at hk; cases hk
      obtain ⟨c1, _, c3⟩ := comm_good hG N
      have hpos : 0 < (R j).1 * (commF R N / (R j).2) := Nat.mul_pos (hG.val j hk).n0 (Nat.div_pos (Nat.le_of_dvd c1 (c3 j hj hk)) (hG.val j hk).d0)
      exact Nat.le_trans (Nat.gcd_le_right _ hpos) hle
    · exact commG_le hG j

/-- The other program's vector, node by node, whether the graph is balanced or not. -/
def refStep (L : List LN) (N i : Nat) (q : Nat → Nat) : Nat → Nat :=
  if 0 < q i then q else addR (roundsR L N (startR i)) (commF (roundsR L N (startR i)) N) q
def refFold (L : List LN) (N : Nat) : Nat → Nat → Nat
  | 0 => fun _ => 0
  | i + 1 => refStep L N i (refFold L N i)
def balQ (L : List LN) (q : Nat → Nat) : Bool := L.all fun l => decide (l.g * q l.f = l.k * q l.t)
def refO (N : Nat) (L : List LN) : (Nat → Nat) × Int :=
  if balQ L (refFold L N N) = true then if 60 < tot (refFold L N N) then (fun _ => 0, 3) else (refFold L N N, 0) else (fun _ => 0, 5)

/-- A vector of whole pieces: the links join nothing that is counted to what is not. -/
structure RefOk (L : List LN) (N i : Nat) (q : Nat → Nat) : Prop where
  pos : ∀ j, j < i → 0 < q j
  out : ∀ j, N ≤ j → q j = 0
  cl : ∀ l ∈ L, 0 < q l.f ↔ 0 < q l.t
  le : ∀ j, q j ≤ 604661760000000000

theorem step_free {q : Nat → Nat} {p : Rat6 × Bool} {l : LN} (hl : 0 < q l.f ↔ 0 < q l.t) (h : ∀ a, knB (p.1 a) = true → q a = 0) : ∀ a, knB ((stepR p l).1 a) = true → q a = 0 := by
  intro a ha
  unfold stepR at ha
  split at ha
  · exact h a ha
  · rename_i h1
    split at ha
    · rename_i h2
      simp only [setF] at ha
      split at ha
      · rename_i e; subst e
        have h3 : knB (p.1 l.t) = true := by rw [h2] at h1; simpa using h1
        have := h _ h3; omega
      · exact h a ha
    · rename_i h2
      simp only [setF] at ha
      split at ha
      · rename_i e; subst e
        have h3 : knB (p.1 l.f) = true := by simpa using h2
        have := h _ h3; omega
      · exact h a ha
theorem fold_free {q : Nat → Nat} : ∀ {L : List LN} {p : Rat6 × Bool}, (∀ l ∈ L, 0 < q l.f ↔ 0 < q l.t) → (∀ a, knB (p.1 a) = true → q a = 0) → ∀ a, knB ((L.foldl stepR p).1 a) = true → q a = 0
  | [], _, _, h => h
  | l :: L, p, hL, h => by
    rw [List.foldl_cons]
    exact fold_free (fun l' hl' => hL l' (List.mem_cons_of_mem _ hl')) (step_free (hL l (by simp)) h)
theorem rounds_free {q : Nat → Nat} {L : List LN} (hL : ∀ l ∈ L, 0 < q l.f ↔ 0 < q l.t) : ∀ (m : Nat) {R : Rat6}, (∀ a, knB (R a) = true → q a = 0) → ∀ a, knB (roundsR L m R a) = true → q a = 0
  | 0, _, h => h
  | m + 1, _, h => rounds_free hL m (fold_free hL h)
theorem start_free {q : Nat → Nat} {i : Nat} (h : q i = 0) : ∀ a, knB (startR i a) = true → q a = 0 := by
  intro a ha
  unfold startR at ha
  split at ha
  · rename_i e; subst e; exact h
  · cases ha

/-- What is counted stays. -/
theorem refStep_keep {L : List LN} {N i : Nat} {q : Nat → Nat} (hq : RefOk L N i q) {a : Nat} (ha : 0 < q a) : refStep L N i q a = q a := by
  unfold refStep
  split
  · rfl
  · rename_i h
    have hf := rounds_free hq.cl N (start_free (q := q) (i := i) (by omega)) a
    unfold addR
    rw [if_neg (fun hk => by have := hf hk; omega)]

theorem refStep_ok {N : Nat} {L : List LN} {q : Nat → Nat} {i : Nat} (hN : N ≤ 6) (hL : ∀ l ∈ L, OkL N l) (hi : i < N) (hq : RefOk L N i q) : RefOk L N (i + 1) (refStep L N i q) := by
  unfold refStep
  split
  · rename_i hp
    refine ⟨fun j hj => ?_, hq.out, hq.cl, hq.le⟩
    by_cases e : j = i
    · subst e; exact hp
    · exact hq.pos j (by omega)
  · rw [rounds_start hN hi hL]
    obtain ⟨s1, s2⟩ := start_good hN hi
    obtain ⟨h1, h2, h3⟩ := rates_good hN hL 6 s1 (by omega)
    have hki : knB (startR i i) = true := by unfold startR; rw [if_pos rfl]; rfl
    have hi1 := h3 i hki
    generalize ratesF L 6 (startR i) = R at h1 h2 h3 hi1
    obtain ⟨c1, c2, c3⟩ := comm_good h1 N
    have hin : ∀ j, knB (R j) = true → j < N := fun j hj => by
      rcases Nat.lt_or_ge j N with h | h
      · exact h
      · rw [h1.out j h] at hj; cases hj
    have hpos : ∀ j, knB (R j) = true → 0 < (R j).1 * (commF R N / (R j).2) := fun j hj =>
      Nat.mul_pos (h1.val j hj).n0 (Nat.div_pos (Nat.le_of_dvd c1 (c3 j (hin j hj) hj)) (h1.val j hj).d0)
    refine ⟨fun j hj => ?_, fun j hj => ?_, fun l hl => ?_, fun j => ?_⟩
    · unfold addR
      split
      · exact hpos j ‹_›
      · rename_i hk
        refine hq.pos j ?_
        rcases Nat.lt_or_ge j i with h | h
        · exact h
        · have : j = i := by omega
          subst this
          rw [hi1] at hk; exact absurd hki hk
    · unfold addR
      rw [h1.out j hj]
      exact hq.out j hj
    · have hkk := h2 l hl
      unfold addR
      by_cases hk : knB (R l.f) = true
      · rw [if_pos hk, if_pos (hkk ▸ hk)]
        exact ⟨fun _ => hpos _ (hkk ▸ hk), fun _ => hpos _ hk⟩
      · rw [if_neg hk, if_neg (hkk ▸ hk)]
        exact hq.cl l hl
    · unfold addR
      split
      · exact (addR_le h1 j ‹_›).2.2
      · exact hq.le j
theorem refFold_ok {N : Nat} {L : List LN} (hN : N ≤ 6) (hL : ∀ l ∈ L, OkL N l) : ∀ i, i ≤ N → RefOk L N i (refFold L N i)
  | 0, _ => ⟨fun j hj => by omega, fun _ _ => rfl, fun l _ => Iff.rfl, fun _ => by simp [refFold]⟩
  | i + 1, hi => refStep_ok hN hL (by omega) (refFold_ok hN hL i (by omega))
theorem refFold_keep {N : Nat} {L : List LN} (hN : N ≤ 6) (hL : ∀ l ∈ L, OkL N l) {i a : Nat} (ha : 0 < refFold L N i a) : ∀ m, i + m ≤ N → refFold L N (i + m) a = refFold L N i a
  | 0, _ => rfl
  | m + 1, hm => by
    have ih := refFold_keep hN hL ha m (by omega)
    show refStep L N (i + m) (refFold L N (i + m)) a = _
    rw [refStep_keep (refFold_ok hN hL (i + m) (by omega)) (by rw [ih]; exact ha), ih]

/-- Where the numbers are in balance, so are the fractions. -/
theorem timesF_of {x y : Fra} {g k a b : Nat} (hx : 0 < x.2) (hk0 : 0 < k) (hy1 : 0 < y.1) (hy : 0 < y.2) (hco : Nat.gcd y.1 y.2 = 1) (ha : 0 < a) (hab : x.2 * a = y.2 * b) (h : g * (x.1 * a) = k * (y.1 * b)) : timesF x g k = y := by
  have h1 : x.1 * g * y.2 = x.2 * k * y.1 := by
    refine Nat.eq_of_mul_eq_mul_right (Nat.mul_pos hx ha) ?_
    calc x.1 * g * y.2 * (x.2 * a) = (g * (x.1 * a)) * (y.2 * x.2) := by simp only [Nat.mul_assoc, Nat.mul_comm, Nat.mul_left_comm]
      _ = (k * (y.1 * b)) * (y.2 * x.2) := by rw [h]
      _ = x.2 * k * y.1 * (y.2 * b) := by simp only [Nat.mul_assoc, Nat.mul_comm, Nat.mul_left_comm]
      _ = x.2 * k * y.1 * (x.2 * a) := by rw [hab]
  have hc : Nat.Coprime y.1 y.2 := hco
  obtain ⟨m, hm⟩ : y.1 ∣ x.1 * g := hc.dvd_of_dvd_mul_right ⟨x.2 * k, by rw [h1, Nat.mul_comm]⟩
  have hm2 : x.2 * k = y.2 * m := by
    refine Nat.eq_of_mul_eq_mul_right hy1 ?_
    rw [← h1, hm]
    simp only [Nat.mul_assoc, Nat.mul_comm, Nat.mul_left_comm]
  unfold timesF
  rw [hm, hm2, Nat.gcd_mul_right, hco, Nat.one_mul]
  obtain ⟨y1, y2⟩ := y
  rcases Nat.eq_zero_or_pos m with e | e
  · subst e
    have := Nat.mul_pos hx hk0
    omega
  · simp only at *
    rw [Nat.mul_div_cancel _ e, Nat.mul_div_cancel _ e]

theorem refFold_eq {N : Nat} {L : List LN} (hN : N ≤ 6) (hL : ∀ l ∈ L, OkL N l) : ∀ (i : Nat), i ≤ N → ∀ q, repFold L N i = some q → refFold L N i = q
  | 0, _, q, h => by simp only [repFold, Option.some.injEq] at h; exact h
  | i + 1, hi, q, h => by
    simp only [repFold] at h
    cases h0 : repFold L N i with
    | none => rw [h0] at h; cases h
    | some q0 =>
      rw [h0] at h
      simp only [Option.bind_some] at h
      have ih := refFold_eq hN hL i (by omega) q0 h0
      show refStep L N i (refFold L N i) = q
      rw [ih]
      unfold repStep at h
      unfold refStep
      split at h
      · rename_i hp
        rw [if_pos hp]; exact Option.some.inj h
      · rename_i hp
        rw [if_neg hp, rounds_start hN (by omega) hL]
        split at h
        · exact Option.some.inj h
        · cases h
theorem balQ_none {N : Nat} {L : List LN} (hN : N ≤ 6) (hL : ∀ l ∈ L, OkL N l) : ∀ (i : Nat), i ≤ N → repFold L N i = none → balQ L (refFold L N N) = false
  | 0, _, h => by simp [repFold] at h
  | i + 1, hi, h => by
    simp only [repFold] at h
    cases h0 : repFold L N i with
    | none => exact balQ_none hN hL i (by omega) h0
    | some q =>
      rw [h0] at h
      simp only [Option.bind_some] at h
      have hq := refFold_eq hN hL i (by omega) q h0
      unfold repStep at h
      split at h
      · cases h
      · rename_i hp
        split at h
        · cases h
        · rename_i hb
          have hS : refFold L N (i + 1) = addR (ratesF L 6 (startR i)) (commF (ratesF L 6 (startR i)) N) q := by
            show refStep L N i (refFold L N i) = _
            rw [hq]; unfold refStep; rw [if_neg hp, rounds_start hN (by omega) hL]
          have hok := refFold_ok hN hL (i + 1) hi
          have hkeep := fun (a : Nat) (ha : 0 < refFold L N (i + 1) a) => refFold_keep hN hL ha (N - (i + 1)) (by omega)
          rw [show i + 1 + (N - (i + 1)) = N by omega] at hkeep
          obtain ⟨s1, s2⟩ := start_good hN (show i < N by omega)
          obtain ⟨h1, h2, h3⟩ := rates_good hN hL 6 s1 (by omega)
          generalize ratesF L 6 (startR i) = R at hb hS h1 h2 h3
          obtain ⟨c1, c2, c3⟩ := comm_good h1 N
          have hin : ∀ j, knB (R j) = true → j < N := fun j hj => by
            rcases Nat.lt_or_ge j N with h | h
            · exact h
            · rw [h1.out j h] at hj; cases hj
          have hb : balB L R = false := by simpa using hb
          obtain ⟨l, hl, hbl⟩ := List.all_eq_false.1 hb
          have hkf : knB (R l.f) = true ∧ timesF (R l.f) l.g l.k ≠ R l.t := by simpa using hbl
          obtain ⟨hk, hne⟩ := hkf
          have hkt : knB (R l.t) = true := (h2 l hl) ▸ hk
          obtain ⟨a, ha⟩ := c3 _ (hin _ hk) hk
          obtain ⟨b, hb'⟩ := c3 _ (hin _ hkt) hkt
          have ea : commF R N / (R l.f).2 = a := by rw [ha]; exact Nat.mul_div_cancel_left _ (h1.val _ hk).d0
          have eb : commF R N / (R l.t).2 = b := by rw [hb']; exact Nat.mul_div_cancel_left _ (h1.val _ hkt).d0
          have hap : 0 < a := by
            rcases Nat.eq_zero_or_pos a with e | e
            · subst e; omega
            · exact e
          have hbp : 0 < b := by
            rcases Nat.eq_zero_or_pos b with e | e
            · subst e; omega
            · exact e
          have vf : refFold L N (i + 1) l.f = (R l.f).1 * a := by rw [hS]; unfold addR; rw [if_pos hk, ea]
          have vt : refFold L N (i + 1) l.t = (R l.t).1 * b := by rw [hS]; unfold addR; rw [if_pos hkt, eb]
          have kf := hkeep l.f (by rw [vf]; exact Nat.mul_pos (h1.val _ hk).n0 hap)
          have kt := hkeep l.t (by rw [vt]; exact Nat.mul_pos (h1.val _ hkt).n0 hbp)
          refine List.all_eq_false.2 ⟨l, hl, ?_⟩
          simp only [decide_eq_true_eq]
          intro hbal
          rw [kf, kt, vf, vt] at hbal
          exact hne (timesF_of (h1.val _ hk).d0 (hL l hl).k1 (h1.val _ hkt).n0 (h1.val _ hkt).d0 (h1.val _ hkt).co hap (by rw [← ha, ← hb']) hbal)
theorem balQ_some {N : Nat} {L : List LN} (hN : N ≤ 6) (hL : ∀ l ∈ L, OkL N l) {q : Nat → Nat} (h : repFold L N N = some q) : refFold L N N = q ∧ balQ L (refFold L N N) = true := by
  have e := refFold_eq hN hL N (Nat.le_refl _) q h
  refine ⟨e, ?_⟩
  rw [e]
  exact List.all_eq_true.2 fun l hl => by simpa using (repFold_ok hN hL N (Nat.le_refl _) q h).bal l hl
end Go.Fl
