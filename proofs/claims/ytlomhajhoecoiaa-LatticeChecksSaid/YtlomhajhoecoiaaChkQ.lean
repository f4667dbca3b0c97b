/-
  LatticeChecks: both sides say the same.
-/
import Derived.Test.YtlomhajhoecoiaaChkP
namespace Go.Proofs.Ytlomhajhoecoiaa
open Go.Vm Go.Big Go.Det

theorem sumZ_mul (c : Int) (f : Nat → Int) : ∀ n, sumZ (fun k => c * f k) n = c * sumZ f n
  | 0 => by simp [sumZ]
  | n + 1 => by simp only [sumZ]; rw [sumZ_mul c f n, Int.mul_add]
theorem sumZ_mulr (c : Int) (f : Nat → Int) : ∀ n, sumZ (fun k => f k * c) n = sumZ f n * c
  | 0 => by simp [sumZ]
  | n + 1 => by simp only [sumZ]; rw [sumZ_mulr c f n, Int.add_mul]
theorem sumZ_add (f g : Nat → Int) : ∀ n, sumZ (fun k => f k + g k) n = sumZ f n + sumZ g n
  | 0 => by simp [sumZ]
  | n + 1 => by simp only [sumZ]; rw [sumZ_add f g n]; omega
theorem sumZ_zero : ∀ n, sumZ (fun _ => 0) n = 0
  | 0 => rfl
  | n + 1 => by simp only [sumZ]; rw [sumZ_zero n]; rfl
theorem sumZ_swap (F : Nat → Nat → Int) (n : Nat) : ∀ m, sumZ (fun p => sumZ (fun q => F p q) n) m = sumZ (fun q => sumZ (fun p => F p q) m) n
  | 0 => by simp only [sumZ]; rw [sumZ_zero]
  | m + 1 => by simp only [sumZ]; rw [sumZ_swap F n m, sumZ_add]
theorem sumZ_delta (f : Nat → Int) (j : Nat) : ∀ n, sumZ (fun q => f q * unitF q j) n = if j < n then f j else 0
  | 0 => by simp [sumZ]
  | n + 1 => by
    simp only [sumZ]
    rw [sumZ_delta f j n]
    unfold unitF
    by_cases h : j < n
    · rw [if_pos h, if_neg (by omega), if_pos (by omega)]; omega
    · by_cases e : n = j
      · subst e; rw [if_neg h, if_pos rfl, if_pos (by omega)]; omega
      · rw [if_neg h, if_neg e, if_neg (by omega)]; omega
theorem dotZ_sum (f g : Nat → Int) : ∀ n, dotZ f g n = sumZ (fun k => f k * g k) n
  | 0 => rfl
  | n + 1 => by simp only [dotZ, sumZ]; rw [dotZ_sum f g n]
theorem at0_eq (l : List Int) (k : Nat) : at0 l k = l.getD k 0 := rfl
theorem prod_sum {u a : List (List Int)} {n i j : Nat} (bu : Ent (2 ^ 40) u) (ba : Ent 20 a) (ha : a.length ≤ 5) : prodF u a n i j = sumZ (fun p => (u.getD i []).getD p 0 * (a.getD p []).getD j 0) a.length := by
  rw [prodF, dotF_exact (f := at0 (u.getD i [])) (g := at0 (col a j)) _ ha (fun k _ => bu.get i k) (fun k _ => by rw [at0_col]; exact ba.get k j), dotZ_sum]
  exact sumZ_congr _ fun k _ => by rw [at0_col]; rfl
theorem tot_unit {u a : List (List Int)} {n i j : Nat} (hj : j < n) (m : Nat) : totQ u a (genM n n unitF) n i j m = sumZ (fun p => (u.getD i []).getD p 0 * (a.getD p []).getD j 0) m := by
  unfold totQ
  refine sumZ_congr _ fun p _ => ?_
  have e : sumZ (termQ u a (genM n n unitF) i j p) n = sumZ (fun q => ((u.getD i []).getD p 0 * (a.getD p []).getD q 0) * unitF q j) n := sumZ_congr _ fun q hq => by
    unfold termQ
    rw [genM_get hq hj, Int.mul_assoc]
  rw [e, sumZ_delta, if_pos hj]
theorem tot_swap {u a v : List (List Int)} {n i j : Nat} (m : Nat) : totQ u a v n i j m = sumZ (fun q => sumZ (fun p => (u.getD i []).getD p 0 * (a.getD p []).getD q 0) m * (v.getD q []).getD j 0) n := by
  unfold totQ
  rw [sumZ_swap]
  refine sumZ_congr _ fun q _ => ?_
  rw [← sumZ_mulr]
  exact sumZ_congr _ fun p _ => by unfold termQ; rw [Int.mul_assoc]
theorem wide_fits {m : List (List Int)} {r n : Nat} (hr : 0 < r) (hn : 0 < n) : wideB m r n = fitsB m r n 1099511627776 := by
  unfold wideB fitsB
  rw [decide_eq_true (show (0 : Int) < (r : Int) by omega), decide_eq_true (show (0 : Int) < (n : Int) by omega), Bool.and_true, Bool.and_true, Bool.and_comm]
theorem uni_same {u : List (List Int)} {n : Nat} (hn : n ≤ 5) (h1 : u.length = n) (h2 : ∀ r ∈ u, r.length = n) : uniP u n = (decide (detR u n (List.range n) = 1) || decide (detR u n (List.range n) = -1)) := by
  unfold uniP
  rw [det_same hn h1 h2]
theorem gen_eq {h : List (List Int)} {R N : Nat} {f : Nat → Nat → Int} (h1 : h.length = R) (h2 : ∀ r ∈ h, r.length = N) : genM R N f = h ↔ ∀ i, i < R → ∀ j, j < N → f i j = (h.getD i []).getD j 0 := by
  constructor
  · intro e i hi j hj
    rw [← e, genM_get hi hj]
  · intro e
    refine List.ext_getElem (by rw [genM_len, h1]) fun i hi1 hi2 => ?_
    rw [genM_len] at hi1
    have hl := h2 h[i] (List.getElem_mem hi2)
    refine List.ext_getElem (by simp [genM, hl]) fun j hj1 hj2 => ?_
    have := e i hi1 j (by omega)
    rw [show h.getD i [] = h[i] by simp [hi2], show h[i].getD j 0 = h[i][j] by simp [hj2]] at this
    rw [← this]
    simp [genM]
theorem herm_link {a h u : List (List Int)} (hv : validB a = true) : hermAll a h u = hermRef a h u := by
  obtain ⟨v1, v2, v3, v4, v5, v6⟩ := valid_facts hv
  unfold hermAll hermRef uniB
  rw [wide_fits (by omega) (by omega), wide_fits (by omega) (by omega)]
  cases hF : fitsB h a.length (hd0 a).length 1099511627776 with
  | false => simp only [Bool.false_and]
  | true =>
    cases hU : fitsB u a.length a.length 1099511627776 with
    | false => simp only [Bool.false_and, Bool.and_false]
    | true =>
      obtain ⟨w1, w2, w3⟩ := fits_facts hF
      obtain ⟨u1, u2, u3⟩ := fits_facts hU
      have e3 : decide (genM u.length (hd0 a).length (prodF u a (hd0 a).length) = h) = refP u a (genM (hd0 a).length (hd0 a).length unitF) h (hd0 a).length (hd0 a).length := by
        unfold refP
        refine decide_eq_decide.2 ((gen_eq (by omega) w2).trans ?_)
        refine forall_congr' fun i => forall_congr' fun hi => forall_congr' fun j => forall_congr' fun hj => ?_
        rw [prod_sum u3 v6 (by omega), tot_unit hj]
      rw [herm_same w2, uni_same (by omega) u1 u2, e3]
      simp only [Bool.true_and]
      rw [Bool.and_comm (formB _ _)]
theorem smith_link {a u v : List (List Int)} {s : List Int} (hv : validB a = true) : smithAll a s u v = smithRef a s u v := by
  obtain ⟨v1, v2, v3, v4, v5, v6⟩ := valid_facts hv
  unfold smithAll smithRef uniB
  rw [wide_fits (by omega) (by omega), wide_fits (by omega) (by omega)]
  have eD : decide (s.length = min a.length (hd0 a).length) = decide ((s.length : Int) = ((min a.length (hd0 a).length : Nat) : Int)) := decide_eq_decide.2 (by omega)
  rw [eD]
  cases hU : fitsB u a.length a.length 1099511627776 with
  | false => simp only [Bool.false_and, Bool.and_false]
  | true =>
    cases hV : fitsB v (hd0 a).length (hd0 a).length 1099511627776 with
    | false => simp only [Bool.false_and, Bool.and_false]
    | true =>
      obtain ⟨w1, w2, w3⟩ := fits_facts hV
      obtain ⟨u1, u2, u3⟩ := fits_facts hU
      have e3 : diagB (genM u.length (hd0 a).length (prodF u a (hd0 a).length)) v s (hd0 a).length = refP u a v (genM a.length (hd0 a).length (wantF s)) (hd0 a).length (hd0 a).length := by
        unfold diagB refP
        rw [genM_len]
        refine decide_eq_decide.2 ?_
        refine forall_congr' fun i => forall_congr' fun hi => forall_congr' fun j => forall_congr' fun hj => ?_
        rw [genM_get (by omega) hj, tot_swap, dotZ_sum, w1]
        have e : sumZ (fun k => at0' ((genM u.length (hd0 a).length (prodF u a (hd0 a).length)).getD i []) k * at0' (col v j) k) (hd0 a).length = sumZ (fun q => sumZ (fun p => (u.getD i []).getD p 0 * (a.getD p []).getD q 0) a.length * (v.getD q []).getD j 0) (hd0 a).length := sumZ_congr _ fun q hq => by
          have e1 : at0' ((genM u.length (hd0 a).length (prodF u a (hd0 a).length)).getD i []) q = prodF u a (hd0 a).length i q := genM_get hi hq
          have e2 : at0' (col v j) q = (v.getD q []).getD j 0 := at0_col v j q
          rw [e1, e2, prod_sum u3 v6 (by omega)]
        rw [e]
      rw [uni_same (by omega) u1 u2, uni_same (by omega) w1 w2, e3]
      simp only [Bool.true_and, Bool.and_true]
      generalize decide ((s.length : Int) = ((min a.length (hd0 a).length : Nat) : Int)) = D
      cases D <;> simp
theorem checkH_same (a h u : List (List Int)) : checkH a h u = checkHr a h u := by
  unfold checkH checkHr
  cases hv : validB a with
  | false => rfl
  | true => rw [herm_link hv]
theorem checkS_same (a u v : List (List Int)) (s : List Int) : checkS a s u v = checkSr a s u v := by
  unfold checkS checkSr
  cases hv : validB a with
  | false => rfl
  | true => rw [smith_link hv]
end Go.Proofs.Ytlomhajhoecoiaa
