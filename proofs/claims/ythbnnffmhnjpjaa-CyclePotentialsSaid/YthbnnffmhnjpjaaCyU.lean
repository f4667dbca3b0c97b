import Derived.Test.YthbnnffmhnjpjaaCyR
/-
  Times: the cyclicity, and when the powers repeat; the law CycleRepeats.
-/
namespace Go.Proofs.Ythbnnffmhnjpjaa
open Go.Vm Go.Cy
theorem plainTry_72 : plainFn Try.prog 72 = true := by kernel_rfl
theorem plainTry_74 : plainFn Try.prog 74 = true := by kernel_rfl
theorem plainTry_39 : plainFn Try.prog 39 = true := by kernel_rfl
theorem plainTry_41 : plainFn Try.prog 41 = true := by kernel_rfl
theorem plainTry_12 : plainFn Try.prog 12 = true := by kernel_rfl

abbrev lenX (n : Nat) (g : Nat → Nat → Int) (k q : Nat) : XV := .d (DI (lenI n g k q : Nat))
theorem lenX_zero (n : Nat) (g : Nat → Nat → Int) : List.replicate n (XV.d (.lit (.int .i64 0))) = (List.range n).map (lenX n g 0) := by
  rw [show lenX n g 0 = fun _ => XV.d (DI 0) from rfl, List.map_const', List.length_range]
theorem mixL_at {n : Nat} {f old : Nat → XV} {k : Nat} (hk : k < n) : (mixL n f old k)[0 + k]? = some (old k) := by simp [mixL, hk]
theorem mixL_skip {n : Nat} {f old : Nat → XV} {k : Nat} (hk : k < n) (h : f k = old k) : mixL n f old (k + 1) = mixL n f old k := by
  rw [← mixL_set hk, h]
  refine List.ext_getElem (by simp [mixL]) fun i h1 h2 => ?_
  rw [List.getElem_set]
  split
  · rename_i e; subst e; simp [mixL]
  · rfl
structure PGd (n : Nat) (g : Nat → Nat → Int) : Prop where
  n1 : 1 ≤ n
  n6 : n ≤ 6
  gd : GoodM 12000 g
theorem PGd.pow {n : Nat} {g : Nat → Nat → Int} (h : PGd n g) {k : Nat} (hk : k ≤ 1000) : GoodM 1000000000000 (pwI n g k) := fun i j => (pw_good h.gd (by omega) k i j).mono (by omega)
theorem PGd.com {n : Nat} {g : Nat → Nat → Int} (h : PGd n g) {i : Nat} (hi : i ≤ n) : comI (lenI n g (3 * n)) i ≤ 34012224 :=
  Nat.le_trans (comI_le (B := 18) (fun q => Nat.le_trans (lenI_le n g q (3 * n)) (by have := h.n6; omega)) (by omega) i) (Nat.le_trans (Nat.pow_le_pow_right (by omega) (show i ≤ 6 by have := h.n6; omega)) (by decide))
theorem cyc_step {l : Nat → Nat} {i : Nat} (h : 0 < l i) : comI l (i + 1) = comI l i * (l i / Nat.gcd (comI l i) (l i)) := if_pos h
theorem cyc_skip {l : Nat → Nat} {i : Nat} (h : ¬ 0 < l i) : comI l (i + 1) = comI l i := if_neg h
theorem divN {a b : Nat} (hb : 0 < b) (ha : a ≤ 9223372036854775807) : IntKind.i64.wrap (Int.tdiv (a : Int) (b : Int)) = ((a / b : Nat) : Int) := by
  rw [Int.tdiv_eq_ediv_of_nonneg (by omega)]
  have h1 : ((a : Int) / (b : Int)) = ((a / b : Nat) : Int) := rfl
  rw [h1]
  have h2 := Nat.div_le_self a b
  generalize a / b = c at h2 ⊢
  exact wrap_id (by omega)
set_option maxRecDepth 10000 in
theorem cyclicity72 {d : DV} {n : Nat} {g : Nat → Nat → Int} (hd : Mat d (genM n n g)) (B : PGd n g) : DeepCall Try.prog 72 [d] (DI (cycI n g : Nat)) := by
  have n1 := B.n1
  have n6 := B.n6
  refine deepCall_K 5 Try.func72 rfl (Nat.le_of_ble_eq_true rfl) fun M W0 => ?_
  refine KC.seq ?_
  refine KC.region ?_
  refine KT.step rfl rfl (K.assign rfl) ?_
  refine KT.nil ?_
  refine thenK_n ?_
  refine KC.seq ?_
  refine KC.region ?_
  refine KT.step rfl rfl (K.move rfl) ?_
  refine KT.step rfl rfl (K.len rfl hd Try.underlying22) ?_
  rw [genM_len]
  refine KT.step rfl rfl (K.assign rfl) ?_
  refine KT.nil ?_
  refine thenK_n ?_
  refine KC.seq ?_
  refine KC.region ?_
  refine KT.step rfl rfl (K.move rfl) ?_
  refine KT.step rfl rfl (K.make rfl rfl (Nat.le_refl _) (by omega) Try.underlying33 Try.one3) ?_
  rw [lenX_zero n g]
  refine KT.step rfl rfl (K.assign rfl) ?_
  refine KT.nil ?_
  refine thenK_n ?_
  refine KC.seq ?_
  refine KC.region ?_
  refine KT.step rfl rfl (K.move rfl) ?_
  refine KT.step rfl rfl (K.call (ds := [DI (n : Nat), .fn (.func 88) [] []]) rfl plainTry_85 (build85 (f := pwI n g 0) (by omega) plainTry_88 fun i j hi hj => one88 hi)) ?_
  refine KT.step rfl rfl (K.assign rfl) ?_
  refine KT.nil ?_
  refine thenK_n ?_
  refine KC.seq ?_
  refine KC.seq ?_
  refine KC.region ?_
  refine KT.step rfl rfl (K.assign rfl) ?_
  refine KT.nil ?_
  refine thenK_n ?_
  refine KC.block ?_
  refine KC.loop (fun k : Nat => [⟨(List.range n).map (lenX n g k), 0⟩]) (fun k => [(0, .d d), (3, .d (DI (n : Nat))), (4, .osl 0 0 n 1 n true), (5, .d (genD n n (pwI n g k))), (6, .d (DI ((k + 1 : Nat) : Int)))]) (fun k => k ≤ 3 * n) (fun k => 3 * n - k) 0 (Nat.zero_le _) rfl (by simp [Go.Vm.look, extK, enterK]) ?_
  intro k hk
  refine KC.seq ?_
  refine KC.seq ?_
  refine KC.region ?_
  refine KT.step rfl rfl (K.move rfl) ?_
  refine KT.step rfl rfl (K.move rfl) ?_
  refine KT.step rfl rfl (K.mul rfl rfl (show IntKind.i64.wrap (3 * (n : Int)) = ((3 * n : Nat) : Int) from (wrap_id (by omega)).trans (by omega))) ?_
  refine KT.step rfl rfl (K.leq rfl rfl) ?_
  refine KT.nil ?_
  refine thenK_n ?_
  refine KC.cond rfl (fun hc20 => ?_) (fun hc20 => ?_)
  · skip
    replace hc20 := of_decide_eq_true hc20
    refine KC.skip ?_
    refine thenK_n ?_
    refine KC.seq ?_
    refine KC.block ?_
    refine KC.seq ?_
    refine KC.region ?_
    refine KT.step rfl rfl (K.move rfl) ?_
    refine KT.step rfl rfl (K.move rfl) ?_
    refine KT.step rfl rfl (K.call2 rfl rfl plainTry_48 (product48 genD_mat hd n1 (by omega) (B.pow (k := k) (by omega)) (fun i j => (B.gd i j).mono (by omega)))) ?_
    refine KT.step rfl rfl (K.assign rfl) ?_
    refine KT.nil ?_
    refine thenK_n ?_
    refine KC.seq ?_
    refine KC.region ?_
    refine KT.step rfl rfl (K.move rfl) ?_
    refine KT.step rfl rfl (K.move rfl) ?_
    refine KT.nil ?_
    refine thenK_n ?_
    refine KC.block ?_
    refine KC.loop (fun i : Nat => [⟨mixL n (lenX n g (k + 1)) (lenX n g k) i, 0⟩]) (fun i => [(0, .d d), (3, .d (DI (n : Nat))), (4, .osl 0 0 n 1 n true), (5, .d (genD n n (pwI n g (k + 1)))), (6, .d (DI ((k + 1 : Nat) : Int))), (26, .d (DI (n : Nat))), (27, .d (DI (i : Nat)))]) (fun i => i ≤ n) (fun i => n - i) 0 (Nat.zero_le _) (by rw [mixL_zero]) (by simp [Go.Vm.look, extK, pwI]) ?_
    intro i hi
    refine KC.seq ?_
    refine KC.region ?_
    refine KT.step rfl rfl (K.lss rfl rfl) ?_
    refine KT.nil ?_
    refine thenK_n ?_
    refine KC.seq ?_
    refine KC.cond rfl (fun hc28 => ?_) (fun hc28 => ?_)
    · skip
      replace hc28 := of_decide_eq_true hc28
      refine KC.skip ?_
      refine thenK_n ?_
      refine KC.seq ?_
      refine KC.block ?_
      refine KC.seq ?_
      refine KC.region ?_
      refine KT.step rfl rfl (K.move rfl) ?_
      refine KT.step rfl rfl (K.assign rfl) ?_
      refine KT.nil ?_
      refine thenK_n ?_
      refine KC.seq ?_
      refine KC.region ?_
      refine KT.step rfl rfl (K.move rfl) ?_
      refine KT.step rfl rfl (K.move rfl) ?_
      refine KT.idx rfl rfl rfl (genD_mat (R := n) (f := pwI n g (k + 1))) rfl (by rw [genM_len]; omega) Try.underlying22 Try.size33 fun c32 cs32 hq32 => ?_
      rw [genM_row] at hq32
      refine KT.step rfl rfl (K.load rfl Try.agg33) ?_
      refine KT.step rfl rfl (K.move rfl) ?_
      refine KT.idxI rfl rfl rfl (by assumption) rfl (by simp; omega) Try.underlying33 Try.size3 fun cs35 => ?_
      rw [get_range]
      refine KT.step rfl rfl (K.load rfl Try.agg3) ?_
      refine KT.step rfl rfl (K.eql rfl rfl) ?_
      refine KT.nil ?_
      refine thenK_n ?_
      refine KC.cond rfl (fun hc37 => ?_) (fun hc37 => ?_)
      · skip
        replace hc37 := of_decide_eq_true hc37
        refine KC.region ?_
        refine KT.step rfl rfl (K.move rfl) ?_
        refine KT.step rfl rfl (K.move rfl) ?_
        refine KT.step rfl rfl (K.move rfl) ?_
        refine KT.step rfl rfl (K.move rfl) ?_
        refine KT.step rfl rfl (K.idxO rfl rfl (by omega) Try.underlying33 Try.size3) ?_
        refine KT.step rfl rfl (K.loadO rfl rfl (by simp) (mixL_at (by omega)) Try.agg3) ?_
        refine KT.step rfl rfl (K.move rfl) ?_
        refine KT.step rfl rfl (K.call2 rfl rfl plainTry_97 (divisor97 (lenI n g k i) (k + 1))) ?_
        refine KT.step rfl rfl (K.idxO rfl rfl (by omega) Try.underlying33 Try.size3) ?_
        refine KT.step rfl rfl (K.storeO rfl rfl rfl (by rw [mixL_len]; omega) rfl rfl Try.size3) ?_
        refine KT.nil ?_
        refine blockK_n ?_
        refine thenK_n ?_
        refine KC.region ?_
        refine KT.step rfl rfl (K.add rfl rfl (wrap_id (by omega))) ?_
        refine KT.step rfl rfl (K.move rfl) ?_
        refine KT.nil ?_
        refine thenK_n ?_
        have hl : lenX n g (k + 1) i = .d (DI (Nat.gcd (lenI n g k i) (k + 1) : Nat)) := by unfold lenX; rw [show lenI n g (k + 1) i = Nat.gcd (lenI n g k i) (k + 1) from if_pos hc37]
        refine ⟨i + 1, by omega, by omega, ?_, by simp [Go.Vm.look, extK]⟩
        rw [← mixL_set (show i < n by omega), hl]; rfl
      · skip
        replace hc37 := of_decide_eq_false hc37
        refine KC.skip ?_
        refine blockK_n ?_
        refine thenK_n ?_
        refine KC.region ?_
        refine KT.step rfl rfl (K.add rfl rfl (wrap_id (by omega))) ?_
        refine KT.step rfl rfl (K.move rfl) ?_
        refine KT.nil ?_
        refine thenK_n ?_
        have hl : lenX n g (k + 1) i = lenX n g k i := by unfold lenX; rw [show lenI n g (k + 1) i = lenI n g k i from if_neg hc37]
        refine ⟨i + 1, by omega, by omega, ?_, by simp [Go.Vm.look, extK]⟩
        rw [mixL_skip (show i < n by omega) hl]
    · skip
      replace hc28 := of_decide_eq_false hc28
      refine KC.exit ?_
      refine thenK_x ?_
      refine thenK_x ?_
      refine blockK_e ?_
      refine blockK_n ?_
      refine thenK_n ?_
      refine KC.region ?_
      refine KT.step rfl rfl (K.move rfl) ?_
      refine KT.step rfl rfl (K.add rfl rfl (show IntKind.i64.wrap (((k + 1 : Nat) : Int) + 1) = ((k + 1 + 1 : Nat) : Int) from (wrap_id (by omega)).trans (by omega))) ?_
      refine KT.step rfl rfl (K.assign rfl) ?_
      refine KT.nil ?_
      refine thenK_n ?_
      obtain rfl : i = n := by omega
      refine ⟨k + 1, by omega, by omega, by rw [mixL_full], by simp [Go.Vm.look, extK, pwI]⟩
  · skip
    replace hc20 := of_decide_eq_false hc20
    refine KC.exit ?_
    refine thenK_x ?_
    refine thenK_x ?_
    refine blockK_e ?_
    refine thenK_n ?_
    refine KC.seq ?_
    refine KC.region ?_
    refine KT.step rfl rfl (K.assign rfl) ?_
    refine KT.nil ?_
    refine thenK_n ?_
    refine KC.seq ?_
    refine KC.seq ?_
    refine KC.region ?_
    refine KT.step rfl rfl (K.move rfl) ?_
    refine KT.step rfl rfl (K.lenO rfl Try.underlying33) ?_
    refine KT.step rfl rfl (K.move rfl) ?_
    refine KT.nil ?_
    refine thenK_n ?_
    refine KC.block ?_
    have hk3 : k = 3 * n := by omega
    refine KC.loop (fun _ : Nat => [⟨(List.range n).map (lenX n g (3 * n)), 0⟩]) (fun i => [(8, .d (DI (comI (lenI n g (3 * n)) i : Nat))), (48, .osl 0 0 n 1 n true), (49, .d (DI (n : Nat))), (50, .d (DI (i : Nat)))]) (fun i => i ≤ n) (fun i => n - i) 0 (Nat.zero_le _) (by rw [hk3]) (by simp [Go.Vm.look, extK, enterK, comI]) ?_
    intro i hi
    refine KC.seq ?_
    refine KC.region ?_
    refine KT.step rfl rfl (K.lss rfl rfl) ?_
    refine KT.nil ?_
    refine thenK_n ?_
    refine KC.seq ?_
    refine KC.cond rfl (fun hc51 => ?_) (fun hc51 => ?_)
    · skip
      replace hc51 := of_decide_eq_true hc51
      refine KC.skip ?_
      refine thenK_n ?_
      refine KC.seq ?_
      refine KC.block ?_
      refine KC.seq ?_
      refine KC.region ?_
      refine KT.step rfl rfl (K.idxO rfl rfl (by omega) Try.underlying33 Try.size3) ?_
      refine KT.step rfl rfl (K.loadO rfl rfl (by simp) (show ((List.range n).map (lenX n g (3 * n)))[0 + i]? = some (lenX n g (3 * n) i) by rw [Nat.zero_add, List.getElem?_map, List.getElem?_range (by omega)]; rfl) Try.agg3) ?_
      refine KT.step rfl rfl (K.assign rfl) ?_
      refine KT.nil ?_
      refine thenK_n ?_
      refine KC.seq ?_
      refine KC.region ?_
      refine KT.step rfl rfl (K.move rfl) ?_
      refine KT.step rfl rfl (K.gtr rfl rfl) ?_
      refine KT.nil ?_
      refine thenK_n ?_
      refine KC.cond rfl (fun hc55 => ?_) (fun hc55 => ?_)
      · skip
        replace hc55 := of_decide_eq_true hc55
        refine KC.region ?_
        refine KT.step rfl rfl (K.move rfl) ?_
        refine KT.step rfl rfl (K.move rfl) ?_
        refine KT.step rfl rfl (K.move rfl) ?_
        refine KT.step rfl rfl (K.move rfl) ?_
        refine KT.step rfl rfl (K.call2 rfl rfl plainTry_97 (divisor97 (comI (lenI n g (3 * n)) i) (lenI n g (3 * n) i))) ?_
        refine KT.step rfl rfl (K.quo rfl rfl (by have := Nat.gcd_pos_of_pos_right (comI (lenI n g (3 * n)) i) (show 0 < lenI n g (3 * n) i by omega); omega) (divN (Nat.gcd_pos_of_pos_right _ (show 0 < lenI n g (3 * n) i by omega)) (by have := lenI_le n g i (3 * n); omega))) ?_
        refine KT.step rfl rfl (K.mul rfl rfl (show IntKind.i64.wrap (((comI (lenI n g (3 * n)) i : Nat) : Int) * ((lenI n g (3 * n) i / Nat.gcd (comI (lenI n g (3 * n)) i) (lenI n g (3 * n) i) : Nat) : Int)) = ((comI (lenI n g (3 * n)) (i + 1) : Nat) : Int) from by rw [cyc_step (show 0 < lenI n g (3 * n) i by omega), ← Int.natCast_mul]; refine wrap_id ?_; have := B.com (i := i + 1) (by omega); rw [cyc_step (show 0 < lenI n g (3 * n) i by omega)] at this; omega)) ?_
        refine KT.step rfl rfl (K.assign rfl) ?_
        refine KT.nil ?_
        refine blockK_n ?_
        refine thenK_n ?_
        refine KC.region ?_
        refine KT.step rfl rfl (K.add rfl rfl (wrap_id (by omega))) ?_
        refine KT.step rfl rfl (K.move rfl) ?_
        refine KT.nil ?_
        refine thenK_n ?_
        refine ⟨i + 1, by omega, by omega, rfl, by simp [Go.Vm.look, extK]⟩
      · skip
        replace hc55 := of_decide_eq_false hc55
        refine KC.skip ?_
        refine blockK_n ?_
        refine thenK_n ?_
        refine KC.region ?_
        refine KT.step rfl rfl (K.add rfl rfl (wrap_id (by omega))) ?_
        refine KT.step rfl rfl (K.move rfl) ?_
        refine KT.nil ?_
        refine thenK_n ?_
        refine ⟨i + 1, by omega, by omega, rfl, by simp [Go.Vm.look, extK, cyc_skip (show ¬ 0 < lenI n g (3 * n) i by omega)]⟩
    · skip
      replace hc51 := of_decide_eq_false hc51
      refine KC.exit ?_
      refine thenK_x ?_
      refine thenK_x ?_
      refine blockK_e ?_
      refine thenK_n ?_
      refine KC.seq ?_
      refine KC.region ?_
      refine KT.step rfl rfl (K.move rfl) ?_
      refine KT.step rfl rfl (K.assign rfl) ?_
      refine KT.nil ?_
      refine thenK_n ?_
      refine KC.ret ?_
      obtain rfl : i = n := by omega
      exact ⟨.inl rfl, _, rfl, fin_d rfl⟩

def pRow (n : Nat) (g : Nat → Nat → Int) (k : Nat) : XV := .d (genD n n (pwI n g k))
def pRows (n : Nat) (g : Nat → Nat → Int) (k : Nat) : List XV := (List.range k).map (pRow n g)
theorem pRows_succ (n : Nat) (g : Nat → Nat → Int) (k : Nat) : pRows n g (k + 1) = pRows n g k ++ [pRow n g k] := by simp [pRows, List.range_succ]
theorem pRows_len (n : Nat) (g : Nat → Nat → Int) (k : Nat) : (pRows n g k).length = k := by simp [pRows]
theorem pRows_get {n : Nat} {g : Nat → Nat → Int} {k i : Nat} (h : i < k) : (pRows n g k)[0 + i]? = some (pRow n g i) := by simp [pRows, h]
theorem bytes22 : bytesT Try.prog 22 ≤ 65536 := of_decide_eq_true (by kernel_rfl)
theorem cells22 : (zeroT Try.prog 22).map (·.cells.size) = some 1 := by kernel_rfl
def repD (n : Nat) (g : Nat → Nat → Int) : DV := match repK n g with
  | none => .tup [DI 0, DI 0, DB false]
  | some k => .tup [DI ((k : Int) - (cycI n g : Nat)), DI (cycI n g : Nat), DB true]
theorem eqK_no {n : Nat} {g : Nat → Nat → Int} {per k : Nat} (h : ¬ (1 : Int) ≤ (k : Int) - (per : Int)) : eqK n g per k = false := by
  unfold eqK; rw [decide_eq_false (by omega)]; rfl
set_option maxHeartbeats 800000 in
set_option maxRecDepth 10000 in
theorem repetition74 {d : DV} {n : Nat} {g : Nat → Nat → Int} (hd : Mat d (genM n n g)) (B : PGd n g) : DeepCall Try.prog 74 [d] (repD n g) := by
  have n1 := B.n1
  have n6 := B.n6
  have hcm := B.com (i := n) (Nat.le_refl n)
  have hcp := cycI_pos n g
  have hce : comI (lenI n g (3 * n)) n = cycI n g := rfl
  refine deepCall_K 5 Try.func74 rfl (Nat.le_of_ble_eq_true rfl) fun M W0 => ?_
  refine KC.seq ?_
  refine KC.region ?_
  refine KT.step rfl rfl (K.assign rfl) ?_
  refine KT.step rfl rfl (K.assign rfl) ?_
  refine KT.step rfl rfl (K.assign rfl) ?_
  refine KT.nil ?_
  refine thenK_n ?_
  refine KC.seq ?_
  refine KC.region ?_
  refine KT.step rfl rfl (K.move rfl) ?_
  refine KT.step rfl rfl (K.call1 rfl plainTry_72 (cyclicity72 hd B)) ?_
  refine KT.step rfl rfl (K.assign rfl) ?_
  refine KT.nil ?_
  refine thenK_n ?_
  refine KC.seq ?_
  refine KC.region ?_
  refine KT.step rfl rfl (K.move rfl) ?_
  refine KT.step rfl rfl (K.len rfl hd Try.underlying22) ?_
  rw [genM_len]
  refine KT.step rfl rfl (K.call (ds := [DI (n : Nat), .fn (.func 88) [] []]) rfl plainTry_85 (build85 (f := pwI n g 0) (by omega) plainTry_88 fun i j hi hj => one88 hi)) ?_
  refine KT.step rfl rfl (K.build1' (v := pRow n g 0) rfl rfl Try.underlying78 Try.one22) ?_
  refine KT.step rfl rfl (K.assign rfl) ?_
  refine KT.nil ?_
  refine thenK_n ?_
  refine KC.seq ?_
  refine KC.seq ?_
  refine KC.ghostX (t := 5) (y := .osl 0 0 1 1 1 false) rfl (fun w ι F v h => osl_loose h) ?_
  refine KC.region ?_
  refine KT.step rfl rfl (K.assign rfl) ?_
  refine KT.nil ?_
  refine thenK_n ?_
  refine KC.block ?_
  refine KC.loop (fun p : List VObj × XV × Nat => p.1) (fun p => [(0, .d d), (3, .d (DI (cycI n g : Nat))), (5, p.2.1), (6, .d (DI (p.2.2 : Nat)))]) (fun p => 1 ≤ p.2.2 ∧ p.2.2 ≤ 401 ∧ OwnK 1 p.1 p.2.1 (pRows n g p.2.2) ∧ ∀ j, j < p.2.2 → eqK n g (cycI n g) j = false) (fun p => 401 - p.2.2) (_, .osl 0 0 1 1 1 false, 1) ⟨by simp, by simp, .sl rfl (by simp [pRows]), fun j hj => eqK_no (by simp only at hj; omega)⟩ rfl (by simp [Go.Vm.look, extK, enterK]) ?_
  intro p hp
  obtain ⟨σ0, x0, k⟩ := p
  obtain ⟨hk1, hk, hown, hall⟩ := hp
  simp only at hk1 hk hown hall ⊢
  have hown' := hown
  rw [show k = (k - 1) + 1 by omega, pRows_succ] at hown'
  obtain ⟨ib, hxb, yb⟩ := own_sl hown'
  rw [pRows_len, show k - 1 + 1 = k by omega] at hxb
  rw [← pRows_succ, show k - 1 + 1 = k by omega] at yb
  subst hxb
  refine KC.seq ?_
  refine KC.seq ?_
  refine KC.region ?_
  refine KT.step rfl rfl (K.move rfl) ?_
  refine KT.step rfl rfl (K.leq rfl rfl) ?_
  refine KT.nil ?_
  refine thenK_n ?_
  refine KC.cond rfl (fun hc15 => ?_) (fun hc15 => ?_)
  · skip
    replace hc15 := of_decide_eq_true hc15
    refine KC.skip ?_
    refine thenK_n ?_
    refine KC.seq ?_
    refine KC.block ?_
    refine KC.seq ?_
    refine KC.region ?_
    refine KT.step rfl rfl (K.move rfl) ?_
    refine KT.step rfl rfl (K.move rfl) ?_
    refine KT.step rfl rfl (K.sub rfl rfl (show IntKind.i64.wrap ((k : Int) - 1) = ((k - 1 : Nat) : Int) from (wrap_id (by omega)).trans (by omega))) ?_
    refine KT.step rfl rfl (K.idxO rfl rfl (by omega) Try.underlying78 Try.size22) ?_
    refine KT.step rfl rfl (K.loadO rfl yb (by simp) (pRows_get (show k - 1 < k by omega)) Try.agg22) ?_
    refine KT.step rfl rfl (K.move rfl) ?_
    refine KT.step rfl rfl (K.call2 (res := genD n n (pwI n g k)) rfl rfl plainTry_48 (by
      have := product48 (genD_mat (R := n) (N := n) (f := pwI n g (k - 1))) hd n1 (by omega) (B.pow (k := k - 1) (by omega)) (fun i j => (B.gd i j).mono (by omega))
      rwa [show prodI n (pwI n g (k - 1)) g = pwI n g k by obtain ⟨k', rfl⟩ : ∃ k', k = k' + 1 := ⟨k - 1, by omega⟩; rfl] at this)) ?_
    refine KT.step rfl rfl (K.assign rfl) ?_
    refine KT.nil ?_
    refine thenK_n ?_
    refine KC.seq ?_
    refine KC.region ?_
    refine KT.step rfl rfl (K.move rfl) ?_
    refine KT.step rfl rfl (K.move rfl) ?_
    refine KT.step rfl rfl (K.build1' (v := pRow n g k) rfl rfl Try.underlying78 Try.one22) ?_
    refine KT.appK (k := 1) (vs := [pRow n g k]) rfl rfl rfl rfl (hown.pushed _) (by simp) rfl rfl (by rw [pRows_len]; omega) Try.underlying78 Try.size22 bytes22 cells22 (by omega) fun σ1 x1 ho1 k1 w1 => ?_
    obtain ⟨ib1, hxb1, yb1⟩ := own_sl ho1
    rw [pRows_len] at hxb1
    rw [← pRows_succ] at yb1 ho1
    subst hxb1
    refine KT.step rfl rfl (K.assign rfl) ?_
    refine KT.nil ?_
    refine thenK_n ?_
    refine KC.seq ?_
    refine KC.region ?_
    refine KT.step rfl rfl (K.move rfl) ?_
    refine KT.step rfl rfl (K.move rfl) ?_
    refine KT.step rfl rfl (K.sub rfl rfl (wrap_id (by omega))) ?_
    refine KT.step rfl rfl (K.assign rfl) ?_
    refine KT.nil ?_
    refine thenK_n ?_
    refine KC.seq ?_
    refine KC.region ?_
    refine KT.step rfl rfl (K.move rfl) ?_
    refine KT.step rfl rfl (K.geq rfl rfl) ?_
    refine KT.step rfl rfl (K.move rfl) ?_
    refine KT.bcase (fun hb34 => ?_) (fun hb34 => ?_)
    · skip
      replace hb34 := of_decide_eq_true hb34
      skip
      refine KT.step rfl rfl (K.move rfl) ?_
      refine KT.step rfl rfl (K.move rfl) ?_
      refine KT.step rfl rfl (K.move rfl) ?_
      have hidx : ((k : Int) - (cycI n g : Nat)) = ((k - cycI n g : Nat) : Int) := by omega
      rw [hidx]
      refine KT.step rfl rfl (K.idxO rfl rfl (by omega) Try.underlying78 Try.size22) ?_
      refine KT.step rfl rfl (K.loadO rfl yb1 (by simp) (pRows_get (show k - cycI n g < k + 1 by omega)) Try.agg22) ?_
      refine KT.step rfl rfl (K.call (ds := [genD n n (pwI n g k), genD n n (pwI n g (k - cycI n g)), .fn (.func 29) [] []]) rfl plainTry_55 (equalFunc55 genD_mat genD_mat (genM_lens (by omega) _).1 (genM_lens (by omega) _).2)) ?_
      refine KT.step rfl rfl (K.pick rfl (fun _ => rfl) (fun h => by cases h)) ?_
      refine KT.nil ?_
      refine thenK_n ?_
      refine KC.cond rfl (fun hc41 => ?_) (fun hc41 => ?_)
      · skip
        skip
        refine KC.seq ?_
        refine KC.region ?_
        refine KT.step rfl rfl (K.move rfl) ?_
        refine KT.step rfl rfl (K.move rfl) ?_
        refine KT.step rfl rfl (K.assign rfl) ?_
        refine KT.step rfl rfl (K.assign rfl) ?_
        refine KT.step rfl rfl (K.assign rfl) ?_
        refine KT.nil ?_
        refine thenK_n ?_
        refine KC.ret ?_
        refine blockK_r ?_
        refine thenK_r ?_
        refine thenK_r ?_
        refine blockK_r ?_
        refine thenK_r ?_
        have hk400 : k ≤ 400 := by omega
        have hyes : eqK n g (cycI n g) k = true := by unfold eqK; rw [hc41, decide_eq_true (by omega)]; rfl
        have hrep := repK_some hk400 hyes hall
        exact ⟨.inl rfl, _, rfl, by show some _ = some _; unfold repD; rw [hrep, ← hidx]; rfl⟩
      · skip
        refine KC.skip ?_
        refine blockK_n ?_
        refine thenK_n ?_
        refine KC.region ?_
        refine KT.step rfl rfl (K.move rfl) ?_
        refine KT.step rfl rfl (K.add rfl rfl (show IntKind.i64.wrap ((k : Int) + 1) = ((k + 1 : Nat) : Int) from wrap_id (by omega))) ?_
        refine KT.step rfl rfl (K.assign rfl) ?_
        refine KT.nil ?_
        refine thenK_n ?_
        have hno : eqK n g (cycI n g) k = false := by unfold eqK; rw [hc41, Bool.and_false]
        refine ⟨(σ1, _, k + 1), ⟨by simp only; omega, by simp only; omega, ho1, fun j hj => ?_⟩, by simp only; omega, rfl, by simp [Go.Vm.look, extK]⟩
        by_cases e : j = k
        · subst e; exact hno
        · exact hall j (by simp only at hj; omega)
    · skip
      replace hb34 := of_decide_eq_false hb34
      refine KT.skip rfl rfl ?_
      refine KT.skip rfl rfl ?_
      refine KT.skip rfl rfl ?_
      refine KT.skip rfl rfl ?_
      refine KT.skip rfl rfl ?_
      refine KT.skip rfl rfl ?_
      refine KT.step rfl rfl (K.pick rfl (fun h => by cases h) (fun _ => rfl)) ?_
      refine KT.nil ?_
      refine thenK_n ?_
      refine KC.cond rfl (fun hc41 => ?_) (fun hc41 => ?_)
      · cases hc41
      · skip
        refine KC.skip ?_
        refine blockK_n ?_
        refine thenK_n ?_
        refine KC.region ?_
        refine KT.step rfl rfl (K.move rfl) ?_
        refine KT.step rfl rfl (K.add rfl rfl (show IntKind.i64.wrap ((k : Int) + 1) = ((k + 1 : Nat) : Int) from wrap_id (by omega))) ?_
        refine KT.step rfl rfl (K.assign rfl) ?_
        refine KT.nil ?_
        refine thenK_n ?_
        have hno : eqK n g (cycI n g) k = false := eqK_no hb34
        refine ⟨(σ1, _, k + 1), ⟨by simp only; omega, by simp only; omega, ho1, fun j hj => ?_⟩, by simp only; omega, rfl, by simp [Go.Vm.look, extK]⟩
        by_cases e : j = k
        · subst e; exact hno
        · exact hall j (by simp only at hj; omega)
  · skip
    replace hc15 := of_decide_eq_false hc15
    refine KC.exit ?_
    refine thenK_x ?_
    refine thenK_x ?_
    refine blockK_e ?_
    refine thenK_n ?_
    refine KC.seq ?_
    refine KC.region ?_
    refine KT.step rfl rfl (K.assign rfl) ?_
    refine KT.step rfl rfl (K.assign rfl) ?_
    refine KT.step rfl rfl (K.assign rfl) ?_
    refine KT.nil ?_
    refine thenK_n ?_
    refine KC.ret ?_
    have hrep := repK_none (n := n) (g := g) fun j hj => hall j (by omega)
    exact ⟨.inl rfl, _, rfl, by show some _ = some _; unfold repD; rw [hrep]; rfl⟩

noncomputable def cycV (m : List (List Int)) : Int := if connE m = 0 then ((cycI m.length (gainM m) : Nat) : Int) else 0
noncomputable def perK (m : List (List Int)) : Option Nat := if connE m = 0 then repK m.length (gainM m) else none
noncomputable def perE (m : List (List Int)) : Int := if connE m = 0 then (match perK m with | none => 3 | some _ => 0) else connE m
noncomputable def perI (m : List (List Int)) : Int := match perK m with | none => 0 | some k => (k : Int) - (cycI m.length (gainM m) : Nat)
noncomputable def perP (m : List (List Int)) : Int := match perK m with | none => 0 | some _ => (cycI m.length (gainM m) : Nat)
theorem conn_no {m : List (List Int)} (h : validB 1000 m = false) : connE m ≠ 0 := by rw [connE_bad h]; decide
theorem few_cycV (m : List (List Int)) : cycV (fewM m) = cycV m := few_fun cycV 0 (fun m h => by unfold cycV; rw [if_neg (conn_no h)]) m
theorem perK_no {m : List (List Int)} (h : validB 1000 m = false) : perK m = none := by unfold perK; rw [if_neg (conn_no h)]
theorem few_perE (m : List (List Int)) : perE (fewM m) = perE m := few_fun perE 2 (fun m h => by unfold perE; rw [if_neg (conn_no h), connE_bad h]) m
theorem few_perI (m : List (List Int)) : perI (fewM m) = perI m := few_fun perI 0 (fun m h => by unfold perI; rw [perK_no h]) m
theorem few_perP (m : List (List Int)) : perP (fewM m) = perP m := few_fun perP 0 (fun m h => by unfold perP; rw [perK_no h]) m
theorem conn_pg {m : List (List Int)} (h : connE m = 0) : PGd m.length (gainM m) ∧ connG m = genD m.length m.length (gainM m) := by
  obtain ⟨hm0, _⟩ := connE_inv h
  obtain ⟨hg, _⟩ := meas_G hm0
  exact ⟨⟨hg.n1, hg.n6, hg.gd⟩, by unfold connG; rw [if_pos h]⟩
theorem rep_form (n : Nat) (g : Nat → Nat → Int) : repD n g = .tup [DI (match repK n g with | none => 0 | some k => (k : Int) - (cycI n g : Nat)), DI (match repK n g with | none => 0 | some _ => (cycI n g : Nat)), DB (repK n g).isSome] := by
  unfold repD; cases repK n g <;> rfl
set_option maxRecDepth 10000 in
theorem Cyclic39 {d : DV} {m : List (List Int)} (hd : Mat d m) (hl : m.length ≤ 9223372036854775807) (hr : ∀ r ∈ m, r.length ≤ 9223372036854775807) : DeepCall Try.prog 39 [d] (.tup [DI (cycV m), DI (connE m)]) := by
  refine deepCall_K 5 Try.func39 rfl (Nat.le_of_ble_eq_true rfl) fun M W0 => ?_
  refine KC.seq ?_
  refine KC.region ?_
  refine KT.step rfl rfl (K.assign rfl) ?_
  refine KT.step rfl rfl (K.assign rfl) ?_
  refine KT.nil ?_
  refine thenK_n ?_
  refine KC.seq ?_
  refine KC.region ?_
  refine KT.step rfl rfl (K.move rfl) ?_
  refine KT.step rfl rfl (K.call1 rfl plainTry_68 (connected68 hd hl hr)) ?_
  refine KT.step rfl rfl (K.move rfl) ?_
  refine KT.step rfl rfl (K.extract rfl rfl) ?_
  refine KT.step rfl rfl (K.extract rfl rfl) ?_
  refine KT.step rfl rfl (K.assign rfl) ?_
  refine KT.step rfl rfl (K.assign rfl) ?_
  refine KT.nil ?_
  refine thenK_n ?_
  refine KC.seq ?_
  refine KC.seq ?_
  refine KC.region ?_
  refine KT.step rfl rfl (K.move rfl) ?_
  refine KT.step rfl rfl (K.neq rfl rfl) ?_
  refine KT.nil ?_
  refine thenK_n ?_
  refine KC.cond rfl (fun hc12 => ?_) (fun hc12 => ?_)
  · skip
    replace hc12 := of_decide_eq_true hc12
    refine KC.seq ?_
    refine KC.region ?_
    refine KT.step rfl rfl (K.move rfl) ?_
    refine KT.step rfl rfl (K.assign rfl) ?_
    refine KT.step rfl rfl (K.assign rfl) ?_
    refine KT.nil ?_
    refine thenK_n ?_
    refine KC.ret ?_
    refine thenK_r ?_
    exact ⟨.inl rfl, _, rfl, by show some _ = some _; unfold cycV; rw [if_neg hc12]; rfl⟩
  · skip
    replace hc12 := of_decide_eq_false hc12
    have hc0 : connE m = 0 := by omega
    obtain ⟨B, hG⟩ := conn_pg hc0
    have gm : Mat (connG m) (genM m.length m.length (gainM m)) := by rw [hG]; exact genD_mat
    refine KC.skip ?_
    refine thenK_n ?_
    refine KC.seq ?_
    refine KC.region ?_
    refine KT.step rfl rfl (K.move rfl) ?_
    refine KT.step rfl rfl (K.call1 rfl plainTry_72 (cyclicity72 gm B)) ?_
    refine KT.step rfl rfl (K.assign rfl) ?_
    refine KT.step rfl rfl (K.assign rfl) ?_
    refine KT.nil ?_
    refine thenK_n ?_
    refine KC.ret ?_
    exact ⟨.inl rfl, _, rfl, by show some _ = some _; unfold cycV; rw [if_pos hc0, hc0]; rfl⟩
set_option maxRecDepth 10000 in
theorem Period41 {d : DV} {m : List (List Int)} (hd : Mat d m) (hl : m.length ≤ 9223372036854775807) (hr : ∀ r ∈ m, r.length ≤ 9223372036854775807) : DeepCall Try.prog 41 [d] (.tup [DI (perI m), DI (perP m), DI (perE m)]) := by
  refine deepCall_K 5 Try.func41 rfl (Nat.le_of_ble_eq_true rfl) fun M W0 => ?_
  refine KC.seq ?_
  refine KC.region ?_
  refine KT.step rfl rfl (K.assign rfl) ?_
  refine KT.step rfl rfl (K.assign rfl) ?_
  refine KT.step rfl rfl (K.assign rfl) ?_
  refine KT.nil ?_
  refine thenK_n ?_
  refine KC.seq ?_
  refine KC.region ?_
  refine KT.step rfl rfl (K.move rfl) ?_
  refine KT.step rfl rfl (K.call1 rfl plainTry_68 (connected68 hd hl hr)) ?_
  refine KT.step rfl rfl (K.move rfl) ?_
  refine KT.step rfl rfl (K.extract rfl rfl) ?_
  refine KT.step rfl rfl (K.extract rfl rfl) ?_
  refine KT.step rfl rfl (K.assign rfl) ?_
  refine KT.step rfl rfl (K.assign rfl) ?_
  refine KT.nil ?_
  refine thenK_n ?_
  refine KC.seq ?_
  refine KC.seq ?_
  refine KC.region ?_
  refine KT.step rfl rfl (K.move rfl) ?_
  refine KT.step rfl rfl (K.neq rfl rfl) ?_
  refine KT.nil ?_
  refine thenK_n ?_
  refine KC.cond rfl (fun hc13 => ?_) (fun hc13 => ?_)
  · skip
    replace hc13 := of_decide_eq_true hc13
    refine KC.seq ?_
    refine KC.region ?_
    refine KT.step rfl rfl (K.move rfl) ?_
    refine KT.step rfl rfl (K.assign rfl) ?_
    refine KT.step rfl rfl (K.assign rfl) ?_
    refine KT.step rfl rfl (K.assign rfl) ?_
    refine KT.nil ?_
    refine thenK_n ?_
    refine KC.ret ?_
    refine thenK_r ?_
    have hpk : perK m = none := by unfold perK; rw [if_neg hc13]
    exact ⟨.inl rfl, _, rfl, by show some _ = some _; unfold perI perP perE; rw [hpk, if_neg hc13]; rfl⟩
  · skip
    replace hc13 := of_decide_eq_false hc13
    have hc0 : connE m = 0 := by omega
    obtain ⟨B, hG⟩ := conn_pg hc0
    have gm : Mat (connG m) (genM m.length m.length (gainM m)) := by rw [hG]; exact genD_mat
    have hpk : perK m = repK m.length (gainM m) := by unfold perK; rw [if_pos hc0]
    refine KC.skip ?_
    refine thenK_n ?_
    refine KC.seq ?_
    refine KC.region ?_
    refine KT.step rfl rfl (K.move rfl) ?_
    refine KT.step rfl rfl (K.call1 rfl plainTry_74 ((rep_form m.length (gainM m)) ▸ repetition74 gm B)) ?_
    refine KT.step rfl rfl (K.move rfl) ?_
    refine KT.step rfl rfl (K.extract rfl rfl) ?_
    refine KT.step rfl rfl (K.extract rfl rfl) ?_
    refine KT.step rfl rfl (K.extract rfl rfl) ?_
    refine KT.step rfl rfl (K.assign rfl) ?_
    refine KT.step rfl rfl (K.assign rfl) ?_
    refine KT.step rfl rfl (K.assign rfl) ?_
    refine KT.nil ?_
    refine thenK_n ?_
    refine KC.seq ?_
    refine KC.seq ?_
    refine KC.region ?_
    refine KT.step rfl rfl (K.move rfl) ?_
    refine KT.step rfl rfl (K.not rfl) ?_
    refine KT.nil ?_
    refine thenK_n ?_
    refine KC.cond rfl (fun hc22 => ?_) (fun hc22 => ?_)
    · skip
      refine KC.seq ?_
      refine KC.region ?_
      refine KT.step rfl rfl (K.assign rfl) ?_
      refine KT.step rfl rfl (K.assign rfl) ?_
      refine KT.step rfl rfl (K.assign rfl) ?_
      refine KT.nil ?_
      refine thenK_n ?_
      refine KC.ret ?_
      refine thenK_r ?_
      have hpn : repK m.length (gainM m) = none := by
        cases h : repK m.length (gainM m) with
        | none => rfl
        | some k => rw [h] at hc22; cases hc22
      exact ⟨.inl rfl, _, rfl, by show some _ = some _; unfold perI perP perE; rw [hpk, hpn, if_pos hc0]; rfl⟩
    · skip
      refine KC.skip ?_
      refine thenK_n ?_
      refine KC.seq ?_
      refine KC.region ?_
      refine KT.step rfl rfl (K.move rfl) ?_
      refine KT.step rfl rfl (K.move rfl) ?_
      refine KT.step rfl rfl (K.assign rfl) ?_
      refine KT.step rfl rfl (K.assign rfl) ?_
      refine KT.step rfl rfl (K.assign rfl) ?_
      refine KT.nil ?_
      refine thenK_n ?_
      refine KC.ret ?_
      obtain ⟨k, hpn⟩ := Option.isSome_iff_exists.1 (show (repK m.length (gainM m)).isSome = true by simpa using hc22)
      exact ⟨.inl rfl, _, rfl, by show some _ = some _; unfold perI perP perE; rw [hpk, hpn, if_pos hc0]; rfl⟩

theorem per_inv {m : List (List Int)} (h : perE m = 0) : connE m = 0 ∧ ∃ k, repK m.length (gainM m) = some k ∧ perI m = ((k - cycI m.length (gainM m) : Nat) : Int) ∧ perP m = (cycI m.length (gainM m) : Nat) ∧ cycV m = perP m ∧ k ≤ 400 ∧ cycI m.length (gainM m) + 1 ≤ k := by
  by_cases hc : connE m = 0
  · refine ⟨hc, ?_⟩
    have hpk : perK m = repK m.length (gainM m) := by unfold perK; rw [if_pos hc]
    cases hr : repK m.length (gainM m) with
    | none => unfold perE at h; rw [if_pos hc, hpk, hr] at h; cases h
    | some k =>
      obtain ⟨h1, h2, _⟩ := repK_inv hr
      refine ⟨k, rfl, ?_, ?_, ?_, h1, h2⟩
      · unfold perI; rw [hpk, hr]; simp only; omega
      · unfold perP; rw [hpk, hr]
      · unfold cycV perP; rw [hpk, hr, if_pos hc]
  · unfold perE at h; rw [if_neg hc] at h; exact absurd h hc
theorem perE_or (m : List (List Int)) : perE m = 2 ∨ perE m = 7 ∨ (perE m = 3 ∧ connE m = 0) ∨ perE m = 0 := by
  by_cases hc : connE m = 0
  · unfold perE; rw [if_pos hc]
    cases perK m with
    | none => exact .inr (.inr (.inl ⟨rfl, hc⟩))
    | some k => exact .inr (.inr (.inr rfl))
  · unfold perE; rw [if_neg hc]; rcases connE_or m with h | h | h
    · exact .inl h
    · exact .inr (.inl h)
    · exact absurd h hc
/-- The shift of the powers by the period. -/
theorem shift_pow {m : List (List Int)} (h : perE m = 0) : ∃ (p q : Int) (k c : Nat) (z : Int), measE m = 0 ∧ measF m = (p, q) ∧ 1 ≤ q ∧ q ≤ 6 ∧ (-6000 ≤ p ∧ p ≤ 6000) ∧ perI m = (k : Nat) ∧ perP m = (c : Nat) ∧ 1 ≤ k ∧ 1 ≤ c ∧ k + c ≤ 400 ∧ (c : Int) * p = q * z ∧ validB 1000 m = true ∧
    ∀ t r s, t ≤ 300 → pwI m.length (mf m) (k + t + c) r s = if pwI m.length (mf m) (k + t) r s = Nv then Nv else pwI m.length (mf m) (k + t) r s + z := by
  obtain ⟨hc, k, hr, e1, e2, e3, h1, h2⟩ := per_inv h
  obtain ⟨hm0, _⟩ := connE_inv hc
  obtain ⟨hv, p, q, hm⟩ := meas_inv hm0
  obtain ⟨sm, _⟩ := Cy.Small.of hv
  obtain ⟨_, _, b1, b2, _⟩ := sm.mean hm
  have hF : measF m = (p, q) := (meas_some hv hm).2.1
  have hgm : gainM m = gainI (mf m) p q := by unfold gainM; rw [hF]
  rw [hgm] at hr e1 e2 h2
  have hcp := cycI_pos m.length (gainI (mf m) p q)
  obtain ⟨z, hz, hrep⟩ := sm.repeats hm hr
  refine ⟨p, q, k - cycI m.length (gainI (mf m) p q), cycI m.length (gainI (mf m) p q), z, hm0, hF, by omega, by omega, by omega, e1, e2, by omega, by omega, by omega, hz, hv, fun t r s ht => ?_⟩
  have hd1 : DM (pwI m.length (mf m) (k - cycI m.length (gainI (mf m) p q) + t + cycI m.length (gainI (mf m) p q))) = tpow m.length (DM (mf m)) (k + t) := by
    rw [pw_dec sm.ga (by omega) (by omega)]; congr 1; omega
  have hd2 : DM (pwI m.length (mf m) (k - cycI m.length (gainI (mf m) p q) + t)) = tpow m.length (DM (mf m)) (k - cycI m.length (gainI (mf m) p q) + t) := pw_dec sm.ga (by omega) (by omega)
  have e := hrep t r s
  rw [← hd1, ← hd2] at e
  have e' : dec (pwI m.length (mf m) (k - cycI m.length (gainI (mf m) p q) + t + cycI m.length (gainI (mf m) p q)) r s) = (dec (pwI m.length (mf m) (k - cycI m.length (gainI (mf m) p q) + t) r s)).map (· + z) := e
  split
  · rename_i hn
    rw [hn, dec_nv] at e'
    refine dec_inj (e'.trans ?_)
    rw [dec_nv]; rfl
  · rename_i hn
    rw [dec_some hn] at e'
    unfold dec at e'
    split at e'
    · cases e'
    · simpa using e'

theorem PeriodF {d : DV} {m : List (List Int)} (hd : Mat d m) (hl : m.length ≤ 9223372036854775807) (hr : ∀ r ∈ m, r.length ≤ 9223372036854775807) : DeepCall Try.prog 41 [rows8 m d] (.tup [DI (perI m), DI (perP m), DI (perE m)]) := by
  have h := Period41 (show Mat (rows8 m d) (fewM m) from rows8_mat hd) (few_len m).1 (few_len m).2
  rwa [few_perI, few_perP, few_perE] at h
theorem CyclicF {d : DV} {m : List (List Int)} (hd : Mat d m) (hl : m.length ≤ 9223372036854775807) (hr : ∀ r ∈ m, r.length ≤ 9223372036854775807) : DeepCall Try.prog 39 [rows8 m d] (.tup [DI (cycV m), DI (connE m)]) := by
  have h := Cyclic39 (show Mat (rows8 m d) (fewM m) from rows8_mat hd) (few_len m).1 (few_len m).2
  rwa [few_cycV, few_connE] at h
theorem MeanF {d : DV} {m : List (List Int)} (hd : Mat d m) (hl : m.length ≤ 9223372036854775807) (hr : ∀ r ∈ m, r.length ≤ 9223372036854775807) : DeepCall Try.prog 25 [rows8 m d] (.tup [DI (measF m).1, DI (measF m).2, DI (measE m)]) := by
  have h := Mean25 (show Mat (rows8 m d) (fewM m) from rows8_mat hd) (few_len m).1 (few_len m).2
  rwa [few_measF, few_measE] at h
theorem PowF {d : DV} {m : List (List Int)} (hd : Mat d m) (hl : m.length ≤ 9223372036854775807) (hr : ∀ r ∈ m, r.length ≤ 9223372036854775807) (k : Nat) : DeepCall Try.prog 21 [rows8 m d, DI (k : Nat)] (.tup [powD (fewM m) (k : Nat), DI (powE m (k : Nat))]) := by
  have h := pow21 (k := ((k : Nat) : Int)) (show Mat (rows8 m d) (fewM m) from rows8_mat hd) (few_len m).1 (few_len m).2
  rwa [(few_powM m ((k : Nat) : Int)).2] at h
theorem pow_ok {m : List (List Int)} (hv : validB 1000 m = true) {k : Nat} (hk : k ≤ 1000) : powE m (k : Nat) = 0 ∧ Mat (powD (fewM m) (k : Nat)) (genM m.length m.length (pwI m.length (mf m) k)) := by
  have hok : okP m (k : Nat) = true := by unfold okP; rw [hv, decide_eq_true (by omega), decide_eq_true (by omega)]; rfl
  refine ⟨by unfold powE; rw [if_pos hok], ?_⟩
  have h := powD_mat (fewM m) ((k : Nat) : Int)
  rw [(few_powM m ((k : Nat) : Int)).1] at h
  unfold powM at h
  rw [if_pos hok, Int.toNat_natCast] at h
  exact h
set_option maxHeartbeats 1600000 in
set_option maxRecDepth 10000 in
theorem law12 {d : DV} {m : List (List Int)} {more : Int} (hd : Mat d m) (hl : m.length ≤ 9223372036854775807) (hr : ∀ r ∈ m, r.length ≤ 9223372036854775807) : DeepCall Try.prog 12 [d, DI more] (DB true) := by
  have hor := perE_or m
  refine deepCall_K 5 Try.func12 rfl (Nat.le_of_ble_eq_true rfl) fun M W0 => ?_
  refine KC.seq ?_
  refine KC.region ?_
  refine KT.step rfl rfl (K.assign rfl) ?_
  refine KT.nil ?_
  refine thenK_n ?_
  refine KC.seq ?_
  refine KC.region ?_
  refine KT.step rfl rfl (K.move rfl) ?_
  refine KT.step rfl rfl (K.call1 rfl plainTry_19 (rows19 hd hl (fun i hi => by rw [show m.getD i [] = m[i] by simp [hi]]; exact hr _ (List.getElem_mem hi)))) ?_
  refine KT.step rfl rfl (K.call1 rfl plainTry_41 (PeriodF hd hl hr)) ?_
  refine KT.step rfl rfl (K.move rfl) ?_
  refine KT.step rfl rfl (K.extract rfl rfl) ?_
  refine KT.step rfl rfl (K.extract rfl rfl) ?_
  refine KT.step rfl rfl (K.extract rfl rfl) ?_
  refine KT.step rfl rfl (K.assign rfl) ?_
  refine KT.step rfl rfl (K.assign rfl) ?_
  refine KT.step rfl rfl (K.assign rfl) ?_
  refine KT.nil ?_
  refine thenK_n ?_
  refine KC.seq ?_
  refine KC.region ?_
  refine KT.step rfl rfl (K.move rfl) ?_
  refine KT.step rfl rfl (K.call1 rfl plainTry_19 (rows19 hd hl (fun i hi => by rw [show m.getD i [] = m[i] by simp [hi]]; exact hr _ (List.getElem_mem hi)))) ?_
  refine KT.step rfl rfl (K.call1 rfl plainTry_39 (CyclicF hd hl hr)) ?_
  refine KT.step rfl rfl (K.move rfl) ?_
  refine KT.step rfl rfl (K.extract rfl rfl) ?_
  refine KT.step rfl rfl (K.extract rfl rfl) ?_
  refine KT.step rfl rfl (K.assign rfl) ?_
  refine KT.step rfl rfl (K.assign rfl) ?_
  refine KT.nil ?_
  refine thenK_n ?_
  refine KC.seq ?_
  refine KC.region ?_
  refine KT.step rfl rfl (K.move rfl) ?_
  refine KT.step rfl rfl (K.call1 rfl plainTry_19 (rows19 hd hl (fun i hi => by rw [show m.getD i [] = m[i] by simp [hi]]; exact hr _ (List.getElem_mem hi)))) ?_
  refine KT.step rfl rfl (K.call1 rfl plainTry_25 (MeanF hd hl hr)) ?_
  refine KT.step rfl rfl (K.move rfl) ?_
  refine KT.step rfl rfl (K.extract rfl rfl) ?_
  refine KT.step rfl rfl (K.extract rfl rfl) ?_
  refine KT.step rfl rfl (K.extract rfl rfl) ?_
  refine KT.step rfl rfl (K.assign rfl) ?_
  refine KT.step rfl rfl (K.assign rfl) ?_
  refine KT.step rfl rfl (K.assign rfl) ?_
  refine KT.nil ?_
  refine thenK_n ?_
  refine KC.seq ?_
  refine KC.seq ?_
  refine KC.region ?_
  refine KT.step rfl rfl (K.move rfl) ?_
  refine KT.step rfl rfl (K.neq rfl rfl) ?_
  refine KT.nil ?_
  refine thenK_n ?_
  refine KC.cond rfl (fun hc43 => ?_) (fun hc43 => ?_)
  · skip
    replace hc43 := of_decide_eq_true hc43
    refine KC.seq ?_
    refine KC.region ?_
    refine KT.step rfl rfl (K.move rfl) ?_
    refine KT.step rfl rfl (K.eql rfl rfl) ?_
    refine KT.step rfl rfl (K.move rfl) ?_
    refine KT.bcase (fun hb46 => ?_) (fun hb46 => ?_)
    · skip
      replace hb46 := of_decide_eq_true hb46
      refine KT.skip rfl rfl ?_
      refine KT.skip rfl rfl ?_
      refine KT.step rfl rfl (K.pick rfl (fun _ => rfl) (fun h => by cases h)) ?_
      refine KT.step rfl rfl (K.move rfl) ?_
      refine KT.skip rfl rfl ?_
      refine KT.skip rfl rfl ?_
      refine KT.skip rfl rfl ?_
      refine KT.skip rfl rfl ?_
      refine KT.skip rfl rfl ?_
      refine KT.skip rfl rfl ?_
      refine KT.step rfl rfl (K.pick rfl (fun _ => rfl) (fun h => by cases h)) ?_
      refine KT.step rfl rfl (K.move rfl) ?_
      refine KT.step rfl rfl (K.call0 plainTry_24 (awake24)) ?_
      refine KT.step rfl rfl (K.pick rfl (fun _ => rfl) (fun h => by cases h)) ?_
      refine KT.step rfl rfl (K.assign rfl) ?_
      refine KT.nil ?_
      refine thenK_n ?_
      refine KC.ret ?_
      refine thenK_r ?_
      exact ⟨.inl rfl, _, rfl, rfl⟩
    · skip
      replace hb46 := of_decide_eq_false hb46
      refine KT.step rfl rfl (K.move rfl) ?_
      refine KT.step rfl rfl (K.eql rfl rfl) ?_
      refine KT.step rfl rfl (K.pick rfl (fun h => by cases h) (fun _ => rfl)) ?_
      refine KT.step rfl rfl (K.move rfl) ?_
      refine KT.bcase (fun hb50 => ?_) (fun hb50 => ?_)
      · skip
        replace hb50 := of_decide_eq_true hb50
        refine KT.skip rfl rfl ?_
        refine KT.skip rfl rfl ?_
        refine KT.skip rfl rfl ?_
        refine KT.skip rfl rfl ?_
        refine KT.skip rfl rfl ?_
        refine KT.skip rfl rfl ?_
        refine KT.step rfl rfl (K.pick rfl (fun _ => rfl) (fun h => by cases h)) ?_
        refine KT.step rfl rfl (K.move rfl) ?_
        refine KT.step rfl rfl (K.call0 plainTry_24 (awake24)) ?_
        refine KT.step rfl rfl (K.pick rfl (fun _ => rfl) (fun h => by cases h)) ?_
        refine KT.step rfl rfl (K.assign rfl) ?_
        refine KT.nil ?_
        refine thenK_n ?_
        refine KC.ret ?_
        refine thenK_r ?_
        exact ⟨.inl rfl, _, rfl, rfl⟩
      · skip
        replace hb50 := of_decide_eq_false hb50
        refine KT.step rfl rfl (K.move rfl) ?_
        refine KT.step rfl rfl (K.eql rfl rfl) ?_
        refine KT.step rfl rfl (K.move rfl) ?_
        refine KT.bcase (fun hb53 => ?_) (fun hb53 => ?_)
        · skip
          replace hb53 := of_decide_eq_true hb53
          refine KT.step rfl rfl (K.move rfl) ?_
          refine KT.step rfl rfl (K.eql rfl rfl) ?_
          refine KT.step rfl rfl (K.pick rfl (fun _ => rfl) (fun h => by cases h)) ?_
          refine KT.step rfl rfl (K.pick rfl (fun h => by cases h) (fun _ => rfl)) ?_
          refine KT.step rfl rfl (K.move rfl) ?_
          refine KT.bcase (fun hb58 => ?_) (fun hb58 => ?_)
          · skip
            replace hb58 := of_decide_eq_true hb58
            refine KT.step rfl rfl (K.call0 plainTry_24 (awake24)) ?_
            refine KT.step rfl rfl (K.pick rfl (fun _ => rfl) (fun h => by cases h)) ?_
            refine KT.step rfl rfl (K.assign rfl) ?_
            refine KT.nil ?_
            refine thenK_n ?_
            refine KC.ret ?_
            refine thenK_r ?_
            exact ⟨.inl rfl, _, rfl, rfl⟩
          · skip
            exact absurd (of_decide_eq_false hb58) (by omega)
        · skip
          exact absurd (of_decide_eq_false hb53) (by omega)
  · skip
    replace hc43 := of_decide_eq_false hc43
    have hp0 : perE m = 0 := by omega
    obtain ⟨p, q, k, c, z, hm0, hF, q1, q6, bp, hpI, hpP, hk1, hc1, hkc, hz, hv, hsh⟩ := shift_pow hp0
    obtain ⟨hcn, _, _, _, _, hcV, _⟩ := per_inv hp0
    obtain ⟨sm, p3⟩ := Cy.Small.of hv
    have hcp := mul_bd (a := 400) (b := 6000) (x := (c : Int)) (y := p) (by omega) bp (by omega) (by omega)
    have hrem : Int.tmod ((c : Int) * p) q = 0 := by rw [hz, Int.mul_tmod_right]
    have hz2 : Int.tdiv ((c : Int) * p) q = z := by rw [hz, Int.mul_tdiv_cancel_left _ (by omega)]
    have hzb : -2400000 ≤ z ∧ z ≤ 2400000 := by
      have := tdiv_bd (a := (c : Int) * p) (g := q.toNat) (B := 2400000) (by omega) hcp
      rwa [show ((q.toNat : Nat) : Int) = q by omega, hz2] at this
    have hquo : IntKind.i64.wrap (Int.tdiv ((c : Int) * p) q) = z := by rw [hz2]; exact wrap_id (by omega)
    simp only [hF, hcV, hpI, hpP, hcn, hm0]
    refine KC.skip ?_
    refine thenK_n ?_
    refine KC.seq ?_
    refine KC.seq ?_
    refine KC.region ?_
    refine KT.step rfl rfl (K.move rfl) ?_
    refine KT.step rfl rfl (K.neq rfl rfl) ?_
    refine KT.step rfl rfl (K.move rfl) ?_
    refine KT.bcase (fun hb63 => ?_) (fun hb63 => ?_)
    · skip
      exact absurd (of_decide_eq_true hb63) (by omega)
    · skip
      replace hb63 := of_decide_eq_false hb63
      refine KT.step rfl rfl (K.move rfl) ?_
      refine KT.step rfl rfl (K.neq rfl rfl) ?_
      refine KT.step rfl rfl (K.pick rfl (fun h => by cases h) (fun _ => rfl)) ?_
      refine KT.step rfl rfl (K.move rfl) ?_
      refine KT.bcase (fun hb67 => ?_) (fun hb67 => ?_)
      · skip
        exact absurd (of_decide_eq_true hb67) (by omega)
      · skip
        replace hb67 := of_decide_eq_false hb67
        refine KT.step rfl rfl (K.move rfl) ?_
        refine KT.step rfl rfl (K.move rfl) ?_
        refine KT.step rfl rfl (K.neq rfl rfl) ?_
        refine KT.step rfl rfl (K.pick rfl (fun h => by cases h) (fun _ => rfl)) ?_
        refine KT.step rfl rfl (K.move rfl) ?_
        refine KT.bcase (fun hb72 => ?_) (fun hb72 => ?_)
        · skip
          exact absurd (of_decide_eq_true hb72) (by omega)
        · skip
          replace hb72 := of_decide_eq_false hb72
          refine KT.step rfl rfl (K.move rfl) ?_
          refine KT.step rfl rfl (K.lss rfl rfl) ?_
          refine KT.step rfl rfl (K.pick rfl (fun h => by cases h) (fun _ => rfl)) ?_
          refine KT.step rfl rfl (K.move rfl) ?_
          refine KT.bcase (fun hb76 => ?_) (fun hb76 => ?_)
          · skip
            exact absurd (of_decide_eq_true hb76) (by omega)
          · skip
            replace hb76 := of_decide_eq_false hb76
            refine KT.step rfl rfl (K.move rfl) ?_
            refine KT.step rfl rfl (K.lss rfl rfl) ?_
            refine KT.step rfl rfl (K.pick rfl (fun h => by cases h) (fun _ => rfl)) ?_
            refine KT.step rfl rfl (K.move rfl) ?_
            refine KT.bcase (fun hb80 => ?_) (fun hb80 => ?_)
            · skip
              exact absurd (of_decide_eq_true hb80) (by omega)
            · skip
              replace hb80 := of_decide_eq_false hb80
              refine KT.step rfl rfl (K.move rfl) ?_
              refine KT.step rfl rfl (K.lss rfl rfl) ?_
              refine KT.step rfl rfl (K.pick rfl (fun h => by cases h) (fun _ => rfl)) ?_
              refine KT.step rfl rfl (K.move rfl) ?_
              refine KT.bcase (fun hb84 => ?_) (fun hb84 => ?_)
              · skip
                exact absurd (of_decide_eq_true hb84) (by omega)
              · skip
                replace hb84 := of_decide_eq_false hb84
                refine KT.step rfl rfl (K.move rfl) ?_
                refine KT.step rfl rfl (K.move rfl) ?_
                refine KT.step rfl rfl (K.mul rfl rfl (wrap_id (by omega))) ?_
                refine KT.step rfl rfl (K.move rfl) ?_
                refine KT.step rfl rfl (K.rem rfl rfl (by omega) hrem) ?_
                refine KT.step rfl rfl (K.neq rfl rfl) ?_
                refine KT.step rfl rfl (K.pick rfl (fun h => by cases h) (fun _ => rfl)) ?_
                refine KT.step rfl rfl (K.move rfl) ?_
                refine KT.bcase (fun hb92 => ?_) (fun hb92 => ?_)
                · skip
                  exact absurd rfl (of_decide_eq_true hb92)
                · skip
                  replace hb92 := of_decide_eq_false hb92
                  refine KT.step rfl rfl (K.move rfl) ?_
                  refine KT.step rfl rfl (K.move rfl) ?_
                  refine KT.step rfl rfl (K.add rfl rfl (wrap_id (by omega))) ?_
                  refine KT.step rfl rfl (K.gtr rfl rfl) ?_
                  refine KT.step rfl rfl (K.pick rfl (fun h => by cases h) (fun _ => rfl)) ?_
                  refine KT.nil ?_
                  refine thenK_n ?_
                  refine KC.cond rfl (fun hc97 => ?_) (fun hc97 => ?_)
                  · skip
                    exact absurd (of_decide_eq_true hc97) (by omega)
                  · skip
                    replace hc97 := of_decide_eq_false hc97
                    refine KC.skip ?_
                    refine thenK_n ?_
                    refine KC.seq ?_
                    refine KC.region ?_
                    refine KT.step rfl rfl (K.move rfl) ?_
                    refine KT.step rfl rfl (K.move rfl) ?_
                    refine KT.step rfl rfl (K.conv rfl Try.underlying3 Try.underlying45 (wrapUI more)) ?_
                    refine KT.step rfl rfl (K.rem rfl rfl (by decide) (show Int.tmod ((more % 2 ^ 64).toNat : Int) 200 = (((more % 2 ^ 64).toNat % 200 : Nat) : Int) from tmodN _ 200)) ?_
                    refine KT.step rfl rfl (K.conv rfl Try.underlying45 Try.underlying3 (show IntKind.i64.wrap ((((more % 2 ^ 64).toNat % 200 : Nat)) : Int) = _ from wrap_id (by omega))) ?_
                    have ht : (more % 2 ^ 64).toNat % 200 < 200 := Nat.mod_lt _ (by decide)
                    generalize (more % 2 ^ 64).toNat % 200 = t at ht ⊢
                    obtain ⟨e1, hX⟩ := pow_ok hv (k := k + t) (by omega)
                    obtain ⟨e2, hY⟩ := pow_ok hv (k := k + t + c) (by omega)
                    refine KT.step rfl rfl (K.add rfl rfl (show IntKind.i64.wrap ((k : Int) + (t : Int)) = ((k + t : Nat) : Int) from (wrap_id (by omega)).trans (by omega))) ?_
                    refine KT.step rfl rfl (K.assign rfl) ?_
                    refine KT.nil ?_
                    refine thenK_n ?_
                    refine KC.seq ?_
                    refine KC.region ?_
                    refine KT.step rfl rfl (K.move rfl) ?_
                    refine KT.step rfl rfl (K.call1 rfl plainTry_19 (rows19 hd hl (fun i hi => by rw [show m.getD i [] = m[i] by simp [hi]]; exact hr _ (List.getElem_mem hi)))) ?_
                    refine KT.step rfl rfl (K.move rfl) ?_
                    refine KT.step rfl rfl (K.call2 rfl rfl plainTry_21 (PowF hd hl hr (k + t))) ?_
                    refine KT.step rfl rfl (K.move rfl) ?_
                    refine KT.step rfl rfl (K.extract rfl rfl) ?_
                    refine KT.step rfl rfl (K.extract rfl rfl) ?_
                    refine KT.step rfl rfl (K.assign rfl) ?_
                    refine KT.step rfl rfl (K.assign rfl) ?_
                    refine KT.nil ?_
                    refine thenK_n ?_
                    refine KC.seq ?_
                    refine KC.region ?_
                    refine KT.step rfl rfl (K.move rfl) ?_
                    refine KT.step rfl rfl (K.call1 rfl plainTry_19 (rows19 hd hl (fun i hi => by rw [show m.getD i [] = m[i] by simp [hi]]; exact hr _ (List.getElem_mem hi)))) ?_
                    refine KT.step rfl rfl (K.move rfl) ?_
                    refine KT.step rfl rfl (K.move rfl) ?_
                    refine KT.step rfl rfl (K.add rfl rfl (show IntKind.i64.wrap (((k + t : Nat) : Int) + (c : Int)) = ((k + t + c : Nat) : Int) from (wrap_id (by omega)).trans (by omega))) ?_
                    refine KT.step rfl rfl (K.call2 rfl rfl plainTry_21 (PowF hd hl hr (k + t + c))) ?_
                    refine KT.step rfl rfl (K.move rfl) ?_
                    refine KT.step rfl rfl (K.extract rfl rfl) ?_
                    refine KT.step rfl rfl (K.extract rfl rfl) ?_
                    refine KT.step rfl rfl (K.assign rfl) ?_
                    refine KT.step rfl rfl (K.assign rfl) ?_
                    refine KT.nil ?_
                    refine thenK_n ?_
                    refine KC.seq ?_
                    refine KC.seq ?_
                    refine KC.region ?_
                    refine KT.step rfl rfl (K.move rfl) ?_
                    refine KT.step rfl rfl (K.neq rfl rfl) ?_
                    refine KT.step rfl rfl (K.move rfl) ?_
                    refine KT.bcase (fun hb122 => ?_) (fun hb122 => ?_)
                    · skip
                      exact absurd e1 (of_decide_eq_true hb122)
                    · skip
                      replace hb122 := of_decide_eq_false hb122
                      refine KT.step rfl rfl (K.move rfl) ?_
                      refine KT.step rfl rfl (K.neq rfl rfl) ?_
                      refine KT.step rfl rfl (K.pick rfl (fun h => by cases h) (fun _ => rfl)) ?_
                      refine KT.step rfl rfl (K.move rfl) ?_
                      refine KT.bcase (fun hb126 => ?_) (fun hb126 => ?_)
                      · skip
                        exact absurd e2 (of_decide_eq_true hb126)
                      · skip
                        replace hb126 := of_decide_eq_false hb126
                        refine KT.step rfl rfl (K.move rfl) ?_
                        refine KT.step rfl rfl (K.len rfl hX Try.underlying22) ?_
                        rw [genM_len]
                        refine KT.step rfl rfl (K.move rfl) ?_
                        refine KT.step rfl rfl (K.len rfl hY Try.underlying22) ?_
                        rw [genM_len]
                        refine KT.step rfl rfl (K.neq rfl rfl) ?_
                        refine KT.step rfl rfl (K.pick rfl (fun h => by cases h) (fun _ => rfl)) ?_
                        refine KT.nil ?_
                        refine thenK_n ?_
                        refine KC.cond rfl (fun hc132 => ?_) (fun hc132 => ?_)
                        · skip
                          exact absurd rfl (of_decide_eq_true hc132)
                        · skip
                          replace hc132 := of_decide_eq_false hc132
                          have hcn6 := sm.n6
                          refine KC.skip ?_
                          refine thenK_n ?_
                          refine KC.seq ?_
                          refine KC.seq ?_
                          refine KC.region ?_
                          refine KT.step rfl rfl (K.move rfl) ?_
                          refine KT.step rfl rfl (K.len rfl hX Try.underlying22) ?_
                          rw [genM_len]
                          refine KT.step rfl rfl (K.move rfl) ?_
                          refine KT.nil ?_
                          refine thenK_n ?_
                          refine KC.block ?_
                          refine KC.loop (fun _ : Nat => []) (fun r => [(5, .d (DI (k : Nat))), (6, .d (DI (c : Nat))), (10, .d (DI p)), (11, .d (DI q)), (14, .d (powD (fewM m) ((k + t : Nat) : Int))), (16, .d (powD (fewM m) ((k + t + c : Nat) : Int))), (133, .d (powD (fewM m) ((k + t : Nat) : Int))), (134, .d (DI (m.length : Nat))), (135, .d (DI (r : Nat)))]) (fun r => r ≤ m.length) (fun r => m.length - r) 0 (Nat.zero_le _) rfl (by simp [Go.Vm.look, extK, enterK]) ?_
                          intro r hr
                          refine KC.seq ?_
                          refine KC.region ?_
                          refine KT.step rfl rfl (K.lss rfl rfl) ?_
                          refine KT.nil ?_
                          refine thenK_n ?_
                          refine KC.seq ?_
                          refine KC.cond rfl (fun hc136 => ?_) (fun hc136 => ?_)
                          · skip
                            replace hc136 := of_decide_eq_true hc136
                            refine KC.skip ?_
                            refine thenK_n ?_
                            refine KC.seq ?_
                            refine KC.block ?_
                            refine KC.seq ?_
                            refine KC.region ?_
                            refine KT.step rfl rfl (K.move rfl) ?_
                            refine KT.idx rfl rfl rfl hX rfl (by rw [genM_len]; omega) Try.underlying22 Try.size33 fun c138 cs138 hq138 => ?_
                            rw [genM_row] at hq138
                            refine KT.step rfl rfl (K.load rfl Try.agg33) ?_
                            refine KT.step rfl rfl (K.assign rfl) ?_
                            refine KT.step rfl rfl (K.assign rfl) ?_
                            refine KT.nil ?_
                            refine thenK_n ?_
                            refine KC.seq ?_
                            refine KC.seq ?_
                            refine KC.region ?_
                            refine KT.step rfl rfl (K.move rfl) ?_
                            refine KT.step rfl rfl (K.len rfl hq138 Try.underlying33) ?_
                            rw [List.length_map, List.length_range]
                            refine KT.step rfl rfl (K.move rfl) ?_
                            refine KT.step rfl rfl (K.move rfl) ?_
                            refine KT.idx rfl rfl rfl hY rfl (by rw [genM_len]; omega) Try.underlying22 Try.size33 fun c144 cs144 hq144 => ?_
                            rw [genM_row] at hq144
                            refine KT.step rfl rfl (K.load rfl Try.agg33) ?_
                            refine KT.step rfl rfl (K.len rfl hq144 Try.underlying33) ?_
                            rw [List.length_map, List.length_range]
                            refine KT.step rfl rfl (K.neq rfl rfl) ?_
                            refine KT.nil ?_
                            refine thenK_n ?_
                            refine KC.cond rfl (fun hc147 => ?_) (fun hc147 => ?_)
                            · skip
                              exact absurd rfl (of_decide_eq_true hc147)
                            · skip
                              replace hc147 := of_decide_eq_false hc147
                              refine KC.skip ?_
                              refine thenK_n ?_
                              refine KC.seq ?_
                              refine KC.region ?_
                              refine KT.step rfl rfl (K.move rfl) ?_
                              refine KT.step rfl rfl (K.len rfl hq138 Try.underlying33) ?_
                              rw [List.length_map, List.length_range]
                              refine KT.step rfl rfl (K.move rfl) ?_
                              refine KT.nil ?_
                              refine thenK_n ?_
                              refine KC.block ?_
                              refine KC.loop (fun _ : Nat => []) (fun s => [(5, .d (DI (k : Nat))), (6, .d (DI (c : Nat))), (10, .d (DI p)), (11, .d (DI q)), (14, .d (powD (fewM m) ((k + t : Nat) : Int))), (16, .d (powD (fewM m) ((k + t + c : Nat) : Int))), (133, .d (powD (fewM m) ((k + t : Nat) : Int))), (134, .d (DI (m.length : Nat))), (135, .d (DI (r : Nat))), (18, .d (DI (r : Nat))), (19, .d c138), (148, .d c138), (149, .d (DI (m.length : Nat))), (150, .d (DI (s : Nat)))]) (fun s => s ≤ m.length) (fun s => m.length - s) 0 (Nat.zero_le _) rfl (by simp [Go.Vm.look, extK, enterK]) ?_
                              intro s hs
                              refine KC.seq ?_
                              refine KC.region ?_
                              refine KT.step rfl rfl (K.lss rfl rfl) ?_
                              refine KT.nil ?_
                              refine thenK_n ?_
                              refine KC.seq ?_
                              refine KC.cond rfl (fun hc151 => ?_) (fun hc151 => ?_)
                              · skip
                                replace hc151 := of_decide_eq_true hc151
                                refine KC.skip ?_
                                refine thenK_n ?_
                                refine KC.seq ?_
                                refine KC.block ?_
                                refine KC.seq ?_
                                refine KC.region ?_
                                refine KT.step rfl rfl (K.move rfl) ?_
                                refine KT.idxI rfl rfl rfl hq138 rfl (by simp; omega) Try.underlying33 Try.size3 fun cs153 => ?_
                                rw [get_range]
                                refine KT.step rfl rfl (K.load rfl Try.agg3) ?_
                                refine KT.step rfl rfl (K.assign rfl) ?_
                                refine KT.step rfl rfl (K.assign rfl) ?_
                                refine KT.nil ?_
                                refine thenK_n ?_
                                refine KC.seq ?_
                                refine KC.seq ?_
                                refine KC.region ?_
                                refine KT.step rfl rfl (K.move rfl) ?_
                                refine KT.step rfl rfl (K.neq rfl rfl) ?_
                                refine KT.nil ?_
                                refine thenK_n ?_
                                refine KC.cond rfl (fun hc156 => ?_) (fun hc156 => ?_)
                                · skip
                                  replace hc156 := of_decide_eq_true hc156
                                  refine KC.region ?_
                                  refine KT.step rfl rfl (K.move rfl) ?_
                                  refine KT.step rfl rfl (K.move rfl) ?_
                                  refine KT.step rfl rfl (K.move rfl) ?_
                                  refine KT.step rfl rfl (K.mul rfl rfl (wrap_id (by omega))) ?_
                                  refine KT.step rfl rfl (K.move rfl) ?_
                                  refine KT.step rfl rfl (K.quo rfl rfl (by omega) hquo) ?_
                                  have hwb := (pw_good sm.ga (by omega) (k + t) r s).resolve_left hc156
                                  refine KT.step rfl rfl (K.add rfl rfl (wrap_id (by omega))) ?_
                                  refine KT.step rfl rfl (K.assign rfl) ?_
                                  refine KT.nil ?_
                                  refine thenK_n ?_
                                  refine KC.seq ?_
                                  refine KC.region ?_
                                  refine KT.step rfl rfl (K.move rfl) ?_
                                  refine KT.step rfl rfl (K.move rfl) ?_
                                  refine KT.idx rfl rfl rfl hY rfl (by rw [genM_len]; omega) Try.underlying22 Try.size33 fun c166 cs166 hq166 => ?_
                                  rw [genM_row] at hq166
                                  refine KT.step rfl rfl (K.load rfl Try.agg33) ?_
                                  refine KT.step rfl rfl (K.move rfl) ?_
                                  refine KT.idxI rfl rfl rfl hq166 rfl (by simp; omega) Try.underlying33 Try.size3 fun cs169 => ?_
                                  rw [get_range]
                                  refine KT.step rfl rfl (K.load rfl Try.agg3) ?_
                                  refine KT.step rfl rfl (K.move rfl) ?_
                                  refine KT.step rfl rfl (K.neq rfl rfl) ?_
                                  refine KT.nil ?_
                                  refine thenK_n ?_
                                  refine KC.cond rfl (fun hc172 => ?_) (fun hc172 => ?_)
                                  · skip
                                    have hh := hsh t r s (by omega)
                                    rw [if_neg (show pwI m.length (mf m) (k + t) r s ≠ Nv from hc156)] at hh
                                    exact absurd hh (of_decide_eq_true hc172)
                                  · skip
                                    replace hc172 := of_decide_eq_false hc172
                                    refine KC.skip ?_
                                    refine blockK_n ?_
                                    refine thenK_n ?_
                                    refine KC.region ?_
                                    refine KT.step rfl rfl (K.add rfl rfl (wrap_id (by omega))) ?_
                                    refine KT.step rfl rfl (K.move rfl) ?_
                                    refine KT.nil ?_
                                    refine thenK_n ?_
                                    exact ⟨s + 1, by omega, by omega, rfl, by simp [Go.Vm.look, extK]⟩
                                · skip
                                  replace hc156 := of_decide_eq_false hc156
                                  refine KC.skip ?_
                                  refine thenK_n ?_
                                  refine KC.seq ?_
                                  refine KC.region ?_
                                  refine KT.step rfl rfl (K.move rfl) ?_
                                  refine KT.step rfl rfl (K.move rfl) ?_
                                  refine KT.idx rfl rfl rfl hY rfl (by rw [genM_len]; omega) Try.underlying22 Try.size33 fun c166 cs166 hq166 => ?_
                                  rw [genM_row] at hq166
                                  refine KT.step rfl rfl (K.load rfl Try.agg33) ?_
                                  refine KT.step rfl rfl (K.move rfl) ?_
                                  refine KT.idxI rfl rfl rfl hq166 rfl (by simp; omega) Try.underlying33 Try.size3 fun cs169 => ?_
                                  rw [get_range]
                                  refine KT.step rfl rfl (K.load rfl Try.agg3) ?_
                                  refine KT.step rfl rfl (K.move rfl) ?_
                                  refine KT.step rfl rfl (K.neq rfl rfl) ?_
                                  refine KT.nil ?_
                                  refine thenK_n ?_
                                  refine KC.cond rfl (fun hc172 => ?_) (fun hc172 => ?_)
                                  · skip
                                    have hh := hsh t r s (by omega)
                                    rw [if_pos (show pwI m.length (mf m) (k + t) r s = Nv from Classical.not_not.1 hc156), show Nv = pwI m.length (mf m) (k + t) r s from (Classical.not_not.1 hc156).symm] at hh
                                    exact absurd hh (of_decide_eq_true hc172)
                                  · skip
                                    replace hc172 := of_decide_eq_false hc172
                                    refine KC.skip ?_
                                    refine blockK_n ?_
                                    refine thenK_n ?_
                                    refine KC.region ?_
                                    refine KT.step rfl rfl (K.add rfl rfl (wrap_id (by omega))) ?_
                                    refine KT.step rfl rfl (K.move rfl) ?_
                                    refine KT.nil ?_
                                    refine thenK_n ?_
                                    exact ⟨s + 1, by omega, by omega, rfl, by simp [Go.Vm.look, extK]⟩
                              · skip
                                replace hc151 := of_decide_eq_false hc151
                                refine KC.exit ?_
                                refine thenK_x ?_
                                refine thenK_x ?_
                                refine blockK_e ?_
                                refine blockK_n ?_
                                refine thenK_n ?_
                                refine KC.region ?_
                                refine KT.step rfl rfl (K.add rfl rfl (wrap_id (by omega))) ?_
                                refine KT.step rfl rfl (K.move rfl) ?_
                                refine KT.nil ?_
                                refine thenK_n ?_
                                exact ⟨r + 1, by omega, by omega, rfl, by simp [Go.Vm.look, extK]⟩
                          · skip
                            replace hc136 := of_decide_eq_false hc136
                            refine KC.exit ?_
                            refine thenK_x ?_
                            refine thenK_x ?_
                            refine blockK_e ?_
                            refine thenK_n ?_
                            refine KC.seq ?_
                            refine KC.region ?_
                            refine KT.step rfl rfl (K.call0 plainTry_24 (awake24)) ?_
                            refine KT.step rfl rfl (K.assign rfl) ?_
                            refine KT.nil ?_
                            refine thenK_n ?_
                            refine KC.ret ?_
                            exact ⟨.inl rfl, _, rfl, rfl⟩
end Go.Proofs.Ythbnnffmhnjpjaa

