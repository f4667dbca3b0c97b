/-
  CONTRACTS for LatticeChecks: wide and unimodular matrices by the reference.
-/
import Derived.Test.YtlomhajhoecoiaaChkI
namespace Go.Proofs.Ytlomhajhoecoiaa
open Go.Vm Go.Big Go.Det

theorem w_small {z : Int} {k : Nat} (hk : k ≤ 5) (h : z.natAbs ≤ (5 * 2 ^ 40) ^ k) : z.natAbs < B ^ 30 := Nat.lt_of_le_of_lt h (Nat.lt_of_lt_of_le (wide_pow hk) (by decide))
theorem detZ {da : DV} {a : List (List Int)} {n : Nat} (ha : Mat da a) (hr : ∀ r ∈ a, r.length = n) (he : Ent (2 ^ 40) a) : ∀ (k : Nat), k ≤ 5 → k ≤ a.length → ∀ (cols : List Nat) (drows dcols : DV), cols.length ≤ 5 → (∀ q ∈ cols, q < n) →
    Ints drows (colsI (List.range k)) → Ints dcols (colsI cols) → ∃ r, DeepCall Try.prog 83 [da, drows, dcols] r ∧ BigZ r (detR a k cols)
  | 0, _, _, cols, drows, dcols, _, _, h1, _ => by
    obtain ⟨r, c1, c2⟩ := numberZ (n := 1) (by decide) (by decide)
    obtain ⟨neg, m, e, hm⟩ := big_shape c2
    exact ⟨r, det_zero h1 c1 e hm, c2⟩
  | k + 1, hk5, hka, cols, drows, dcols, hl, hc, h1, h2 => by
    have ih := detZ ha hr he k (by omega) (by omega)
    obtain ⟨r0, c0, b0⟩ := numberZ (n := 0) (by decide) (by decide)
    have hlen : ∀ q, (restL cols q).length ≤ 5 := fun q => by rw [restL_eq, List.length_eraseIdx]; split <;> omega
    have hmem : ∀ q, ∀ x ∈ restL cols q, x < n := fun q x hx => by rw [restL_eq] at hx; exact hc x (List.mem_of_mem_eraseIdx hx)
    have ht : Ints (takeV k drows) (colsI (List.range k)) := by
      have := takeV_vec h1 (m := k) (by rw [colsI_len]; simp)
      rwa [show (colsI (List.range (k + 1))).take k = colsI (List.range k) by simp [colsI, ← List.map_take, List.take_range]] at this
    have bt : ∀ q, (termR a k cols q).natAbs ≤ 2 ^ 40 * (5 * 2 ^ 40) ^ k := fun q => by
      have b1 := he.get k (cols.getD q 0)
      have b2 := detR_bd (L := 5) he k (cols.eraseIdx q) (by rw [← restL_eq]; exact hlen q)
      have := term_bd b1 b2 (decide ((k + 1 + q) % 2 = 0))
      simpa [termR] using this
    have bs : ∀ q, q ≤ cols.length → (sumZ (termR a k cols) q).natAbs ≤ (5 * 2 ^ 40) ^ (k + 1) := fun q hq => by
      have := sumZ_bd (f := termR a k cols) (c := 2 ^ 40 * (5 * 2 ^ 40) ^ k) q fun i _ => bt i
      refine Nat.le_trans this ?_
      rw [Nat.pow_succ]
      calc q * (2 ^ 40 * (5 * 2 ^ 40) ^ k) ≤ 5 * (2 ^ 40 * (5 * 2 ^ 40) ^ k) := Nat.mul_le_mul_right _ (by omega)
        _ = (5 * 2 ^ 40) ^ k * (5 * 2 ^ 40) := by grind
    have pk : (5 * 2 ^ 40) ^ k ≤ (5 * 2 ^ 40) ^ (k + 1) := Nat.pow_le_pow_right (by decide) (by omega)
    have bt' : ∀ q, (termR a k cols q).natAbs < B ^ 30 := fun q => w_small hk5 (by
      refine Nat.le_trans (bt q) ?_
      rw [Nat.pow_succ, Nat.mul_comm]
      exact Nat.mul_le_mul_left _ (by decide))
    obtain ⟨f, f0, f1, f2⟩ := seq_ex (S := StepR a k da drows cols) (I := fun q d => BigZ d (sumZ (termR a k cols) q)) cols.length r0 b0 fun q d hq hd => by
      have b1 := he.get k (cols.getD q 0)
      obtain ⟨r1, c1, d1⟩ := numberZ (n := (a.getD k []).getD (cols.getD q 0) 0) (by omega) (by omega)
      obtain ⟨r2, c2, d2⟩ := ih (restL cols q) (takeV k drows) (restD cols q) (hlen q) (hmem q) ht (restD_ints cols q)
      rw [restL_eq] at d2
      have b2 := detR_bd (L := 5) he k (cols.eraseIdx q) (by rw [← restL_eq]; exact hlen q)
      obtain ⟨r3, c3, d3⟩ := timesZc d1 d2 (Nat.lt_of_le_of_lt b1 (by decide)) (w_small (by omega) b2)
      obtain ⟨ng, mm, rfl, smm⟩ := big_shape d3
      have d4 : BigZ (.agg [DB (sgnF k q ng), mm]) (termR a k cols q) := by
        unfold sgnF termR
        by_cases h : (k + 1 + q) % 2 = 0
        · rw [if_pos h, if_pos h]; exact big_neg d3
        · rw [if_neg h, if_neg h]; exact d3
      obtain ⟨r5, c5, d5⟩ := sumZc hd d4 (w_small hk5 (bs q (by omega))) (bt' q)
      exact ⟨r5, ⟨r1, r2, ng, mm, c1, c2, c3, smm, c5⟩, d5⟩
    refine ⟨f cols.length, ?_, f2 _ (Nat.le_refl _)⟩
    exact det_succ ha (by omega) (by omega) (hr _ (List.getElem_mem (by omega))) h1 h2 hc (by omega) (by rw [f0]; exact c0) f1 fun q hq => big_shape (f2 q hq)
def wideB (m : List (List Int)) (r n : Int) : Bool := m.all (rowB n 1099511627776) && decide (m.length = r) && decide (0 < r) && decide (0 < n)
set_option maxRecDepth 10000 in
theorem wide50 {d : DV} {m : List (List Int)} {r n : Int} (hd : Mat d m) (hl : m.length ≤ 9223372036854775807) (hr : ∀ row ∈ m, row.length ≤ 9223372036854775807) : DeepCall Try.prog 50 [d, DI r, DI n] (DB (wideB m r n)) := by
  refine deepCall_K 5 Try.func50 rfl (Nat.le_of_ble_eq_true rfl) fun M W0 => ?_
  refine KC.seq ?_
  refine KC.region ?_
  refine KT.step rfl rfl (K.assign rfl) ?_
  refine KT.nil ?_
  refine thenK_n ?_
  refine KC.seq ?_
  refine KC.seq ?_
  refine KC.region ?_
  refine KT.step rfl rfl (K.move rfl) ?_
  refine KT.step rfl rfl (K.len rfl hd Try.underlying22) ?_
  refine KT.step rfl rfl (K.move rfl) ?_
  refine KT.nil ?_
  refine thenK_n ?_
  refine KC.block ?_
  refine KC.loop (fun _ : Nat => []) (fun i => [(0, .d d), (1, .d (DI r)), (2, .d (DI n)), (9, .d d), (10, .d (DI m.length)), (11, .d (DI i))]) (fun i => i ≤ m.length ∧ (m.take i).all (rowB n 1099511627776) = true) (fun i => m.length - i) 0 ⟨Nat.zero_le _, by simp⟩ rfl (by simp [Go.Vm.look, extK, enterK]) ?_
  intro i hi
  obtain ⟨hi, hall⟩ := hi
  refine KC.seq ?_
  refine KC.region ?_
  refine KT.step rfl rfl (K.lss rfl rfl) ?_
  refine KT.nil ?_
  refine thenK_n ?_
  refine KC.seq ?_
  refine KC.cond rfl (fun hc12 => ?_) (fun hc12 => ?_)
  · skip
    replace hc12 := of_decide_eq_true hc12
    have hil : i < m.length := by omega
    refine KC.skip ?_
    refine thenK_n ?_
    refine KC.seq ?_
    refine KC.block ?_
    refine KC.seq ?_
    refine KC.region ?_
    refine KT.idx rfl rfl rfl (by assumption) rfl (by omega) Try.underlying22 Try.size35 fun c13 cs13 hq13 => ?_
    refine KT.step rfl rfl (K.load rfl Try.agg35) ?_
    refine KT.step rfl rfl (K.assign rfl) ?_
    refine KT.nil ?_
    refine thenK_n ?_
    refine KC.seq ?_
    refine KC.region ?_
    refine KT.step rfl rfl (K.move rfl) ?_
    refine KT.step rfl rfl (K.len rfl hq13 Try.underlying35) ?_
    refine KT.step rfl rfl (K.move rfl) ?_
    refine KT.step rfl rfl (K.neq rfl rfl) ?_
    refine KT.step rfl rfl (K.move rfl) ?_
    refine KT.bcase (fun hb19 => ?_) (fun hb19 => ?_)
    · skip
      replace hb19 := of_decide_eq_true hb19
      refine KT.skip rfl rfl ?_
      refine KT.skip rfl rfl ?_
      refine KT.skip rfl rfl ?_
      refine KT.step rfl rfl (K.pick rfl (fun _ => rfl) (fun h => by cases h)) ?_
      refine KT.nil ?_
      refine thenK_n ?_
      refine KC.cond rfl (fun hc23 => ?_) (fun hc23 => ?_)
      · skip
        refine KC.seq ?_
        refine KC.region ?_
        refine KT.step rfl rfl (K.assign rfl) ?_
        refine KT.nil ?_
        refine thenK_n ?_
        refine KC.ret ?_
        refine blockK_r ?_
        refine thenK_r ?_
        refine thenK_r ?_
        refine blockK_r ?_
        refine thenK_r ?_
        refine ⟨.inl rfl, _, rfl, fin_b ?_⟩
        unfold wideB
        rw [all_false hil (by unfold rowB; rw [decide_eq_false hb19]; rfl)]
        rfl
      · cases hc23
    · skip
      replace hb19 := of_decide_eq_false hb19
      refine KT.step rfl rfl (K.move rfl) ?_
      refine KT.step rfl rfl (K.call2 rfl rfl plainTry_49 (within49 hq13 (hr _ (List.getElem_mem hil)) (by omega))) ?_
      refine KT.step rfl rfl (K.not rfl) ?_
      refine KT.step rfl rfl (K.pick rfl (fun h => by cases h) (fun _ => rfl)) ?_
      refine KT.nil ?_
      refine thenK_n ?_
      refine KC.cond rfl (fun hc23 => ?_) (fun hc23 => ?_)
      · skip
        refine KC.seq ?_
        refine KC.region ?_
        refine KT.step rfl rfl (K.assign rfl) ?_
        refine KT.nil ?_
        refine thenK_n ?_
        refine KC.ret ?_
        refine blockK_r ?_
        refine thenK_r ?_
        refine thenK_r ?_
        refine blockK_r ?_
        refine thenK_r ?_
        refine ⟨.inl rfl, _, rfl, fin_b ?_⟩
        unfold wideB
        rw [all_false hil (by unfold rowB; rw [show inB 1099511627776 m[i] = false by simpa using hc23, Bool.and_false])]
        rfl
      · skip
        refine KC.skip ?_
        refine blockK_n ?_
        refine thenK_n ?_
        refine KC.region ?_
        refine KT.step rfl rfl (K.add rfl rfl (wrap_id (by omega))) ?_
        refine KT.step rfl rfl (K.move rfl) ?_
        refine KT.nil ?_
        refine thenK_n ?_
        refine ⟨i + 1, ⟨by omega, ?_⟩, by omega, rfl, by simp [Go.Vm.look, extK]⟩
        rw [all_take _ hil, hall]
        unfold rowB
        rw [decide_eq_true (Classical.not_not.1 hb19)]
        simpa using hc23
  · skip
    replace hc12 := of_decide_eq_false hc12
    refine KC.exit ?_
    refine thenK_x ?_
    refine thenK_x ?_
    refine blockK_e ?_
    refine thenK_n ?_
    refine KC.seq ?_
    refine KC.region ?_
    refine KT.step rfl rfl (K.move rfl) ?_
    refine KT.step rfl rfl (K.len rfl hd Try.underlying22) ?_
    refine KT.step rfl rfl (K.move rfl) ?_
    refine KT.step rfl rfl (K.eql rfl rfl) ?_
    refine KT.step rfl rfl (K.move rfl) ?_
    refine KT.bcase (fun hb29 => ?_) (fun hb29 => ?_)
    · skip
      replace hb29 := of_decide_eq_true hb29
      refine KT.step rfl rfl (K.move rfl) ?_
      refine KT.step rfl rfl (K.gtr rfl rfl) ?_
      refine KT.step rfl rfl (K.pick rfl (fun _ => rfl) (fun h => by cases h)) ?_
      refine KT.step rfl rfl (K.move rfl) ?_
      refine KT.bcase (fun hb33 => ?_) (fun hb33 => ?_)
      · skip
        refine KT.step rfl rfl (K.move rfl) ?_
        refine KT.step rfl rfl (K.gtr rfl rfl) ?_
        refine KT.step rfl rfl (K.pick rfl (fun _ => rfl) (fun h => by cases h)) ?_
        refine KT.step rfl rfl (K.assign rfl) ?_
        refine KT.nil ?_
        refine thenK_n ?_
        refine KC.ret ?_
        refine ⟨.inl rfl, _, rfl, fin_b ?_⟩
        unfold wideB
        rw [all_end (i := i) (by omega) hall]
        first
          | (rw [decide_eq_false hb29]; rfl)
          | (rw [decide_eq_true hb29, hb33]; rfl)
          | (rw [decide_eq_true hb29, hb33]; simp)
      · skip
        refine KT.skip rfl rfl ?_
        refine KT.skip rfl rfl ?_
        refine KT.step rfl rfl (K.pick rfl (fun h => by cases h) (fun _ => rfl)) ?_
        refine KT.step rfl rfl (K.assign rfl) ?_
        refine KT.nil ?_
        refine thenK_n ?_
        refine KC.ret ?_
        refine ⟨.inl rfl, _, rfl, fin_b ?_⟩
        unfold wideB
        rw [all_end (i := i) (by omega) hall]
        first
          | (rw [decide_eq_false hb29]; rfl)
          | (rw [decide_eq_true hb29, hb33]; rfl)
          | (rw [decide_eq_true hb29, hb33]; simp)
    · skip
      replace hb29 := of_decide_eq_false hb29
      refine KT.skip rfl rfl ?_
      refine KT.skip rfl rfl ?_
      refine KT.step rfl rfl (K.pick rfl (fun h => by cases h) (fun _ => rfl)) ?_
      refine KT.step rfl rfl (K.move rfl) ?_
      refine KT.skip rfl rfl ?_
      refine KT.skip rfl rfl ?_
      refine KT.step rfl rfl (K.pick rfl (fun h => by cases h) (fun _ => rfl)) ?_
      refine KT.step rfl rfl (K.assign rfl) ?_
      refine KT.nil ?_
      refine thenK_n ?_
      refine KC.ret ?_
      refine ⟨.inl rfl, _, rfl, fin_b ?_⟩
      unfold wideB
      rw [all_end (i := i) (by omega) hall]
      first
        | (rw [decide_eq_false hb29]; rfl)
        | (rw [decide_eq_true hb29, hb33]; rfl)
        | (rw [decide_eq_true hb29, hb33]; simp)

def uniB (u : List (List Int)) (n : Nat) : Bool := wideB u n n && (decide (detR u n (List.range n) = 1) || decide (detR u n (List.range n) = -1))
theorem wideB_facts {m : List (List Int)} {r n : Nat} (h : wideB m r n = true) : m.length = r ∧ (∀ row ∈ m, row.length = n) ∧ Ent (2 ^ 40) m ∧ 0 < r ∧ 0 < n := by
  unfold wideB at h
  simp only [Bool.and_eq_true, decide_eq_true_eq, List.all_eq_true] at h
  obtain ⟨⟨⟨h1, h2⟩, h3⟩, h4⟩ := h
  refine ⟨by omega, fun row hrow => ?_, fun row hrow x hx => ?_, by omega, by omega⟩
  · have := h1 row hrow
    simp only [rowB, Bool.and_eq_true, decide_eq_true_eq] at this
    omega
  · have := h1 row hrow
    simp only [rowB, Bool.and_eq_true, inB, List.all_eq_true] at this
    have h5 := this.2 x hx
    simp only [inB1, Bool.and_eq_true, decide_eq_true_eq] at h5
    omega
set_option maxRecDepth 10000 in
theorem unimodular51 {d : DV} {u : List (List Int)} {n : Nat} (hd : Mat d u) (hl : u.length ≤ 9223372036854775807) (hr : ∀ row ∈ u, row.length ≤ 9223372036854775807) (hn : n ≤ 5) : DeepCall Try.prog 51 [d, DI (n : Int)] (DB (uniB u n)) := by
  refine deepCall_K 5 Try.func51 rfl (Nat.le_of_ble_eq_true rfl) fun M W0 => ?_
  refine KC.seq ?_
  refine KC.region ?_
  refine KT.step rfl rfl (K.assign rfl) ?_
  refine KT.nil ?_
  refine thenK_n ?_
  refine KC.seq ?_
  refine KC.seq ?_
  refine KC.region ?_
  refine KT.step rfl rfl (K.move rfl) ?_
  refine KT.step rfl rfl (K.move rfl) ?_
  refine KT.step rfl rfl (K.move rfl) ?_
  refine KT.step rfl rfl (K.call3 rfl rfl rfl plainTry_50 (wide50 hd hl hr)) ?_
  refine KT.step rfl rfl (K.not rfl) ?_
  refine KT.nil ?_
  refine thenK_n ?_
  refine KC.cond rfl (fun hc10 => ?_) (fun hc10 => ?_)
  · skip
    refine KC.seq ?_
    refine KC.region ?_
    refine KT.step rfl rfl (K.assign rfl) ?_
    refine KT.nil ?_
    refine thenK_n ?_
    refine KC.ret ?_
    refine thenK_r ?_
    refine ⟨.inl rfl, _, rfl, fin_b ?_⟩
    unfold uniB
    rw [show wideB u n n = false by simpa using hc10]
    rfl
  · skip
    have hw : wideB u n n = true := by simpa using hc10
    obtain ⟨w1, w2, w3, w4, w5⟩ := wideB_facts hw
    obtain ⟨r, c1, c2⟩ := detZ hd w2 w3 n hn (by omega) (List.range n) (firstD n) (firstD n) (by simp; omega) (fun q hq => by simpa using hq) (firstD_ints n) (firstD_ints n)
    have hb := w_small hn (detR_bd (L := 5) w3 n (List.range n) (by simp; omega))
    obtain ⟨neg, m, e, hm⟩ := big_shape c2
    subst e
    refine KC.skip ?_
    refine thenK_n ?_
    refine KC.seq ?_
    refine KC.region ?_
    refine KT.step rfl rfl (K.move rfl) ?_
    refine KT.step rfl rfl (K.move rfl) ?_
    refine KT.step rfl rfl (K.call1 rfl plainTry_84 (first84 (by omega))) ?_
    refine KT.step rfl rfl (K.move rfl) ?_
    refine KT.step rfl rfl (K.call1 rfl plainTry_84 (first84 (by omega))) ?_
    refine KT.step rfl rfl (K.call3 rfl rfl rfl plainTry_83 (c1)) ?_
    refine KT.step rfl rfl (K.alloc Try.zero87) ?_
    refine KT.step rfl rfl (K.storeN (v := .d (.agg [DB neg, m])) rfl rfl rfl (by simp [cellsX, Value.cells]) (by simp only [cellsX, List.map_cons, List.all_cons, hm.one]; rfl) Try.size87) ?_
    refine KT.nil ?_
    refine thenK_n ?_
    refine KC.seq ?_
    refine KC.region ?_
    refine KT.step rfl rfl (K.loadOAgg (m := 2) rfl rfl (by simp) Try.agg87 Try.size87 (by simp [splice, Value.cells]; omega)) ?_
    refine KT.step rfl rfl (K.call2 rfl rfl plainTry_85 (equalZ c2 hb (by decide) (by decide))) ?_
    refine KT.step rfl rfl (K.move rfl) ?_
    refine KT.bcase (fun hb19 => ?_) (fun hb19 => ?_)
    · skip
      refine KT.skip rfl rfl ?_
      refine KT.skip rfl rfl ?_
      refine KT.step rfl rfl (K.pick rfl (fun _ => rfl) (fun h => by cases h)) ?_
      refine KT.step rfl rfl (K.assign rfl) ?_
      refine KT.nil ?_
      refine thenK_n ?_
      refine KC.ret ?_
      refine ⟨.inl rfl, _, rfl, fin_b ?_⟩
      unfold uniB
      rw [hw, hb19]
      simp
    · skip
      refine KT.step rfl rfl (K.loadOAgg (m := 2) rfl rfl (by simp) Try.agg87 Try.size87 (by simp [splice, Value.cells]; omega)) ?_
      refine KT.step rfl rfl (K.call2 rfl rfl plainTry_85 (equalZ c2 hb (by decide) (by decide))) ?_
      refine KT.step rfl rfl (K.pick rfl (fun h => by cases h) (fun _ => rfl)) ?_
      refine KT.step rfl rfl (K.assign rfl) ?_
      refine KT.nil ?_
      refine thenK_n ?_
      refine KC.ret ?_
      refine ⟨.inl rfl, _, rfl, fin_b ?_⟩
      unfold uniB
      rw [hw, hb19]
      simp
end Go.Proofs.Ytlomhajhoecoiaa
