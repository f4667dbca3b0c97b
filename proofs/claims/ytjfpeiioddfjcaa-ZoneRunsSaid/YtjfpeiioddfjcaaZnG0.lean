import Derived.Test.YtjfpeiioddfjcaaZnF
import Derived.Test.YtjfpeiioddfjcaaZnU
/-
  Zones: what every law asks.
-/
namespace Go.Proofs.Ytjfpeiioddfjcaa
open Go.Vm Go.Zn
theorem awake21 : DeepCall Try.prog 21 [] (DB true) := runFn_sound (inl := fun f => f == 9999) (len := 3000) (k := 60) (f := 21) Try.mixed (by kernel_rfl)
set_option maxRecDepth 10000 in
theorem bound76 (b most : Int) (hm : 0 ≤ most ∧ most ≤ 1000000) : DeepCall Try.prog 76 [DI b, DI most] (DB (bndB most b)) := by
  refine deepCall_K 5 Try.func76 rfl (Nat.le_of_ble_eq_true rfl) fun M W0 => ?_
  refine KC.seq ?_
  refine KC.region ?_
  refine KT.step rfl rfl (K.assign rfl) ?_
  refine KT.nil ?_
  refine thenK_n ?_
  refine KC.seq ?_
  refine KC.region ?_
  refine KT.step rfl rfl (K.move rfl) ?_
  refine KT.step rfl rfl (K.eql rfl rfl) ?_
  refine KT.step rfl rfl (K.move rfl) ?_
  refine KT.bcase (fun hb7 => ?_) (fun hb7 => ?_)
  · skip
    replace hb7 := of_decide_eq_true hb7
    refine KT.skip rfl rfl ?_
    refine KT.skip rfl rfl ?_
    refine KT.skip rfl rfl ?_
    refine KT.skip rfl rfl ?_
    refine KT.skip rfl rfl ?_
    refine KT.skip rfl rfl ?_
    refine KT.skip rfl rfl ?_
    refine KT.skip rfl rfl ?_
    refine KT.skip rfl rfl ?_
    refine KT.skip rfl rfl ?_
    refine KT.skip rfl rfl ?_
    refine KT.step rfl rfl (K.pick rfl (fun _ => rfl) (fun h => by cases h)) ?_
    refine KT.step rfl rfl (K.assign rfl) ?_
    refine KT.nil ?_
    refine thenK_n ?_
    refine KC.ret ?_
    exact ⟨.inl rfl, _, rfl, fin_b (by unfold bndB; rw [decide_eq_true hb7]; rfl)⟩
  · skip
    replace hb7 := of_decide_eq_false hb7
    refine KT.step rfl rfl (K.move rfl) ?_
    refine KT.step rfl rfl (K.move rfl) ?_
    refine KT.step rfl rfl (K.mul rfl rfl (wrap_id (by omega))) ?_
    refine KT.step rfl rfl (K.geq rfl rfl) ?_
    refine KT.step rfl rfl (K.move rfl) ?_
    refine KT.bcase (fun hb12 => ?_) (fun hb12 => ?_)
    · skip
      replace hb12 := of_decide_eq_true hb12
      refine KT.step rfl rfl (K.move rfl) ?_
      refine KT.step rfl rfl (K.move rfl) ?_
      refine KT.step rfl rfl (K.mul rfl rfl (wrap_id (by omega))) ?_
      refine KT.step rfl rfl (K.add rfl rfl (wrap_id (by omega))) ?_
      refine KT.step rfl rfl (K.leq rfl rfl) ?_
      refine KT.step rfl rfl (K.pick rfl (fun _ => rfl) (fun h => by cases h)) ?_
      refine KT.step rfl rfl (K.pick rfl (fun h => by cases h) (fun _ => rfl)) ?_
      refine KT.step rfl rfl (K.assign rfl) ?_
      refine KT.nil ?_
      refine thenK_n ?_
      refine KC.ret ?_
      exact ⟨.inl rfl, _, rfl, fin_b (by unfold bndB; rw [decide_eq_false hb7, Bool.false_or, decide_eq_true (show -(2 * most) ≤ b by omega), Bool.true_and])⟩
    · skip
      replace hb12 := of_decide_eq_false hb12
      refine KT.skip rfl rfl ?_
      refine KT.skip rfl rfl ?_
      refine KT.skip rfl rfl ?_
      refine KT.skip rfl rfl ?_
      refine KT.skip rfl rfl ?_
      refine KT.step rfl rfl (K.pick rfl (fun h => by cases h) (fun _ => rfl)) ?_
      refine KT.step rfl rfl (K.pick rfl (fun h => by cases h) (fun _ => rfl)) ?_
      refine KT.step rfl rfl (K.assign rfl) ?_
      refine KT.nil ?_
      refine thenK_n ?_
      refine KC.ret ?_
      exact ⟨.inl rfl, _, rfl, fin_b (by unfold bndB; rw [decide_eq_false hb7, Bool.false_or, decide_eq_false (show ¬ -(2 * most) ≤ b by omega)]; rfl)⟩
set_option maxRecDepth 10000 in
theorem Valid36 {d : DV} {z : List (List Int)} (hd : Mat d z) (hl : z.length ≤ 9223372036854775807) (hr : ∀ r ∈ z, r.length ≤ 9223372036854775807) : DeepCall Try.prog 36 [d] (DB (validZ z)) := by
  refine deepCall_K 5 Try.func36 rfl (Nat.le_of_ble_eq_true rfl) fun M W0 => ?_
  refine KC.seq ?_
  refine KC.region ?_
  refine KT.step rfl rfl (K.assign rfl) ?_
  refine KT.nil ?_
  refine thenK_n ?_
  refine KC.seq ?_
  refine KC.seq ?_
  refine KC.region ?_
  refine KT.step rfl rfl (K.move rfl) ?_
  refine KT.step rfl rfl (K.len rfl hd Try.underlying22) ?_
  refine KT.step rfl rfl (K.move rfl) ?_
  refine KT.nil ?_
  refine thenK_n ?_
  refine KC.block ?_
  refine KC.loop (fun _ : Nat => []) (fun i => [(0, .d d), (7, .d d), (8, .d (DI (z.length : Nat))), (9, .d (DI (i : Nat)))]) (fun i => i ≤ z.length ∧ (z.take i).all (zrow z.length) = true) (fun i => z.length - i) 0 ⟨Nat.zero_le _, rfl⟩ rfl (by simp [Go.Vm.look, extK, enterK]) ?_
  intro i hi
  obtain ⟨hi, hall⟩ := hi
  refine KC.seq ?_
  refine KC.region ?_
  refine KT.step rfl rfl (K.lss rfl rfl) ?_
  refine KT.nil ?_
  refine thenK_n ?_
  refine KC.seq ?_
  refine KC.cond rfl (fun hc10 => ?_) (fun hc10 => ?_)
  · skip
    replace hc10 := of_decide_eq_true hc10
    refine KC.skip ?_
    refine thenK_n ?_
    refine KC.seq ?_
    refine KC.block ?_
    refine KC.seq ?_
    refine KC.region ?_
    refine KT.idx rfl rfl rfl (by assumption) rfl (by omega) Try.underlying22 Try.size23 fun c11 cs11 hq11 => ?_
    refine KT.step rfl rfl (K.load rfl Try.agg23) ?_
    refine KT.step rfl rfl (K.assign rfl) ?_
    refine KT.nil ?_
    refine thenK_n ?_
    refine KC.seq ?_
    refine KC.seq ?_
    refine KC.region ?_
    refine KT.step rfl rfl (K.move rfl) ?_
    refine KT.step rfl rfl (K.len rfl hq11 Try.underlying23) ?_
    refine KT.step rfl rfl (K.move rfl) ?_
    refine KT.step rfl rfl (K.len rfl hd Try.underlying22) ?_
    refine KT.step rfl rfl (K.neq rfl rfl) ?_
    refine KT.nil ?_
    refine thenK_n ?_
    refine KC.cond rfl (fun hc17 => ?_) (fun hc17 => ?_)
    · skip
      replace hc17 := of_decide_eq_true hc17
      refine KC.seq ?_
      refine KC.region ?_
      refine KT.step rfl rfl (K.assign rfl) ?_
      refine KT.nil ?_
      refine thenK_n ?_
      refine KC.ret ?_
      refine thenK_r ?_
      refine blockK_r ?_
      refine thenK_r ?_
      refine thenK_r ?_
      refine blockK_r ?_
      refine thenK_r ?_
      exact ⟨.inl rfl, _, rfl, fin_b (by
        unfold validZ
        rw [all_false (show i < z.length by omega) (show zrow z.length z[i] = false from by unfold zrow; rw [decide_eq_false (by omega)]; rfl), Bool.and_false])⟩
    · skip
      replace hc17 := of_decide_eq_false hc17
      refine KC.skip ?_
      refine thenK_n ?_
      refine KC.seq ?_
      refine KC.region ?_
      refine KT.step rfl rfl (K.move rfl) ?_
      refine KT.step rfl rfl (K.len rfl hq11 Try.underlying23) ?_
      refine KT.step rfl rfl (K.move rfl) ?_
      refine KT.nil ?_
      refine thenK_n ?_
      refine KC.block ?_
      have hrl := hr _ (List.getElem_mem (show i < z.length by omega))
      refine KC.loop (fun _ : Nat => []) (fun j => [(0, .d d), (7, .d d), (8, .d (DI (z.length : Nat))), (9, .d (DI (i : Nat))), (18, .d c11), (19, .d (DI (z[i].length : Nat))), (20, .d (DI (j : Nat)))]) (fun j => j ≤ z[i].length ∧ (z[i].take j).all (bndB 1000) = true) (fun j => z[i].length - j) 0 ⟨Nat.zero_le _, rfl⟩ rfl (by simp [Go.Vm.look, extK, enterK]) ?_
      intro j hj
      obtain ⟨hj, hall2⟩ := hj
      refine KC.seq ?_
      refine KC.region ?_
      refine KT.step rfl rfl (K.lss rfl rfl) ?_
      refine KT.nil ?_
      refine thenK_n ?_
      refine KC.seq ?_
      refine KC.cond rfl (fun hc21 => ?_) (fun hc21 => ?_)
      · skip
        replace hc21 := of_decide_eq_true hc21
        refine KC.skip ?_
        refine thenK_n ?_
        refine KC.seq ?_
        refine KC.block ?_
        refine KC.seq ?_
        refine KC.region ?_
        refine KT.idxI rfl rfl rfl (by assumption) rfl (by omega) Try.underlying23 Try.size3 fun cs22 => ?_
        refine KT.step rfl rfl (K.load rfl Try.agg3) ?_
        refine KT.step rfl rfl (K.assign rfl) ?_
        refine KT.nil ?_
        refine thenK_n ?_
        refine KC.seq ?_
        refine KC.region ?_
        refine KT.step rfl rfl (K.move rfl) ?_
        refine KT.step rfl rfl (K.call2 rfl rfl plainTry_76 (bound76 _ _ (by omega))) ?_
        refine KT.step rfl rfl (K.not rfl) ?_
        refine KT.nil ?_
        refine thenK_n ?_
        refine KC.cond rfl (fun hc26 => ?_) (fun hc26 => ?_)
        · skip
          rw [Bool.not_eq_true'] at hc26
          refine KC.seq ?_
          refine KC.region ?_
          refine KT.step rfl rfl (K.assign rfl) ?_
          refine KT.nil ?_
          refine thenK_n ?_
          refine KC.ret ?_
          refine blockK_r ?_
          refine thenK_r ?_
          refine thenK_r ?_
          refine blockK_r ?_
          refine blockK_r ?_
          refine thenK_r ?_
          refine thenK_r ?_
          refine blockK_r ?_
          refine thenK_r ?_
          exact ⟨.inl rfl, _, rfl, fin_b (by
            unfold validZ
            rw [all_false (show i < z.length by omega) (show zrow z.length z[i] = false from by unfold zrow; rw [all_false (show j < z[i].length by omega) hc26, Bool.and_false]), Bool.and_false])⟩
        · skip
          rw [Bool.not_eq_false'] at hc26
          refine KC.skip ?_
          refine blockK_n ?_
          refine thenK_n ?_
          refine KC.region ?_
          refine KT.step rfl rfl (K.add rfl rfl (wrap_id (by omega))) ?_
          refine KT.step rfl rfl (K.move rfl) ?_
          refine KT.nil ?_
          refine thenK_n ?_
          refine ⟨j + 1, ⟨by omega, ?_⟩, by omega, rfl, by simp [Go.Vm.look, extK]⟩
          rw [all_take _ (show j < z[i].length by omega), hall2, Bool.true_and, hc26]
      · skip
        replace hc21 := of_decide_eq_false hc21
        refine KC.exit ?_
        refine thenK_x ?_
        refine thenK_x ?_
        refine blockK_e ?_
        refine blockK_n ?_
        refine thenK_n ?_
        refine KC.region ?_
        refine KT.step rfl rfl (K.add rfl rfl (wrap_id (by omega))) ?_
        refine KT.step rfl rfl (K.move rfl) ?_
        refine KT.nil ?_
        refine thenK_n ?_
        refine ⟨i + 1, ⟨by omega, ?_⟩, by omega, rfl, by simp [Go.Vm.look, extK]⟩
        rw [all_take _ (show i < z.length by omega), hall, Bool.true_and]
        unfold zrow
        rw [decide_eq_true (by omega), Bool.true_and]
        exact all_end (by omega) hall2
  · skip
    replace hc10 := of_decide_eq_false hc10
    refine KC.exit ?_
    refine thenK_x ?_
    refine thenK_x ?_
    refine blockK_e ?_
    refine thenK_n ?_
    refine KC.seq ?_
    refine KC.region ?_
    refine KT.step rfl rfl (K.move rfl) ?_
    refine KT.step rfl rfl (K.len rfl hd Try.underlying22) ?_
    refine KT.step rfl rfl (K.geq rfl rfl) ?_
    refine KT.step rfl rfl (K.move rfl) ?_
    refine KT.bcase (fun hb32 => ?_) (fun hb32 => ?_)
    · skip
      replace hb32 := of_decide_eq_true hb32
      refine KT.step rfl rfl (K.move rfl) ?_
      refine KT.step rfl rfl (K.len rfl hd Try.underlying22) ?_
      refine KT.step rfl rfl (K.leq rfl rfl) ?_
      refine KT.step rfl rfl (K.pick rfl (fun _ => rfl) (fun h => by cases h)) ?_
      refine KT.step rfl rfl (K.assign rfl) ?_
      refine KT.nil ?_
      refine thenK_n ?_
      refine KC.ret ?_
      exact ⟨.inl rfl, _, rfl, fin_b (by
        unfold validZ
        rw [all_end (by omega) hall, Bool.and_true, decide_eq_true (show 2 ≤ z.length by omega), Bool.true_and]
        exact decide_eq_decide.2 (by omega))⟩
    · skip
      replace hb32 := of_decide_eq_false hb32
      refine KT.skip rfl rfl ?_
      refine KT.skip rfl rfl ?_
      refine KT.skip rfl rfl ?_
      refine KT.step rfl rfl (K.pick rfl (fun h => by cases h) (fun _ => rfl)) ?_
      refine KT.step rfl rfl (K.assign rfl) ?_
      refine KT.nil ?_
      refine thenK_n ?_
      refine KC.ret ?_
      exact ⟨.inl rfl, _, rfl, fin_b (by
        unfold validZ
        rw [decide_eq_false (show ¬ 2 ≤ z.length by omega)]; rfl)⟩

def resZ (e : Int) (n : Nat) (a : Nat → Nat → Int) : List (List Int) := if e = 0 then genM n n a else []
theorem resD_mat {e : Int} {n : Nat} {a : Nat → Nat → Int} : Mat (resD e n a) (resZ e n a) := by unfold resD resZ; split; exact zoneD_mat; exact .nil
theorem genM_len4 {n : Nat} (hn : n ≤ 4) (a : Nat → Nat → Int) : (genM n n a).length ≤ 9223372036854775807 ∧ ∀ r ∈ genM n n a, r.length ≤ 9223372036854775807 := by
  refine ⟨by simp [genM]; omega, fun r hr => ?_⟩
  obtain ⟨k, _, rfl⟩ := List.mem_map.1 hr
  simp; omega
theorem resZ_len {e : Int} {n : Nat} (hn : n ≤ 6) (a : Nat → Nat → Int) : (resZ e n a).length ≤ 9223372036854775807 ∧ ∀ r ∈ resZ e n a, r.length ≤ 9223372036854775807 := by
  unfold resZ
  split
  · refine ⟨by simp [genM]; omega, fun r hr => ?_⟩
    obtain ⟨k, _, rfl⟩ := List.mem_map.1 hr
    simp; omega
  · exact ⟨by simp, fun r hr => by simp at hr⟩
theorem tgE_eq (z : List (List Int)) : tgE z = if validZ z then (if emptyB z.length (tightM z.length (zf z)) then 5 else 0) else 2 := by
  unfold tgE opE
  simp [tgA]

theorem resZ_le (e : Int) {n : Nat} (hn : n ≤ 6) (a : Nat → Nat → Int) : (resZ e n a).length ≤ 6 := by unfold resZ; split; rw [genM_length]; exact hn; exact Nat.zero_le _
theorem tgE_ok {z : List (List Int)} (h : validZ z = true) : tgE z = if emptyB z.length (tightM z.length (zf z)) then 5 else 0 := by rw [tgE_eq, if_pos h]
theorem tgE_five {z : List (List Int)} (h : validZ z = true) : tgE z = 0 ∨ tgE z = 5 := by rw [tgE_ok h]; split; exact .inr rfl; exact .inl rfl
theorem tgE_bad {z : List (List Int)} (h : ¬ validZ z = true) : tgE z = 2 := by rw [tgE_eq, if_neg h]
theorem tgE_zero {z : List (List Int)} (h : tgE z = 0) : validZ z = true ∧ emptyB z.length (tightM z.length (zf z)) = false := by
  rw [tgE_eq] at h
  split at h
  · rename_i hv
    split at h
    · cases h
    · rename_i he; exact ⟨hv, Bool.eq_false_iff.2 he⟩
  · cases h
theorem tg_ok {z : List (List Int)} (h : tgE z = 0) : TightOk z.length (tightM z.length (zf z)) := tight_ok' (validZ_rows (tgE_zero h).1).2.1 (Go.Zn.lim5 (zf_lim (tgE_zero h).1)) (tgE_zero h).2
theorem tg_out {z : List (List Int)} (h : validZ z = true) : ∀ x y, z.length ≤ x ∨ z.length ≤ y → tightM z.length (zf z) x y = 0 := fun x y ho => (tight_out ho).trans (zf_out h ho)
theorem inOk_of {z w : List (List Int)} (h : inE z w = 0) : validZ z = true ∧ validZ w = true ∧ z.length = w.length := by
  unfold inE at h
  split at h
  · rename_i hk
    unfold inOk at hk
    simp only [Bool.and_eq_true, decide_eq_true_eq] at hk
    exact ⟨hk.1.1, hk.1.2, hk.2⟩
  · cases h
theorem inE_ok {z w : List (List Int)} (h1 : validZ z = true) (h2 : validZ w = true) (h3 : z.length = w.length) : inE z w = 0 ∧ inOk z w = true := by
  have : inOk z w = true := by unfold inOk; rw [h1, h2, decide_eq_true h3]; rfl
  exact ⟨if_pos this, this⟩
theorem inE_two {z w : List (List Int)} (h : inE z w ≠ 0) : inE z w = 2 ∧ inE w z = 2 := by
  have hn : ¬ inOk z w = true := fun hk => h (if_pos hk)
  refine ⟨if_neg hn, if_neg fun hk => hn ?_⟩
  unfold inOk at hk ⊢
  simp only [Bool.and_eq_true, decide_eq_true_eq] at hk ⊢
  exact ⟨⟨hk.1.2, hk.1.1⟩, hk.2.symm⟩
/-- What the zones include tells whether they are equal. -/
theorem equal_iff {z w : List (List Int)} (h1 : validZ z = true) (h2 : validZ w = true) (h3 : z.length = w.length) :
    (inB z w && inB w z) = (decide (tgE z = tgE w) && decide (resZ (tgE z) z.length (tightM z.length (zf z)) = resZ (tgE w) w.length (tightM w.length (zf w)))) := by
  have hn := (validZ_rows h1).2.1
  have gz : ZgM 5000 (Go.Zn.flo w.length (zf z)) := Go.Zn.lim5 (zf_lim h1)
  have gw : ZgM 5000 (Go.Zn.flo w.length (zf w)) := Go.Zn.lim5 (zf_lim h2)
  have e1 : inB z w = (emptyB w.length (tightM w.length (zf w)) || inclB w.length (zf z) (tightM w.length (zf w))) := by unfold inB; rw [(inE_ok h1 h2 h3).2, Bool.true_and]
  have e2 : inB w z = (emptyB w.length (tightM w.length (zf z)) || inclB w.length (zf w) (tightM w.length (zf z))) := by unfold inB; rw [(inE_ok h2 h1 h3.symm).2, Bool.true_and, h3]
  rw [e1, e2, tgE_ok h1, tgE_ok h2, h3]
  rw [h3] at hn
  cases k1 : emptyB w.length (tightM w.length (zf z)) with
  | true =>
    cases k2 : emptyB w.length (tightM w.length (zf w)) with
    | true => simp [resZ]
    | false =>
      cases k3 : inclB w.length (zf z) (tightM w.length (zf w)) with
      | false => simp
      | true =>
        have := greatest_nonempty hn gz (tight_ok' hn gw k2) (fun i j hi hj => inclB_iff.1 k3 i j hi hj)
        rw [this] at k1; cases k1
  | false =>
    cases k2 : emptyB w.length (tightM w.length (zf w)) with
    | true =>
      cases k3 : inclB w.length (zf w) (tightM w.length (zf z)) with
      | false => simp
      | true =>
        have := greatest_nonempty hn gw (tight_ok' hn gz k1) (fun i j hi hj => inclB_iff.1 k3 i j hi hj)
        rw [this] at k2; cases k2
    | false =>
      simp only [Bool.false_or, Bool.false_eq_true, if_false, decide_true, Bool.true_and]
      rw [show resZ 0 w.length (tightM w.length (zf z)) = genM w.length w.length (tightM w.length (zf z)) from rfl, show resZ 0 w.length (tightM w.length (zf w)) = genM w.length w.length (tightM w.length (zf w)) from rfl]
      by_cases hg : genM w.length w.length (tightM w.length (zf z)) = genM w.length w.length (tightM w.length (zf w))
      · rw [decide_eq_true hg]
        have a1 : inclB w.length (zf z) (tightM w.length (zf w)) = true := inclB_true fun p q hp hq => by
          rw [← genM_ext' hg hp hq]; exact tight_le_a hn gz p q hp hq
        have a2 : inclB w.length (zf w) (tightM w.length (zf z)) = true := inclB_true fun p q hp hq => by
          rw [genM_ext' hg hp hq]; exact tight_le_a hn gw p q hp hq
        rw [a1, a2]; rfl
      · rw [decide_eq_false hg]
        cases a1 : inclB w.length (zf z) (tightM w.length (zf w)) with
        | false => rfl
        | true =>
          cases a2 : inclB w.length (zf w) (tightM w.length (zf z)) with
          | false => rfl
          | true =>
            refine absurd (genM_eq' fun i hi j hj => Int.le_antisymm ?_ ?_) hg
            · exact tight_greatest hn gw (tight_ok' hn gz k1) (fun i j hi hj => inclB_iff.1 a2 i j hi hj) i j hi hj
            · exact tight_greatest hn gz (tight_ok' hn gw k2) (fun i j hi hj => inclB_iff.1 a1 i j hi hj) i j hi hj
def tgZ (z : List (List Int)) : List (List Int) := resZ (tgE z) z.length (tightM z.length (zf z))
theorem tgZ_le {z : List (List Int)} (h : z.length ≤ 6) : (tgZ z).length ≤ 6 := resZ_le _ h _
/-- Tight twice. -/
theorem tg_tg {z : List (List Int)} (h : tgE z = 0) : (tgE (tgZ z) = 0 → tgZ (tgZ z) = tgZ z) ∧ (tgE (tgZ z) ≠ 0 → tgE (tgZ z) = 2 ∧ validZ (tgZ z) = false) := by
  have hv := (tgE_zero h).1
  have hn := (validZ_rows hv).2.1
  have e : tgZ z = genM z.length z.length (tightM z.length (zf z)) := by unfold tgZ resZ; rw [if_pos h]
  have key : validZ (tgZ z) = true → tgE (tgZ z) = 0 ∧ tgZ (tgZ z) = tgZ z := fun hv' => by
    have hv2 := hv'
    rw [e] at hv2
    obtain ⟨s1, s2, s3⟩ := valid_self hn (tg_ok h) (tg_out hv) hv2
    have e0 : tgE (tgZ z) = 0 := by
      rw [tgE_ok hv', e, s2, genM_length, s1, (tgE_zero h).2]; rfl
    refine ⟨e0, ?_⟩
    show resZ (tgE (tgZ z)) (tgZ z).length (tightM (tgZ z).length (zf (tgZ z))) = tgZ z
    rw [e0, e, s2, genM_length, s1]; rfl
  constructor
  · intro h0
    exact (key (tgE_zero h0).1).2
  · intro h0
    have : ¬ validZ (tgZ z) = true := fun hv' => h0 (key hv').1
    exact ⟨tgE_bad this, Bool.eq_false_iff.2 this⟩
end Go.Proofs.Ytjfpeiioddfjcaa

