import Derived.Test.YtdilkpcnkhedlaaBaY
import Derived.Test.YtdilkpcnkhedlaaBaZ
/-
  Batch: no order is shorter than the best one.
-/
namespace Go.Proofs.Ytdilkpcnkhedlaa
open Go.Vm Go.Ht Go.Ba
theorem plainTry_8 : plainFn Try.prog 8 = true := by kernel_rfl
theorem bestT {N : Int} {jd : DV} {J : List (List (Int × Int))} (hd : JbD jd J) (hl : J.length ≤ 9223372036854775807) (hr : ∀ j ∈ J, j.length ≤ 9223372036854775807) : DeepCall Try.prog 24 [.agg [DI N, jd]] (.tup [bsV N J, DI (bsN N J), DI (bsE N J)]) := by
  cases h : shopB N J with
  | false =>
    obtain ⟨a, b, c⟩ := bs_no h
    rw [a, b, c]; exact best_no hd hl hr h
  | true =>
    obtain ⟨hs, h1, a, b, c⟩ := bs_ok h
    rw [a, b, c]; exact best_ok hd hl hr h h1.sh
theorem best_cut {N : Int} {J : List (List (Int × Int))} : DeepCall Try.prog 24 [.agg [DI N, jobsV (cutJ J)]] (.tup [bsV N J, DI (bsN N J), DI (bsE N J)]) := by
  have h := bestT (N := N) (jobsV_ok (cutJ J)) (by have := cutJ_len J; omega) (fun j hj => by have := cutJ_row j hj; omega)
  cases hb : shopB N J with
  | false =>
    obtain ⟨a, b, c⟩ := bs_no hb
    obtain ⟨a2, b2, c2⟩ := bs_no (cutJ_shop.trans hb)
    rw [a, b, c]; rw [a2, b2, c2] at h; exact h
  | true => rw [cutJ_ok hb] at h ⊢; exact h
theorem best_cut_no {N : Int} {J : List (List (Int × Int))} (hb : shopB N J = false) : DeepCall Try.prog 24 [.agg [DI N, jobsV (cutJ J)]] (.tup [Dnil, DI 0, DI 2]) := by
  have h := best_cut (N := N) (J := J)
  obtain ⟨a, b, c⟩ := bs_no hb
  rw [a, b, c] at h; exact h
theorem best_cut_ok {N : Int} {J : List (List (Int × Int))} {hs : List Int} (hB : BestOk N J hs) : DeepCall Try.prog 24 [.agg [DI N, jobsV (cutJ J)]] (.tup [ordV hs (msO N.toNat J.flatten), DI (spanO J.flatten hs), DI 0]) := by
  have h := best_cut (N := N) (J := J)
  obtain ⟨hs2, h1, a, b, c⟩ := bs_ok hB.ok
  have e : hs2 = hs := by have := h1.sh; rw [hB.sh] at this; cases this; rfl
  subst e
  rw [a, b, c] at h; exact h
theorem stE_no {N : Int} {J : List (List (Int × Int))} {l : List (List Int)} (h : shopB N J = false) : stE N J l = 2 := by unfold stE; rw [h]; rfl
/-- The makespan of the best order. -/
theorem best_span {N : Int} {J : List (List (Int × Int))} {hs : List Int} (hB : BestOk N J hs) : DeepCall Try.prog 20 [.agg [DI N, jobsV (cutJ J)], ordV hs (msO N.toNat J.flatten)] (.tup [DI (spanO J.flatten hs), DI 0]) := by
  have hS := shopB_iff.1 hB.ok
  have m4 := hS.m4
  have n9 := hS.n9
  obtain ⟨hs2, h1, h2⟩ := hB.order
  have h := makespan20 (N := N) (jobsV_ok (cutJ J)) (by have := cutJ_len J; omega) (fun j hj => by have := cutJ_row j hj; omega) (ord_mat hs (msO N.toNat J.flatten)) (by unfold ordO; rw [List.length_map, msO_len]; omega)
    (fun r hr => by
      obtain ⟨r0, hr0, rfl⟩ := List.mem_map.1 hr
      have := (ms_row hr0).1
      rw [insS_len]; omega)
  rw [cutJ_ok hB.ok, show stE N J (ordO hs (msO N.toNat J.flatten)) = 0 from stE_zero.2 ⟨hs2, h1⟩, show spE N J (ordO hs (msO N.toNat J.flatten)) = spanO J.flatten hs from by unfold spE; rw [h1]; exact h2] at h
  rw [cutJ_ok hB.ok]
  exact h
set_option maxRecDepth 10000 in
theorem law8_no {N : Int} {jd : DV} {J : List (List (Int × Int))} (hd : JbD jd J) (hl : J.length ≤ 9223372036854775807) (hr : ∀ j ∈ J, j.length ≤ 9223372036854775807) {ld : DV} {l : List (List Int)} (hm : Mat ld l) (hll : l.length ≤ 9223372036854775807) (hlr : ∀ r ∈ l, r.length ≤ 9223372036854775807) (hb : shopB N J = false) : DeepCall Try.prog 8 [.agg [DI N, jd], ld] (DB true) := by
  refine deepCall_K 5 Try.func8 rfl (Nat.le_of_ble_eq_true rfl) fun M W0 => ?_
  refine KC.seq ?_
  refine KC.region ?_
  refine KT.step rfl rfl (K.box rfl) ?_
  refine KT.step rfl rfl (K.assign rfl) ?_
  refine KT.nil ?_
  refine thenK_n ?_
  refine KC.seq ?_
  refine KC.region ?_
  refine KT.step rfl rfl (K.loadOA [DI N, jd] rfl rfl (by decide) Try.agg24 Try.size24 rfl) ?_
  refine KT.step rfl rfl (K.call1 rfl plainTry_17 (of17 hd hl hr)) ?_
  refine KT.step rfl rfl (K.call1 rfl plainTry_24 (best_cut_no hb)) ?_
  refine KT.step rfl rfl (K.move rfl) ?_
  refine KT.step rfl rfl (K.extract rfl rfl) ?_
  refine KT.step rfl rfl (K.extract rfl rfl) ?_
  refine KT.step rfl rfl (K.extract rfl rfl) ?_
  refine KT.step rfl rfl (K.assign rfl) ?_
  refine KT.step rfl rfl (K.assign rfl) ?_
  refine KT.step rfl rfl (K.assign rfl) ?_
  refine KT.nil ?_
  refine thenK_n ?_
  refine KC.seq ?_
  refine KC.region ?_
  refine KT.step rfl rfl (K.loadOA [DI N, jd] rfl rfl (by decide) Try.agg24 Try.size24 rfl) ?_
  refine KT.step rfl rfl (K.call1 rfl plainTry_17 (of17 hd hl hr)) ?_
  refine KT.step rfl rfl (K.move rfl) ?_
  refine KT.step rfl rfl (K.call1 rfl plainTry_18 (rows18 hm hll (getD_rows hlr))) ?_
  refine KT.step rfl rfl (K.call2 rfl rfl plainTry_20 ((by have h := makespan_cut (N := N) hd hl hr hm hll hlr; rw [stE_no hb] at h; exact h))) ?_
  refine KT.step rfl rfl (K.move rfl) ?_
  refine KT.step rfl rfl (K.extract rfl rfl) ?_
  refine KT.step rfl rfl (K.extract rfl rfl) ?_
  refine KT.step rfl rfl (K.assign rfl) ?_
  refine KT.step rfl rfl (K.assign rfl) ?_
  refine KT.nil ?_
  refine thenK_n ?_
  refine KC.seq ?_
  refine KC.seq ?_
  refine KC.region ?_
  refine KT.step rfl rfl (K.move rfl) ?_
  refine KT.step rfl rfl (K.neq rfl rfl) ?_
  refine KT.nil ?_
  refine thenK_n ?_
  refine KC.cond rfl (fun hc28 => ?_) (fun hc28 => ?_)
  · skip
    refine KC.seq ?_
    refine KC.region ?_
    refine KT.step rfl rfl (K.move rfl) ?_
    refine KT.step rfl rfl (K.eql rfl rfl) ?_
    refine KT.step rfl rfl (K.move rfl) ?_
    refine KT.bcase (fun hb31 => ?_) (fun hb31 => ?_)
    · skip
      refine KT.step rfl rfl (K.move rfl) ?_
      refine KT.step rfl rfl (K.eql rfl rfl) ?_
      refine KT.step rfl rfl (K.pick rfl (fun _ => rfl) (fun h => by cases h)) ?_
      refine KT.step rfl rfl (K.move rfl) ?_
      refine KT.bcase (fun hb35 => ?_) (fun hb35 => ?_)
      · skip
        refine KT.step rfl rfl (K.call0 plainTry_23 (awake23)) ?_
        refine KT.step rfl rfl (K.pick rfl (fun _ => rfl) (fun h => by cases h)) ?_
        refine KT.step rfl rfl (K.assign rfl) ?_
        refine KT.nil ?_
        refine thenK_n ?_
        refine KC.ret ?_
        refine thenK_r ?_
        exact ⟨.inl rfl, _, rfl, fin_d rfl⟩
      · skip
        exact absurd hb35 (by decide)
    · skip
      exact absurd hb31 (by decide)
  · skip
    exact absurd hc28 (by decide)
set_option maxRecDepth 10000 in
theorem law8_ok {N : Int} {jd : DV} {J : List (List (Int × Int))} (hd : JbD jd J) (hl : J.length ≤ 9223372036854775807) (hr : ∀ j ∈ J, j.length ≤ 9223372036854775807) {ld : DV} {l : List (List Int)} (hm : Mat ld l) (hll : l.length ≤ 9223372036854775807) (hlr : ∀ r ∈ l, r.length ≤ 9223372036854775807) {hs : List Int} (hB : BestOk N J hs) : DeepCall Try.prog 8 [.agg [DI N, jd], ld] (DB true) := by
  refine deepCall_K 5 Try.func8 rfl (Nat.le_of_ble_eq_true rfl) fun M W0 => ?_
  refine KC.seq ?_
  refine KC.region ?_
  refine KT.step rfl rfl (K.box rfl) ?_
  refine KT.step rfl rfl (K.assign rfl) ?_
  refine KT.nil ?_
  refine thenK_n ?_
  refine KC.seq ?_
  refine KC.region ?_
  refine KT.step rfl rfl (K.loadOA [DI N, jd] rfl rfl (by decide) Try.agg24 Try.size24 rfl) ?_
  refine KT.step rfl rfl (K.call1 rfl plainTry_17 (of17 hd hl hr)) ?_
  refine KT.step rfl rfl (K.call1 rfl plainTry_24 (best_cut_ok hB)) ?_
  refine KT.step rfl rfl (K.move rfl) ?_
  refine KT.step rfl rfl (K.extract rfl rfl) ?_
  refine KT.step rfl rfl (K.extract rfl rfl) ?_
  refine KT.step rfl rfl (K.extract rfl rfl) ?_
  refine KT.step rfl rfl (K.assign rfl) ?_
  refine KT.step rfl rfl (K.assign rfl) ?_
  refine KT.step rfl rfl (K.assign rfl) ?_
  refine KT.nil ?_
  refine thenK_n ?_
  refine KC.seq ?_
  refine KC.region ?_
  refine KT.step rfl rfl (K.loadOA [DI N, jd] rfl rfl (by decide) Try.agg24 Try.size24 rfl) ?_
  refine KT.step rfl rfl (K.call1 rfl plainTry_17 (of17 hd hl hr)) ?_
  refine KT.step rfl rfl (K.move rfl) ?_
  refine KT.step rfl rfl (K.call1 rfl plainTry_18 (rows18 hm hll (getD_rows hlr))) ?_
  refine KT.step rfl rfl (K.call2 rfl rfl plainTry_20 (makespan_cut (N := N) hd hl hr hm hll hlr)) ?_
  refine KT.step rfl rfl (K.move rfl) ?_
  refine KT.step rfl rfl (K.extract rfl rfl) ?_
  refine KT.step rfl rfl (K.extract rfl rfl) ?_
  refine KT.step rfl rfl (K.assign rfl) ?_
  refine KT.step rfl rfl (K.assign rfl) ?_
  refine KT.nil ?_
  refine thenK_n ?_
  refine KC.seq ?_
  refine KC.seq ?_
  refine KC.region ?_
  refine KT.step rfl rfl (K.move rfl) ?_
  refine KT.step rfl rfl (K.neq rfl rfl) ?_
  refine KT.nil ?_
  refine thenK_n ?_
  refine KC.cond rfl (fun hc28 => ?_) (fun hc28 => ?_)
  · skip
    exact absurd hc28 (by decide)
  · skip
    refine KC.skip ?_
    refine thenK_n ?_
    refine KC.seq ?_
    refine KC.region ?_
    refine KT.step rfl rfl (K.loadOA [DI N, jd] rfl rfl (by decide) Try.agg24 Try.size24 rfl) ?_
    refine KT.step rfl rfl (K.call1 rfl plainTry_17 (of17 hd hl hr)) ?_
    refine KT.step rfl rfl (K.move rfl) ?_
    refine KT.step rfl rfl (K.call2 rfl rfl plainTry_20 (best_span hB)) ?_
    refine KT.step rfl rfl (K.move rfl) ?_
    refine KT.step rfl rfl (K.extract rfl rfl) ?_
    refine KT.step rfl rfl (K.extract rfl rfl) ?_
    refine KT.step rfl rfl (K.assign rfl) ?_
    refine KT.step rfl rfl (K.assign rfl) ?_
    refine KT.nil ?_
    refine thenK_n ?_
    refine KC.seq ?_
    refine KC.region ?_
    refine KT.step rfl rfl (K.move rfl) ?_
    refine KT.step rfl rfl (K.eql rfl rfl) ?_
    refine KT.step rfl rfl (K.move rfl) ?_
    refine KT.bcase (fun hb47 => ?_) (fun hb47 => ?_)
    · skip
      refine KT.step rfl rfl (K.move rfl) ?_
      refine KT.step rfl rfl (K.move rfl) ?_
      refine KT.step rfl rfl (K.eql rfl rfl) ?_
      refine KT.step rfl rfl (K.pick rfl (fun _ => rfl) (fun h => by cases h)) ?_
      refine KT.step rfl rfl (K.move rfl) ?_
      refine KT.bcase (fun hb52 => ?_) (fun hb52 => ?_)
      · skip
        refine KT.step rfl rfl (K.move rfl) ?_
        refine KT.step rfl rfl (K.neq rfl rfl) ?_
        refine KT.step rfl rfl (K.move rfl) ?_
        refine KT.bcase (fun hb55 => ?_) (fun hb55 => ?_)
        · skip
          refine KT.skip rfl rfl ?_
          refine KT.skip rfl rfl ?_
          refine KT.skip rfl rfl ?_
          refine KT.step rfl rfl (K.pick rfl (fun _ => rfl) (fun h => by cases h)) ?_
          refine KT.step rfl rfl (K.pick rfl (fun _ => rfl) (fun h => by cases h)) ?_
          refine KT.step rfl rfl (K.move rfl) ?_
          refine KT.step rfl rfl (K.call0 plainTry_23 (awake23)) ?_
          refine KT.step rfl rfl (K.pick rfl (fun _ => rfl) (fun h => by cases h)) ?_
          refine KT.step rfl rfl (K.assign rfl) ?_
          refine KT.nil ?_
          refine thenK_n ?_
          refine KC.ret ?_
          exact ⟨.inl rfl, _, rfl, fin_d rfl⟩
        · skip
          have h0 : stE N J l = 0 := Classical.not_not.1 (of_decide_eq_false hb55)
          obtain ⟨hs2, hst⟩ := stE_zero.1 h0
          have hge : spanO J.flatten hs ≤ spE N J l := by
            have h := hB.le_order hst
            unfold spE; rw [hst]; exact h
          refine KT.step rfl rfl (K.move rfl) ?_
          refine KT.step rfl rfl (K.move rfl) ?_
          refine KT.step rfl rfl (K.geq rfl rfl) ?_
          refine KT.step rfl rfl (K.pick rfl (fun h => by cases h) (fun _ => rfl)) ?_
          refine KT.step rfl rfl (K.pick rfl (fun _ => rfl) (fun h => by cases h)) ?_
          refine KT.step rfl rfl (K.move rfl) ?_
          refine KT.bcase (fun hb61 => ?_) (fun hb61 => ?_)
          · skip
            refine KT.step rfl rfl (K.call0 plainTry_23 (awake23)) ?_
            refine KT.step rfl rfl (K.pick rfl (fun _ => rfl) (fun h => by cases h)) ?_
            refine KT.step rfl rfl (K.assign rfl) ?_
            refine KT.nil ?_
            refine thenK_n ?_
            refine KC.ret ?_
            exact ⟨.inl rfl, _, rfl, fin_d rfl⟩
          · skip
            exact absurd hb61 (by rw [Bool.not_eq_false, decide_eq_true_iff]; exact hge)
      · skip
        exact absurd rfl (of_decide_eq_false hb52)
    · skip
      exact absurd hb47 (by decide)
theorem law8 {N : Int} {jd : DV} {J : List (List (Int × Int))} (hd : JbD jd J) (hl : J.length ≤ 9223372036854775807) (hr : ∀ j ∈ J, j.length ≤ 9223372036854775807) {ld : DV} {l : List (List Int)} (hm : Mat ld l) (hll : l.length ≤ 9223372036854775807) (hlr : ∀ r ∈ l, r.length ≤ 9223372036854775807) : DeepCall Try.prog 8 [.agg [DI N, jd], ld] (DB true) := by
  cases hb : shopB N J with
  | false => exact law8_no hd hl hr hm hll hlr hb
  | true =>
    obtain ⟨hs, hB, _⟩ := bs_ok hb
    exact law8_ok hd hl hr hm hll hlr hB
end Go.Proofs.Ytdilkpcnkhedlaa

