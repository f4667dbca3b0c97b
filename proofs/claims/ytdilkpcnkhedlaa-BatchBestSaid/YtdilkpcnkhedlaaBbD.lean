import Derived.Test.YtdilkpcnkhedlaaBbC
/-
  Batch: the best order.
-/
namespace Go.Proofs.Ytdilkpcnkhedlaa
open Go.Vm Go.Ht Go.Ba
theorem plainTry_26 : plainFn Try.prog 26 = true := by kernel_rfl
theorem plainTry_4 : plainFn Try.prog 4 = true := by kernel_rfl
set_option maxHeartbeats 1000000 in
set_option maxRecDepth 10000 in
theorem least26 {N : Int} {jd : DV} {J : List (List (Int × Int))} (hd : JbD jd J) (hl : J.length ≤ 9223372036854775807) (hr : ∀ j ∈ J, j.length ≤ 9223372036854775807) (hS : ShopOk N J) : DeepCall Try.prog 26 [.agg [DI N, jd]] (DI (leastT N J (ordersN J.flatten N.toNat 0))) := by
  have hRl := ords_len (row_3 hS) N.toNat 0
  have m4 := hS.m4
  have n9 := hS.n9
  have h6k : 6 ^ N.toNat ≤ 6 ^ 4 := Nat.pow_le_pow_right (by decide) (by omega)
  have h64 : (6 : Nat) ^ 4 = 1296 := rfl
  refine deepCall_K 5 Try.func26 rfl (Nat.le_of_ble_eq_true rfl) fun M W0 => ?_
  refine KC.seq ?_
  refine KC.region ?_
  refine KT.step rfl rfl (K.box rfl) ?_
  refine KT.step rfl rfl (K.assign rfl) ?_
  refine KT.nil ?_
  refine thenK_n ?_
  refine KC.seq ?_
  refine KC.region ?_
  refine KT.step rfl rfl (K.assign rfl) ?_
  refine KT.nil ?_
  refine thenK_n ?_
  refine KC.seq ?_
  refine KC.seq ?_
  refine KC.region ?_
  refine KT.step rfl rfl (K.loadOA [DI N, jd] rfl rfl (by decide) Try.agg24 Try.size24 rfl) ?_
  refine KT.step rfl rfl (K.call2 rfl rfl plainTry_55 (orders55 hd hS N.toNat 0 (by omega))) ?_
  refine KT.step rfl rfl (K.len rfl (ords_vec J.flatten N.toNat 0) Try.underlying95) ?_
  refine KT.step rfl rfl (K.move rfl) ?_
  refine KT.nil ?_
  refine thenK_n ?_
  refine KC.block ?_
  refine KC.loop (fun _ : Nat => _) (fun i => [(1, .optr 0 0), (3, .d (DI (leastT N J ((ordersN J.flatten N.toNat 0).take i)))), (9, .d (ordsV J.flatten N.toNat 0)), (10, .d (DI ((ordersN J.flatten N.toNat 0).length : Nat))), (11, .d (DI (i : Nat)))]) (fun i => i ≤ (ordersN J.flatten N.toNat 0).length) (fun i => (ordersN J.flatten N.toNat 0).length - i) 0 (Nat.zero_le _) rfl (by simp [Go.Vm.look, extK, enterK, leastT]) ?_
  intro i hi
  refine KC.seq ?_
  refine KC.region ?_
  refine KT.step rfl rfl (K.lss rfl rfl) ?_
  refine KT.nil ?_
  refine thenK_n ?_
  refine KC.seq ?_
  refine KC.cond rfl (fun hc12 => ?_) (fun hc12 => ?_)
  · skip
    replace hc12 := of_decide_eq_true hc12
    have hil : i < (ordersN J.flatten N.toNat 0).length := by omega
    have hrows := ord_rows (mem_orders.1 (List.getElem_mem hil))
    have hr1 := hrows.1
    have m1 := hS.m1
    refine KC.skip ?_
    refine thenK_n ?_
    refine KC.seq ?_
    refine KC.block ?_
    refine KC.seq ?_
    refine KC.region ?_
    refine KT.idx rfl rfl rfl (ords_vec J.flatten N.toNat 0) rfl (by omega) Try.underlying95 Try.size25 fun c13 cs13 hc => ?_
    refine KT.step rfl rfl (K.load rfl Try.agg25) ?_
    refine KT.step rfl rfl (K.assign rfl) ?_
    refine KT.nil ?_
    refine thenK_n ?_
    refine KC.seq ?_
    refine KC.region ?_
    refine KT.step rfl rfl (K.loadOA [DI N, jd] rfl rfl (by decide) Try.agg24 Try.size24 rfl) ?_
    refine KT.step rfl rfl (K.move rfl) ?_
    refine KT.step rfl rfl (K.call2 rfl rfl plainTry_21 (rmakespan21 hd hl hr hc (by omega) (fun r h => by have := hrows.2 r h; omega))) ?_
    refine KT.step rfl rfl (K.move rfl) ?_
    refine KT.step rfl rfl (K.extract rfl rfl) ?_
    refine KT.step rfl rfl (K.extract rfl rfl) ?_
    refine KT.step rfl rfl (K.assign rfl) ?_
    refine KT.step rfl rfl (K.assign rfl) ?_
    refine KT.nil ?_
    refine thenK_n ?_
    refine KC.seq ?_
    refine KC.region ?_
    refine KT.step rfl rfl (K.move rfl) ?_
    refine KT.step rfl rfl (K.eql rfl rfl) ?_
    refine KT.nil ?_
    refine thenK_n ?_
    refine KC.cond rfl (fun hc22 => ?_) (fun hc22 => ?_)
    · skip
      replace hc22 := of_decide_eq_true hc22
      refine KC.region ?_
      refine KT.step rfl rfl (K.move rfl) ?_
      refine KT.step rfl rfl (K.move rfl) ?_
      refine KT.step rfl rfl (K.min2 rfl rfl) ?_
      refine KT.step rfl rfl (K.assign rfl) ?_
      refine KT.nil ?_
      refine blockK_n ?_
      refine thenK_n ?_
      refine KC.region ?_
      refine KT.step rfl rfl (K.add rfl rfl (wrap_id (by omega))) ?_
      refine KT.step rfl rfl (K.move rfl) ?_
      refine KT.nil ?_
      refine thenK_n ?_
      exact ⟨i + 1, by omega, by omega, rfl, by simp [Go.Vm.look, extK, least_take hil, hc22]⟩
    · skip
      replace hc22 := of_decide_eq_false hc22
      refine KC.skip ?_
      refine blockK_n ?_
      refine thenK_n ?_
      refine KC.region ?_
      refine KT.step rfl rfl (K.add rfl rfl (wrap_id (by omega))) ?_
      refine KT.step rfl rfl (K.move rfl) ?_
      refine KT.nil ?_
      refine thenK_n ?_
      exact ⟨i + 1, by omega, by omega, rfl, by simp [Go.Vm.look, extK, least_take hil, hc22]⟩
  · skip
    replace hc12 := of_decide_eq_false hc12
    refine KC.exit ?_
    refine thenK_x ?_
    refine thenK_x ?_
    refine blockK_e ?_
    refine thenK_n ?_
    refine KC.seq ?_
    refine KC.region ?_
    refine KT.step rfl rfl (K.move rfl) ?_
    refine KT.step rfl rfl (K.assign rfl) ?_
    refine KT.nil ?_
    refine thenK_n ?_
    refine KC.ret ?_
    have et : (ordersN J.flatten N.toNat 0).take i = (ordersN J.flatten N.toNat 0) := List.take_of_length_le (by omega)
    rw [et]
    exact ⟨.inl rfl, _, rfl, fin_d rfl⟩
theorem rbest_span {N : Int} {jd : DV} {J : List (List (Int × Int))} (hd : JbD jd J) (hl : J.length ≤ 9223372036854775807) (hr : ∀ j ∈ J, j.length ≤ 9223372036854775807) {hs : List Int} (hB : BestOk N J hs) : DeepCall Try.prog 21 [.agg [DI N, jd], ordV hs (msO N.toNat J.flatten)] (.tup [DI (spanO J.flatten hs), DI 0]) := by
  have hS := shopB_iff.1 hB.ok
  have m4 := hS.m4
  have n9 := hS.n9
  obtain ⟨hs2, h1, h2⟩ := hB.order
  have h := rmakespan21 (N := N) hd hl hr (ord_mat hs (msO N.toNat J.flatten)) (by unfold ordO; rw [List.length_map, msO_len]; omega)
    (fun r hr => by
      obtain ⟨r0, hr0, rfl⟩ := List.mem_map.1 hr
      have := (ms_row hr0).1
      rw [insS_len]; omega)
  rw [show stE N J (ordO hs (msO N.toNat J.flatten)) = 0 from stE_zero.2 ⟨hs2, h1⟩, show spE N J (ordO hs (msO N.toNat J.flatten)) = spanO J.flatten hs from by unfold spE; rw [h1]; exact h2] at h
  exact h
set_option maxRecDepth 10000 in
theorem law4_no {N : Int} {jd : DV} {J : List (List (Int × Int))} (hd : JbD jd J) (hl : J.length ≤ 9223372036854775807) (hr : ∀ j ∈ J, j.length ≤ 9223372036854775807) (hb : shopB N J = false) : DeepCall Try.prog 4 [.agg [DI N, jd]] (DB true) := by
  refine deepCall_K 5 Try.func4 rfl (Nat.le_of_ble_eq_true rfl) fun M W0 => ?_
  refine KC.seq ?_
  refine KC.region ?_
  refine KT.step rfl rfl (K.box rfl) ?_
  refine KT.step rfl rfl (K.assign rfl) ?_
  refine KT.nil ?_
  refine thenK_n ?_
  refine KC.seq ?_
  refine KC.region ?_
  refine KT.step rfl rfl (K.loadOA [DI N, jd] rfl rfl (by decide) Try.agg24 Try.size24 rfl) ?_
  refine KT.step rfl rfl (K.call1 rfl plainTry_17 (of17 hd hl hr)) ?_
  refine KT.step rfl rfl (K.call1 rfl plainTry_24 (best_cut_no hb)) ?_
  refine KT.step rfl rfl (K.move rfl) ?_
  refine KT.step rfl rfl (K.extract rfl rfl) ?_
  refine KT.step rfl rfl (K.extract rfl rfl) ?_
  refine KT.step rfl rfl (K.extract rfl rfl) ?_
  refine KT.step rfl rfl (K.assign rfl) ?_
  refine KT.step rfl rfl (K.assign rfl) ?_
  refine KT.step rfl rfl (K.assign rfl) ?_
  refine KT.nil ?_
  refine thenK_n ?_
  refine KC.seq ?_
  refine KC.seq ?_
  refine KC.region ?_
  refine KT.step rfl rfl (K.loadOA [DI N, jd] rfl rfl (by decide) Try.agg24 Try.size24 rfl) ?_
  refine KT.step rfl rfl (K.call1 rfl plainTry_25 ((by have h := rvalid25 (N := N) hd hl hr; rw [hb] at h; exact h))) ?_
  refine KT.step rfl rfl (K.not rfl) ?_
  refine KT.nil ?_
  refine thenK_n ?_
  refine KC.cond rfl (fun hc17 => ?_) (fun hc17 => ?_)
  · skip
    refine KC.seq ?_
    refine KC.region ?_
    refine KT.step rfl rfl (K.move rfl) ?_
    refine KT.step rfl rfl (K.len (R := IsI) (l := []) rfl .nil Try.underlying25) ?_
    refine KT.step rfl rfl (K.eql rfl rfl) ?_
    refine KT.step rfl rfl (K.move rfl) ?_
    refine KT.bcase (fun hb21 => ?_) (fun hb21 => ?_)
    · skip
      refine KT.step rfl rfl (K.move rfl) ?_
      refine KT.step rfl rfl (K.eql rfl rfl) ?_
      refine KT.step rfl rfl (K.pick rfl (fun _ => rfl) (fun h => by cases h)) ?_
      refine KT.step rfl rfl (K.move rfl) ?_
      refine KT.bcase (fun hb25 => ?_) (fun hb25 => ?_)
      · skip
        refine KT.step rfl rfl (K.move rfl) ?_
        refine KT.step rfl rfl (K.eql rfl rfl) ?_
        refine KT.step rfl rfl (K.pick rfl (fun _ => rfl) (fun h => by cases h)) ?_
        refine KT.step rfl rfl (K.move rfl) ?_
        refine KT.bcase (fun hb29 => ?_) (fun hb29 => ?_)
        · skip
          refine KT.step rfl rfl (K.call0 plainTry_23 (awake23)) ?_
          refine KT.step rfl rfl (K.pick rfl (fun _ => rfl) (fun h => by cases h)) ?_
          refine KT.step rfl rfl (K.assign rfl) ?_
          refine KT.nil ?_
          refine thenK_n ?_
          refine KC.ret ?_
          refine thenK_r ?_
          exact ⟨.inl rfl, _, rfl, fin_d rfl⟩
        · skip
          exact absurd hb29 (by decide)
      · skip
        exact absurd hb25 (by decide)
    · skip
      exact absurd hb21 (by decide)
  · skip
    exact absurd hc17 (by decide)
set_option maxRecDepth 10000 in
theorem law4_ok {N : Int} {jd : DV} {J : List (List (Int × Int))} (hd : JbD jd J) (hl : J.length ≤ 9223372036854775807) (hr : ∀ j ∈ J, j.length ≤ 9223372036854775807) {hs : List Int} (hB : BestOk N J hs) : DeepCall Try.prog 4 [.agg [DI N, jd]] (DB true) := by
  refine deepCall_K 5 Try.func4 rfl (Nat.le_of_ble_eq_true rfl) fun M W0 => ?_
  refine KC.seq ?_
  refine KC.region ?_
  refine KT.step rfl rfl (K.box rfl) ?_
  refine KT.step rfl rfl (K.assign rfl) ?_
  refine KT.nil ?_
  refine thenK_n ?_
  refine KC.seq ?_
  refine KC.region ?_
  refine KT.step rfl rfl (K.loadOA [DI N, jd] rfl rfl (by decide) Try.agg24 Try.size24 rfl) ?_
  refine KT.step rfl rfl (K.call1 rfl plainTry_17 (of17 hd hl hr)) ?_
  refine KT.step rfl rfl (K.call1 rfl plainTry_24 (best_cut_ok hB)) ?_
  refine KT.step rfl rfl (K.move rfl) ?_
  refine KT.step rfl rfl (K.extract rfl rfl) ?_
  refine KT.step rfl rfl (K.extract rfl rfl) ?_
  refine KT.step rfl rfl (K.extract rfl rfl) ?_
  refine KT.step rfl rfl (K.assign rfl) ?_
  refine KT.step rfl rfl (K.assign rfl) ?_
  refine KT.step rfl rfl (K.assign rfl) ?_
  refine KT.nil ?_
  refine thenK_n ?_
  refine KC.seq ?_
  refine KC.seq ?_
  refine KC.region ?_
  refine KT.step rfl rfl (K.loadOA [DI N, jd] rfl rfl (by decide) Try.agg24 Try.size24 rfl) ?_
  refine KT.step rfl rfl (K.call1 rfl plainTry_25 ((by have h := rvalid25 (N := N) hd hl hr; rw [hB.ok] at h; exact h))) ?_
  refine KT.step rfl rfl (K.not rfl) ?_
  refine KT.nil ?_
  refine thenK_n ?_
  refine KC.cond rfl (fun hc17 => ?_) (fun hc17 => ?_)
  · skip
    exact absurd hc17 (by decide)
  · skip
    refine KC.skip ?_
    refine thenK_n ?_
    refine KC.seq ?_
    refine KC.region ?_
    refine KT.step rfl rfl (K.loadOA [DI N, jd] rfl rfl (by decide) Try.agg24 Try.size24 rfl) ?_
    refine KT.step rfl rfl (K.move rfl) ?_
    refine KT.step rfl rfl (K.call2 rfl rfl plainTry_21 (rbest_span hd hl hr hB)) ?_
    refine KT.step rfl rfl (K.move rfl) ?_
    refine KT.step rfl rfl (K.extract rfl rfl) ?_
    refine KT.step rfl rfl (K.extract rfl rfl) ?_
    refine KT.step rfl rfl (K.assign rfl) ?_
    refine KT.step rfl rfl (K.assign rfl) ?_
    refine KT.nil ?_
    refine thenK_n ?_
    refine KC.seq ?_
    refine KC.region ?_
    refine KT.step rfl rfl (K.move rfl) ?_
    refine KT.step rfl rfl (K.eql rfl rfl) ?_
    refine KT.step rfl rfl (K.move rfl) ?_
    refine KT.bcase (fun hb40 => ?_) (fun hb40 => ?_)
    · skip
      refine KT.step rfl rfl (K.move rfl) ?_
      refine KT.step rfl rfl (K.eql rfl rfl) ?_
      refine KT.step rfl rfl (K.pick rfl (fun _ => rfl) (fun h => by cases h)) ?_
      refine KT.step rfl rfl (K.move rfl) ?_
      refine KT.bcase (fun hb44 => ?_) (fun hb44 => ?_)
      · skip
        refine KT.step rfl rfl (K.move rfl) ?_
        refine KT.step rfl rfl (K.move rfl) ?_
        refine KT.step rfl rfl (K.eql rfl rfl) ?_
        refine KT.step rfl rfl (K.pick rfl (fun _ => rfl) (fun h => by cases h)) ?_
        refine KT.step rfl rfl (K.move rfl) ?_
        refine KT.bcase (fun hb49 => ?_) (fun hb49 => ?_)
        · skip
          refine KT.step rfl rfl (K.move rfl) ?_
          refine KT.step rfl rfl (K.loadOA [DI N, jd] rfl rfl (by decide) Try.agg24 Try.size24 rfl) ?_
          refine KT.step rfl rfl (K.call1 rfl plainTry_26 ((by have h := least26 (N := N) hd hl hr (shopB_iff.1 hB.ok); rw [least_best hB] at h; exact h))) ?_
          refine KT.step rfl rfl (K.eql rfl rfl) ?_
          refine KT.step rfl rfl (K.pick rfl (fun _ => rfl) (fun h => by cases h)) ?_
          refine KT.step rfl rfl (K.move rfl) ?_
          refine KT.bcase (fun hb55 => ?_) (fun hb55 => ?_)
          · skip
            refine KT.step rfl rfl (K.call0 plainTry_23 (awake23)) ?_
            refine KT.step rfl rfl (K.pick rfl (fun _ => rfl) (fun h => by cases h)) ?_
            refine KT.step rfl rfl (K.assign rfl) ?_
            refine KT.nil ?_
            refine thenK_n ?_
            refine KC.ret ?_
            exact ⟨.inl rfl, _, rfl, fin_d rfl⟩
          · skip
            exact absurd rfl (of_decide_eq_false hb55)
        · skip
          exact absurd rfl (of_decide_eq_false hb49)
      · skip
        exact absurd hb44 (by decide)
    · skip
      exact absurd hb40 (by decide)
theorem law4 {N : Int} {jd : DV} {J : List (List (Int × Int))} (hd : JbD jd J) (hl : J.length ≤ 9223372036854775807) (hr : ∀ j ∈ J, j.length ≤ 9223372036854775807) : DeepCall Try.prog 4 [.agg [DI N, jd]] (DB true) := by
  cases hb : shopB N J with
  | false => exact law4_no hd hl hr hb
  | true =>
    obtain ⟨hs, hB, _⟩ := bs_ok hb
    exact law4_ok hd hl hr hB
end Go.Proofs.Ytdilkpcnkhedlaa

