import Derived.Test.YtmfbakipfobaeaaHtPd
import Derived.Test.YtmfbakipfobaeaaHtPq
/-
  Heat: the least number of matches.
-/
namespace Go.Proofs.Ytmfbakipfobaeaa
open Go.Vm Go.Ht
theorem plainTry_40 : plainFn Try.prog 40 = true := by kernel_rfl
theorem vld_ok {d0 d1 : DV} {hot cold : List Int} (hh : Ints d0 hot) (hc : Ints d1 cold) (hhl : hot.length ≤ 9223372036854775807) (hcl : cold.length ≤ 9223372036854775807) (hok : okM hot cold = true) : DeepCall Try.prog 57 [d0, d1] (DB true) := by
  have h := validLoads57 hh hc hhl hcl
  rwa [hok] at h
theorem vld_no {d0 d1 : DV} {hot cold : List Int} (hh : Ints d0 hot) (hc : Ints d1 cold) (hhl : hot.length ≤ 9223372036854775807) (hcl : cold.length ≤ 9223372036854775807) (hno : okM hot cold = false) : DeepCall Try.prog 57 [d0, d1] (DB false) := by
  have h := validLoads57 hh hc hhl hcl
  rwa [hno] at h
set_option maxRecDepth 10000 in
theorem matches_no {d0 d1 : DV} {hot cold : List Int} (hh : Ints d0 hot) (hc : Ints d1 cold) (hhl : hot.length ≤ 9223372036854775807) (hcl : cold.length ≤ 9223372036854775807) (hno : okM hot cold = false) : DeepCall Try.prog 37 [d0, d1] (.tup [DI 0, DI 2]) := by
  refine deepCall_K 5 Try.func37 rfl (Nat.le_of_ble_eq_true rfl) fun M W0 => ?_
  refine KC.seq ?_
  refine KC.region ?_
  refine KT.step rfl rfl (K.assign rfl) ?_
  refine KT.step rfl rfl (K.assign rfl) ?_
  refine KT.nil ?_
  refine thenK_n ?_
  refine KC.seq ?_
  refine KC.seq ?_
  refine KC.region ?_
  refine KT.step rfl rfl (K.move rfl) ?_
  refine KT.step rfl rfl (K.move rfl) ?_
  refine KT.step rfl rfl (K.call2 rfl rfl plainTry_57 (vld_no hh hc hhl hcl hno)) ?_
  refine KT.step rfl rfl (K.not rfl) ?_
  refine KT.nil ?_
  refine thenK_n ?_
  refine KC.cond rfl (fun hc9 => ?_) (fun hc9 => ?_)
  · skip
    refine KC.seq ?_
    refine KC.region ?_
    refine KT.step rfl rfl (K.assign rfl) ?_
    refine KT.step rfl rfl (K.assign rfl) ?_
    refine KT.nil ?_
    refine thenK_n ?_
    refine KC.ret ?_
    refine thenK_r ?_
    exact ⟨.inl rfl, _, rfl, rfl⟩
  · skip
    exact absurd hc9 (by decide)
set_option maxRecDepth 10000 in
theorem assign_no {d0 d1 : DV} {hot cold : List Int} (hh : Ints d0 hot) (hc : Ints d1 cold) (hhl : hot.length ≤ 9223372036854775807) (hcl : cold.length ≤ 9223372036854775807) (hno : okM hot cold = false) : DeepCall Try.prog 38 [d0, d1] (.tup [Dnil, DI 2]) := by
  refine deepCall_K 5 Try.func38 rfl (Nat.le_of_ble_eq_true rfl) fun M W0 => ?_
  refine KC.seq ?_
  refine KC.region ?_
  refine KT.step rfl rfl (K.assign rfl) ?_
  refine KT.step rfl rfl (K.assign rfl) ?_
  refine KT.nil ?_
  refine thenK_n ?_
  refine KC.seq ?_
  refine KC.seq ?_
  refine KC.region ?_
  refine KT.step rfl rfl (K.move rfl) ?_
  refine KT.step rfl rfl (K.move rfl) ?_
  refine KT.step rfl rfl (K.call2 rfl rfl plainTry_57 (vld_no hh hc hhl hcl hno)) ?_
  refine KT.step rfl rfl (K.not rfl) ?_
  refine KT.nil ?_
  refine thenK_n ?_
  refine KC.cond rfl (fun hc9 => ?_) (fun hc9 => ?_)
  · skip
    refine KC.seq ?_
    refine KC.region ?_
    refine KT.step rfl rfl (K.assign rfl) ?_
    refine KT.step rfl rfl (K.assign rfl) ?_
    refine KT.nil ?_
    refine thenK_n ?_
    refine KC.ret ?_
    refine thenK_r ?_
    exact ⟨.inl rfl, _, rfl, rfl⟩
  · skip
    exact absurd hc9 (by decide)
set_option maxRecDepth 10000 in
theorem matches_ok {d0 d1 : DV} {hot cold : List Int} (hh : Ints d0 hot) (hc : Ints d1 cold) (hhl : hot.length ≤ 9223372036854775807) (hcl : cold.length ≤ 9223372036854775807) (hok : okM hot cold = true) : DeepCall Try.prog 37 [d0, d1] (.tup [DI (hot.length + cold.length - bestA hot cold), DI 0]) := by
  obtain ⟨n1, n2, n3, n4, b1, b2, hsum⟩ := okM_iff.1 hok
  have hzl := zL_len hot cold
  have hbl := bestA_le hok
  refine deepCall_K 5 Try.func37 rfl (Nat.le_of_ble_eq_true rfl) fun M W0 => ?_
  refine KC.seq ?_
  refine KC.region ?_
  refine KT.step rfl rfl (K.assign rfl) ?_
  refine KT.step rfl rfl (K.assign rfl) ?_
  refine KT.nil ?_
  refine thenK_n ?_
  refine KC.seq ?_
  refine KC.seq ?_
  refine KC.region ?_
  refine KT.step rfl rfl (K.move rfl) ?_
  refine KT.step rfl rfl (K.move rfl) ?_
  refine KT.step rfl rfl (K.call2 rfl rfl plainTry_57 (vld_ok hh hc hhl hcl hok)) ?_
  refine KT.step rfl rfl (K.not rfl) ?_
  refine KT.nil ?_
  refine thenK_n ?_
  refine KC.cond rfl (fun hc9 => ?_) (fun hc9 => ?_)
  · skip
    exact absurd hc9 (by decide)
  · skip
    refine KC.skip ?_
    refine thenK_n ?_
    refine KC.seq ?_
    refine KC.region ?_
    refine KT.step rfl rfl (K.move rfl) ?_
    refine KT.step rfl rfl (K.len rfl hh Try.underlying23) ?_
    refine KT.step rfl rfl (K.move rfl) ?_
    refine KT.step rfl rfl (K.len rfl hc Try.underlying23) ?_
    refine KT.step rfl rfl (K.add rfl rfl (wrap_id (by omega))) ?_
    refine KT.step rfl rfl (K.move rfl) ?_
    refine KT.step rfl rfl (K.move rfl) ?_
    refine KT.step rfl rfl (K.call2 rfl rfl plainTry_58 (divided58 hh hc hhl hcl hok)) ?_
    refine KT.step rfl rfl (K.call1 rfl plainTry_59 ((show DeepCall _ _ _ (DI (bestA hot cold)) from most59 (z := (zL hot cold)) (by omega)))) ?_
    refine KT.step rfl rfl (K.sub rfl rfl (wrap_id (by omega))) ?_
    refine KT.step rfl rfl (K.assign rfl) ?_
    refine KT.step rfl rfl (K.assign rfl) ?_
    refine KT.nil ?_
    refine thenK_n ?_
    refine KC.ret ?_
    exact ⟨.inl rfl, _, rfl, rfl⟩
set_option maxRecDepth 10000 in
theorem assign_ok {d0 d1 : DV} {hot cold : List Int} (hh : Ints d0 hot) (hc : Ints d1 cold) (hhl : hot.length ≤ 9223372036854775807) (hcl : cold.length ≤ 9223372036854775807) (hok : okM hot cold = true) : DeepCall Try.prog 38 [d0, d1] (.tup [flV (e3 hot.length) (mtch hot cold (ordA (zL hot cold))), DI 0]) := by
  refine deepCall_K 5 Try.func38 rfl (Nat.le_of_ble_eq_true rfl) fun M W0 => ?_
  refine KC.seq ?_
  refine KC.region ?_
  refine KT.step rfl rfl (K.assign rfl) ?_
  refine KT.step rfl rfl (K.assign rfl) ?_
  refine KT.nil ?_
  refine thenK_n ?_
  refine KC.seq ?_
  refine KC.seq ?_
  refine KC.region ?_
  refine KT.step rfl rfl (K.move rfl) ?_
  refine KT.step rfl rfl (K.move rfl) ?_
  refine KT.step rfl rfl (K.call2 rfl rfl plainTry_57 (vld_ok hh hc hhl hcl hok)) ?_
  refine KT.step rfl rfl (K.not rfl) ?_
  refine KT.nil ?_
  refine thenK_n ?_
  refine KC.cond rfl (fun hc9 => ?_) (fun hc9 => ?_)
  · skip
    exact absurd hc9 (by decide)
  · skip
    refine KC.skip ?_
    refine thenK_n ?_
    refine KC.seq ?_
    refine KC.region ?_
    refine KT.step rfl rfl (K.move rfl) ?_
    refine KT.step rfl rfl (K.move rfl) ?_
    refine KT.step rfl rfl (K.call2 rfl rfl plainTry_58 (divided58 hh hc hhl hcl hok)) ?_
    refine KT.step rfl rfl (K.move rfl) ?_
    refine KT.step rfl rfl (K.move rfl) ?_
    refine KT.step rfl rfl (K.call3 rfl rfl rfl plainTry_60 (match60 hh hc hhl hcl hok)) ?_
    refine KT.step rfl rfl (K.assign rfl) ?_
    refine KT.step rfl rfl (K.assign rfl) ?_
    refine KT.nil ?_
    refine thenK_n ?_
    refine KC.ret ?_
    exact ⟨.inl rfl, _, rfl, rfl⟩
set_option maxHeartbeats 2000000 in
set_option maxRecDepth 10000 in
theorem rmatches40 {d0 d1 : DV} {hot cold : List Int} (hh : Ints d0 hot) (hc : Ints d1 cold) (hhl : hot.length ≤ 9223372036854775807) (hcl : cold.length ≤ 9223372036854775807) (hok : okM hot cold = true) : DeepCall Try.prog 40 [d0, d1] (DI (hot.length + cold.length - bestA hot cold)) := by
  obtain ⟨n1, n2, n3, n4, b1, b2, hsum⟩ := okM_iff.1 hok
  have hzl := zL_len hot cold
  have hbl := bestA_le hok
  have hzb := zL_bd b1 b2
  have hM : 2 ^ (zL hot cold).length ≤ 4096 := Nat.pow_le_pow_right (n := 2) (by decide) (show (zL hot cold).length ≤ 12 by omega)
  have hM1 : 1 ≤ 2 ^ (zL hot cold).length := Nat.two_pow_pos _
  have hfu : fullS (zL hot cold).length = 2 ^ (zL hot cold).length - 1 := rfl
  refine deepCall_K 5 Try.func40 rfl (Nat.le_of_ble_eq_true rfl) fun M W0 => ?_
  refine KC.seq ?_
  refine KC.region ?_
  refine KT.step rfl rfl (K.assign rfl) ?_
  refine KT.nil ?_
  refine thenK_n ?_
  refine KC.seq ?_
  refine KC.region ?_
  refine KT.step rfl rfl (K.move rfl) ?_
  refine KT.step rfl rfl (K.len rfl hh Try.underlying23) ?_
  refine KT.step rfl rfl (K.move rfl) ?_
  refine KT.step rfl rfl (K.len rfl hc Try.underlying23) ?_
  refine KT.step rfl rfl (K.add rfl rfl (show IntKind.i64.wrap ((hot.length : Int) + (cold.length : Int)) = (((zL hot cold).length : Nat) : Int) from by rw [wrap_id (by omega)]; omega)) ?_
  refine KT.step rfl rfl (K.assign rfl) ?_
  refine KT.nil ?_
  refine thenK_n ?_
  refine KC.seq ?_
  refine KC.region ?_
  refine KT.step rfl rfl (K.move rfl) ?_
  refine KT.step rfl rfl (K.shl rfl rfl (by omega) (shlI (by omega))) ?_
  refine KT.step rfl rfl (K.make (m := 2 ^ (zL hot cold).length) rfl rfl (Nat.le_refl _) (by omega) Try.underlying23 Try.one3) ?_
  rw [xs_rep]
  refine KT.step rfl rfl (K.assign rfl) ?_
  refine KT.nil ?_
  refine thenK_n ?_
  refine KC.seq ?_
  refine KC.seq ?_
  refine KC.region ?_
  refine KT.step rfl rfl (K.assign rfl) ?_
  refine KT.nil ?_
  refine thenK_n ?_
  refine KC.block ?_
  refine KC.loop (fun p : List Int × Nat => [⟨xs p.1, 0⟩]) (fun p => [(0, .d d0), (1, .d d1), (5, .d (DI ((zL hot cold).length : Nat))), (6, .osl 0 0 (2 ^ (zL hot cold).length) 1 (2 ^ (zL hot cold).length) true), (7, .d (DI (p.2 : Nat)))]) (fun p => 1 ≤ p.2 ∧ p.2 ≤ 2 ^ (zL hot cold).length ∧ RfI (zL hot cold) (2 ^ (zL hot cold).length) p.2 p.1) (fun p => 2 ^ (zL hot cold).length - p.2) (List.replicate (2 ^ (zL hot cold).length) 0, 1) ⟨Nat.le_refl _, hM1, RfI.init hM1⟩ rfl (by simp [Go.Vm.look, extK, enterK]) ?_
  intro p hp
  obtain ⟨T, s⟩ := p
  obtain ⟨hs1, hs, hI⟩ := hp
  simp only at hs1 hs hI ⊢
  have l1 := hI.1
  refine KC.seq ?_
  refine KC.seq ?_
  refine KC.region ?_
  refine KT.step rfl rfl (K.move rfl) ?_
  refine KT.step rfl rfl (K.move rfl) ?_
  refine KT.step rfl rfl (K.shl rfl rfl (by omega) (shlI (by omega))) ?_
  refine KT.step rfl rfl (K.lss rfl rfl) ?_
  refine KT.nil ?_
  refine thenK_n ?_
  refine KC.cond rfl (fun hc22 => ?_) (fun hc22 => ?_)
  · skip
    replace hc22 := of_decide_eq_true hc22
    have hsM : s < 2 ^ (zL hot cold).length := by omega
    refine KC.skip ?_
    refine thenK_n ?_
    refine KC.seq ?_
    refine KC.block ?_
    refine KC.seq ?_
    refine KC.region ?_
    refine KT.step rfl rfl (K.assign rfl) ?_
    refine KT.nil ?_
    refine thenK_n ?_
    refine KC.seq ?_
    refine KC.seq ?_
    refine KC.region ?_
    refine KT.step rfl rfl (K.move rfl) ?_
    refine KT.step rfl rfl (K.move rfl) ?_
    refine KT.nil ?_
    refine thenK_n ?_
    refine KC.block ?_
    refine KC.loop (fun _ : Nat => [(⟨xs T, 0⟩ : VObj)]) (fun i => [(0, .d d0), (1, .d d1), (5, .d (DI ((zL hot cold).length : Nat))), (6, .osl 0 0 (2 ^ (zL hot cold).length) 1 (2 ^ (zL hot cold).length) true), (7, .d (DI (s : Nat))), (8, .d (DI (sumR (wS (zL hot cold) s) i))), (25, .d (DI ((zL hot cold).length : Nat))), (26, .d (DI (i : Nat)))]) (fun i => i ≤ (zL hot cold).length) (fun i => (zL hot cold).length - i) 0 (Nat.zero_le _) rfl (by simp [Go.Vm.look, extK, sumR]) ?_
    intro i hi
    refine KC.seq ?_
    refine KC.region ?_
    refine KT.step rfl rfl (K.lss rfl rfl) ?_
    refine KT.nil ?_
    refine thenK_n ?_
    refine KC.seq ?_
    refine KC.cond rfl (fun hc27 => ?_) (fun hc27 => ?_)
    · skip
      replace hc27 := of_decide_eq_true hc27
      have hin : i < (zL hot cold).length := by omega
      have hsb := sumW_bd hzb s i (by omega)
      refine KC.skip ?_
      refine thenK_n ?_
      refine KC.seq ?_
      refine KC.block ?_
      refine KC.seq ?_
      refine KC.region ?_
      refine KT.step rfl rfl (K.move rfl) ?_
      refine KT.step rfl rfl (K.assign rfl) ?_
      refine KT.nil ?_
      refine thenK_n ?_
      refine KC.seq ?_
      refine KC.region ?_
      refine KT.step rfl rfl (K.move rfl) ?_
      refine KT.step rfl rfl (K.move rfl) ?_
      refine KT.step rfl rfl (K.shr rfl rfl (by omega) (shrI (by omega))) ?_
      refine KT.step rfl rfl (K.band rfl rfl (show IntKind.i64.wrap (BitVec.ofInt IntKind.i64.bits ((s / 2 ^ i : Nat) : Int) &&& BitVec.ofInt IntKind.i64.bits (1 : Int)).toNat = ((s / 2 ^ i &&& 1 : Nat) : Int) from andI (b := 1) (Nat.lt_of_le_of_lt (Nat.div_le_self _ _) (by omega)) (by decide))) ?_
      refine KT.step rfl rfl (K.eql rfl rfl) ?_
      refine KT.nil ?_
      refine thenK_n ?_
      refine KC.cond rfl (fun hc33 => ?_) (fun hc33 => ?_)
      · skip
        replace hc33 := of_decide_eq_true hc33
        have hb : s.testBit i = true := by rw [← bitOne]; exact decide_eq_true hc33
        refine KC.seq ?_
        refine KC.region ?_
        refine KT.step rfl rfl (K.move rfl) ?_
        refine KT.step rfl rfl (K.move rfl) ?_
        refine KT.step rfl rfl (K.len rfl hh Try.underlying23) ?_
        refine KT.step rfl rfl (K.lss rfl rfl) ?_
        refine KT.nil ?_
        refine thenK_n ?_
        refine KC.cond rfl (fun hc37 => ?_) (fun hc37 => ?_)
        · skip
          replace hc37 := of_decide_eq_true hc37
          have hih : i < hot.length := by omega
          have hbx := b1 hot[i] (List.getElem_mem _)
          refine KC.region ?_
          refine KT.step rfl rfl (K.move rfl) ?_
          refine KT.step rfl rfl (K.move rfl) ?_
          refine KT.step rfl rfl (K.move rfl) ?_
          refine KT.idxI (m := i) rfl rfl rfl hh rfl (by omega) Try.underlying23 Try.size3 fun cs41 => ?_
          refine KT.step rfl rfl (K.load rfl Try.agg3) ?_
          refine KT.step rfl rfl (K.add rfl rfl (wrap_id (by omega))) ?_
          refine KT.step rfl rfl (K.assign rfl) ?_
          refine KT.nil ?_
          refine blockK_n ?_
          refine thenK_n ?_
          refine KC.region ?_
          refine KT.step rfl rfl (K.add rfl rfl (wrap_id (by omega))) ?_
          refine KT.step rfl rfl (K.move rfl) ?_
          refine KT.nil ?_
          refine thenK_n ?_
          have hw : wS (zL hot cold) s i = hot[i] := by
            unfold wS; rw [if_pos hb, zL_hot hih]; simp [hih]
          exact ⟨i + 1, by omega, by omega, rfl, by simp [Go.Vm.look, extK, sumR, hw]⟩
        · skip
          replace hc37 := of_decide_eq_false hc37
          have hih : hot.length ≤ i := by omega
          have hbx := b2 (cold[i - hot.length]'(by omega)) (List.getElem_mem _)
          refine KC.region ?_
          refine KT.step rfl rfl (K.move rfl) ?_
          refine KT.step rfl rfl (K.move rfl) ?_
          refine KT.step rfl rfl (K.move rfl) ?_
          refine KT.step rfl rfl (K.move rfl) ?_
          refine KT.step rfl rfl (K.len rfl hh Try.underlying23) ?_
          refine KT.step rfl rfl (K.sub rfl rfl (show IntKind.i64.wrap ((i : Int) - (hot.length : Int)) = ((i - hot.length : Nat) : Int) from by rw [wrap_id (by omega)]; omega)) ?_
          refine KT.idxI (m := i - hot.length) rfl rfl rfl hc rfl (by omega) Try.underlying23 Try.size3 fun cs50 => ?_
          refine KT.step rfl rfl (K.load rfl Try.agg3) ?_
          refine KT.step rfl rfl (K.sub rfl rfl (wrap_id (by omega))) ?_
          refine KT.step rfl rfl (K.assign rfl) ?_
          refine KT.nil ?_
          refine blockK_n ?_
          refine thenK_n ?_
          refine KC.region ?_
          refine KT.step rfl rfl (K.add rfl rfl (wrap_id (by omega))) ?_
          refine KT.step rfl rfl (K.move rfl) ?_
          refine KT.nil ?_
          refine thenK_n ?_
          have hw : wS (zL hot cold) s i = - (cold[i - hot.length]'(by omega)) := by
            unfold wS; rw [if_pos hb, zL_cold hih (by omega)]; simp [show i - hot.length < cold.length by omega]
          exact ⟨i + 1, by omega, by omega, rfl, by simp [Go.Vm.look, extK, sumR, hw]; omega⟩
      · skip
        replace hc33 := of_decide_eq_false hc33
        have hb : ¬ s.testBit i = true := by rw [← bitOne]; simpa using hc33
        refine KC.skip ?_
        refine blockK_n ?_
        refine thenK_n ?_
        refine KC.region ?_
        refine KT.step rfl rfl (K.add rfl rfl (wrap_id (by omega))) ?_
        refine KT.step rfl rfl (K.move rfl) ?_
        refine KT.nil ?_
        refine thenK_n ?_
        have hw : wS (zL hot cold) s i = 0 := by
          unfold wS; rw [if_neg hb]
        exact ⟨i + 1, by omega, by omega, rfl, by simp [Go.Vm.look, extK, sumR, hw]⟩
    · skip
      replace hc27 := of_decide_eq_false hc27
      obtain rfl : i = (zL hot cold).length := by omega
      refine KC.exit ?_
      refine thenK_x ?_
      refine thenK_x ?_
      refine blockK_e ?_
      refine thenK_n ?_
      refine KC.seq ?_
      refine KC.region ?_
      refine KT.step rfl rfl (K.move rfl) ?_
      refine KT.step rfl rfl (K.move rfl) ?_
      refine KT.step rfl rfl (K.idxO (m := s) rfl rfl (by omega) Try.underlying23 Try.size3) ?_
      refine KT.step rfl rfl (K.storeO rfl rfl rfl (by rw [xs_len]; simp; omega) rfl rfl Try.size3) ?_
      rw [set1]
      refine KT.nil ?_
      refine thenK_n ?_
      refine KC.seq ?_
      refine KC.seq ?_
      refine KC.region ?_
      refine KT.step rfl rfl (K.move rfl) ?_
      refine KT.step rfl rfl (K.neq rfl rfl) ?_
      refine KT.nil ?_
      refine thenK_n ?_
      refine KC.cond rfl (fun hc58 => ?_) (fun hc58 => ?_)
      · skip
        replace hc58 := of_decide_eq_true hc58
        have hz : ¬ sumS (zL hot cold) s = 0 := hc58
        refine KC.exit ?_
        refine thenK_x ?_
        refine blockK_e ?_
        refine thenK_n ?_
        refine KC.region ?_
        refine KT.step rfl rfl (K.move rfl) ?_
        refine KT.step rfl rfl (K.add rfl rfl (wrap_id (by omega))) ?_
        refine KT.step rfl rfl (K.assign rfl) ?_
        refine KT.nil ?_
        refine thenK_n ?_
        exact ⟨(T.set s (-1), s + 1), ⟨by simp only; omega, by simp only; omega, hI.skip hsM hz⟩, by simp only; omega, rfl, by simp [Go.Vm.look, extK]⟩
      · skip
        replace hc58 := of_decide_eq_false hc58
        have hz : sumS (zL hot cold) s = 0 := Classical.not_not.1 hc58
        refine KC.skip ?_
        refine thenK_n ?_
        refine KC.seq ?_
        refine KC.region ?_
        refine KT.step rfl rfl (K.move rfl) ?_
        refine KT.step rfl rfl (K.move rfl) ?_
        refine KT.step rfl rfl (K.idxO (m := s) rfl rfl (by omega) Try.underlying23 Try.size3) ?_
        refine KT.step rfl rfl (K.storeO rfl rfl rfl (by rw [xs_len]; simp; omega) rfl rfl Try.size3) ?_
        rw [set1]
        refine KT.nil ?_
        refine thenK_n ?_
        refine KC.seq ?_
        refine KC.region ?_
        refine KT.step rfl rfl (K.move rfl) ?_
        refine KT.step rfl rfl (K.sub rfl rfl (show IntKind.i64.wrap ((s : Int) - 1) = ((s - 1 : Nat) : Int) from by rw [wrap_id (by omega)]; omega)) ?_
        refine KT.step rfl rfl (K.move rfl) ?_
        refine KT.step rfl rfl (K.band rfl rfl (show IntKind.i64.wrap (BitVec.ofInt IntKind.i64.bits ((s - 1 : Nat) : Int) &&& BitVec.ofInt IntKind.i64.bits ((s : Nat) : Int)).toNat = (((s - 1) &&& s : Nat) : Int) from andI (by omega) (by omega))) ?_
        refine KT.step rfl rfl (K.assign rfl) ?_
        refine KT.nil ?_
        refine thenK_n ?_
        refine KC.block ?_
        refine KC.loop (fun p : List Int × Nat => [(⟨xs p.1, 0⟩ : VObj)]) (fun p => [(0, .d d0), (1, .d d1), (5, .d (DI ((zL hot cold).length : Nat))), (6, .osl 0 0 (2 ^ (zL hot cold).length) 1 (2 ^ (zL hot cold).length) true), (7, .d (DI (s : Nat))), (10, .d (DI (p.2 : Nat)))]) (fun p => RfJ (zL hot cold) (2 ^ (zL hot cold).length) s p.2 p.1) (fun p => p.2) (_, (s - 1) &&& s) (hI.start rfl hsM (by omega) hz) rfl (by simp [Go.Vm.look, extK]) ?_
        intro p hJ
        obtain ⟨T, u⟩ := p
        simp only at hJ ⊢
        refine KC.seq ?_
        refine KC.seq ?_
        refine KC.region ?_
        refine KT.step rfl rfl (K.move rfl) ?_
        refine KT.step rfl rfl (K.gtr rfl rfl) ?_
        refine KT.nil ?_
        refine thenK_n ?_
        refine KC.cond rfl (fun hc67 => ?_) (fun hc67 => ?_)
        · skip
          replace hc67 := of_decide_eq_true hc67
          have hu : 0 < u := by omega
          have hul := hJ.2.2.2.2.2.1
          have hdl := diff_lt hJ.2.2.2.2.1 (by omega)
          have l1 := hJ.1
          have v1 := rfV_bd (zL hot cold) u (by omega)
          rw [← hJ.2.1 u hul] at v1
          have v2 := rfV_bd (zL hot cold) (diffN s u) (by omega)
          rw [← hJ.2.1 _ hdl] at v2
          refine KC.skip ?_
          refine thenK_n ?_
          refine KC.seq ?_
          refine KC.block ?_
          refine KC.seq ?_
          refine KC.region ?_
          refine KT.step rfl rfl (K.move rfl) ?_
          refine KT.step rfl rfl (K.move rfl) ?_
          refine KT.step rfl rfl (K.idxO (m := u) rfl rfl (by omega) Try.underlying23 Try.size3) ?_
          refine KT.step rfl rfl (K.loadO rfl rfl (by simp) (xs_getD (l := T) (i := u) (by omega)) Try.agg3) ?_
          refine KT.step rfl rfl (K.gtr rfl rfl) ?_
          refine KT.step rfl rfl (K.move rfl) ?_
          refine KT.bcase (fun hb77 => ?_) (fun hb77 => ?_)
          · skip
            replace hb77 := of_decide_eq_true hb77
            refine KT.step rfl rfl (K.move rfl) ?_
            refine KT.step rfl rfl (K.move rfl) ?_
            refine KT.step rfl rfl (K.move rfl) ?_
            refine KT.step rfl rfl (K.bandNot rfl rfl (show IntKind.i64.wrap (BitVec.ofInt IntKind.i64.bits ((s : Nat) : Int) &&& ~~~ BitVec.ofInt IntKind.i64.bits ((u : Nat) : Int)).toNat = ((diffN s u : Nat) : Int) from diffI (by omega) (by omega))) ?_
            refine KT.step rfl rfl (K.idxO (m := diffN s u) rfl rfl (by omega) Try.underlying23 Try.size3) ?_
            refine KT.step rfl rfl (K.loadO rfl rfl (by simp) (xs_getD (l := T) (i := diffN s u) (by omega)) Try.agg3) ?_
            refine KT.step rfl rfl (K.gtr rfl rfl) ?_
            refine KT.step rfl rfl (K.pick rfl (fun _ => rfl) (fun h => by cases h)) ?_
            refine KT.nil ?_
            refine thenK_n ?_
            refine KC.cond rfl (fun hc85 => ?_) (fun hc85 => ?_)
            · skip
              replace hc85 := of_decide_eq_true hc85
              refine KC.draw Try.mixed ?_
              refine KT.step rfl rfl (K.move rfl) ?_
              refine KT.step rfl rfl (K.move rfl) ?_
              refine KT.step rfl rfl (K.move rfl) ?_
              refine KT.step rfl rfl (K.move rfl) ?_
              refine KT.step rfl rfl (K.idxO (m := s) rfl rfl (by omega) Try.underlying23 Try.size3) ?_
              refine KT.step rfl rfl (K.loadO rfl rfl (by simp) (xs_getD (l := T) (i := s) (by omega)) Try.agg3) ?_
              refine KT.step rfl rfl (K.move rfl) ?_
              refine KT.step rfl rfl (K.move rfl) ?_
              refine KT.step rfl rfl (K.idxO (m := u) rfl rfl (by omega) Try.underlying23 Try.size3) ?_
              refine KT.step rfl rfl (K.loadO rfl rfl (by simp) (xs_getD (l := T) (i := u) (by omega)) Try.agg3) ?_
              refine KT.step rfl rfl (K.move rfl) ?_
              refine KT.step rfl rfl (K.move rfl) ?_
              refine KT.step rfl rfl (K.move rfl) ?_
              refine KT.step rfl rfl (K.bandNot rfl rfl (show IntKind.i64.wrap (BitVec.ofInt IntKind.i64.bits ((s : Nat) : Int) &&& ~~~ BitVec.ofInt IntKind.i64.bits ((u : Nat) : Int)).toNat = ((diffN s u : Nat) : Int) from diffI (by omega) (by omega))) ?_
              refine KT.step rfl rfl (K.idxO (m := diffN s u) rfl rfl (by omega) Try.underlying23 Try.size3) ?_
              refine KT.step rfl rfl (K.loadO rfl rfl (by simp) (xs_getD (l := T) (i := diffN s u) (by omega)) Try.agg3) ?_
              refine KT.step rfl rfl (K.add rfl rfl (wrap_id (by omega))) ?_
              refine KT.step rfl rfl (K.max2 rfl rfl) ?_
              refine KT.step rfl rfl (K.idxO (m := s) rfl rfl (by omega) Try.underlying23 Try.size3) ?_
              refine KT.step rfl rfl (K.storeO rfl rfl rfl (by rw [xs_len]; simp; omega) rfl rfl Try.size3) ?_
              rw [set1]
              refine KT.nil ?_
              refine ⟨by kernel_rfl, ?_⟩
              refine blockK_n ?_
              refine thenK_n ?_
              refine KC.region ?_
              refine KT.step rfl rfl (K.move rfl) ?_
              refine KT.step rfl rfl (K.sub rfl rfl (show IntKind.i64.wrap ((u : Int) - 1) = ((u - 1 : Nat) : Int) from by rw [wrap_id (by omega)]; omega)) ?_
              refine KT.step rfl rfl (K.move rfl) ?_
              refine KT.step rfl rfl (K.band rfl rfl (show IntKind.i64.wrap (BitVec.ofInt IntKind.i64.bits ((u - 1 : Nat) : Int) &&& BitVec.ofInt IntKind.i64.bits ((s : Nat) : Int)).toNat = (((u - 1) &&& s : Nat) : Int) from andI (by omega) (by omega))) ?_
              refine KT.step rfl rfl (K.assign rfl) ?_
              refine KT.nil ?_
              refine thenK_n ?_
              have hlt : (u - 1) &&& s < u := sub_pred_lt hu
              exact ⟨(T.set s _, (u - 1) &&& s), hJ.up rfl hsM hu (by omega) (by omega), hlt, rfl, by simp [Go.Vm.look, extK]⟩
            · skip
              replace hc85 := of_decide_eq_false hc85
              refine KC.skip ?_
              refine blockK_n ?_
              refine thenK_n ?_
              refine KC.region ?_
              refine KT.step rfl rfl (K.move rfl) ?_
              refine KT.step rfl rfl (K.sub rfl rfl (show IntKind.i64.wrap ((u : Int) - 1) = ((u - 1 : Nat) : Int) from by rw [wrap_id (by omega)]; omega)) ?_
              refine KT.step rfl rfl (K.move rfl) ?_
              refine KT.step rfl rfl (K.band rfl rfl (show IntKind.i64.wrap (BitVec.ofInt IntKind.i64.bits ((u - 1 : Nat) : Int) &&& BitVec.ofInt IntKind.i64.bits ((s : Nat) : Int)).toNat = (((u - 1) &&& s : Nat) : Int) from andI (by omega) (by omega))) ?_
              refine KT.step rfl rfl (K.assign rfl) ?_
              refine KT.nil ?_
              refine thenK_n ?_
              have hlt : (u - 1) &&& s < u := sub_pred_lt hu
              exact ⟨(T, (u - 1) &&& s), hJ.stay rfl hsM hu (by omega), hlt, rfl, by simp [Go.Vm.look, extK]⟩
          · skip
            replace hb77 := of_decide_eq_false hb77
            refine KT.skip rfl rfl ?_
            refine KT.skip rfl rfl ?_
            refine KT.skip rfl rfl ?_
            refine KT.skip rfl rfl ?_
            refine KT.skip rfl rfl ?_
            refine KT.skip rfl rfl ?_
            refine KT.skip rfl rfl ?_
            refine KT.step rfl rfl (K.pick rfl (fun h => by cases h) (fun _ => rfl)) ?_
            refine KT.nil ?_
            refine thenK_n ?_
            refine KC.cond rfl (fun hc85 => ?_) (fun hc85 => ?_)
            · cases hc85
            · skip
              refine KC.skip ?_
              refine blockK_n ?_
              refine thenK_n ?_
              refine KC.region ?_
              refine KT.step rfl rfl (K.move rfl) ?_
              refine KT.step rfl rfl (K.sub rfl rfl (show IntKind.i64.wrap ((u : Int) - 1) = ((u - 1 : Nat) : Int) from by rw [wrap_id (by omega)]; omega)) ?_
              refine KT.step rfl rfl (K.move rfl) ?_
              refine KT.step rfl rfl (K.band rfl rfl (show IntKind.i64.wrap (BitVec.ofInt IntKind.i64.bits ((u - 1 : Nat) : Int) &&& BitVec.ofInt IntKind.i64.bits ((s : Nat) : Int)).toNat = (((u - 1) &&& s : Nat) : Int) from andI (by omega) (by omega))) ?_
              refine KT.step rfl rfl (K.assign rfl) ?_
              refine KT.nil ?_
              refine thenK_n ?_
              have hlt : (u - 1) &&& s < u := sub_pred_lt hu
              exact ⟨(T, (u - 1) &&& s), hJ.stay rfl hsM hu (by omega), hlt, rfl, by simp [Go.Vm.look, extK]⟩
        · skip
          replace hc67 := of_decide_eq_false hc67
          obtain rfl : u = 0 := by omega
          refine KC.exit ?_
          refine thenK_x ?_
          refine thenK_x ?_
          refine blockK_e ?_
          refine blockK_n ?_
          refine thenK_n ?_
          refine KC.region ?_
          refine KT.step rfl rfl (K.move rfl) ?_
          refine KT.step rfl rfl (K.add rfl rfl (wrap_id (by omega))) ?_
          refine KT.step rfl rfl (K.assign rfl) ?_
          refine KT.nil ?_
          refine thenK_n ?_
          exact ⟨(T, s + 1), ⟨by simp only; omega, by simp only; omega, hJ.fin rfl hsM (by omega) hz⟩, by simp only; omega, rfl, by simp [Go.Vm.look, extK]⟩
  · skip
    replace hc22 := of_decide_eq_false hc22
    obtain rfl : s = 2 ^ (zL hot cold).length := by omega
    have hfin : T.getD (fullS (zL hot cold).length) 0 = bestA hot cold := by
      rw [hI.2 _ (by omega)]
      unfold rfV
      rw [if_pos (by rw [sumS_full, zL_sum]; omega)]; rfl
    refine KC.exit ?_
    refine thenK_x ?_
    refine thenK_x ?_
    refine blockK_e ?_
    refine thenK_n ?_
    refine KC.seq ?_
    refine KC.region ?_
    refine KT.step rfl rfl (K.move rfl) ?_
    refine KT.step rfl rfl (K.move rfl) ?_
    refine KT.step rfl rfl (K.move rfl) ?_
    refine KT.step rfl rfl (K.shl rfl rfl (by omega) (shlI (by omega))) ?_
    refine KT.step rfl rfl (K.sub rfl rfl (show IntKind.i64.wrap (((2 ^ (zL hot cold).length : Nat) : Int) - 1) = ((fullS (zL hot cold).length : Nat) : Int) from by rw [wrap_id (by omega)]; omega)) ?_
    refine KT.step rfl rfl (K.idxO (m := fullS (zL hot cold).length) rfl rfl (by omega) Try.underlying23 Try.size3) ?_
    refine KT.step rfl rfl (K.loadO rfl rfl (by simp) (xs_getD (l := T) (i := fullS (zL hot cold).length) (by omega)) Try.agg3) ?_
    refine KT.step rfl rfl (K.sub rfl rfl (wrap_id (by omega))) ?_
    refine KT.step rfl rfl (K.assign rfl) ?_
    refine KT.nil ?_
    refine thenK_n ?_
    refine KC.ret ?_
    refine ⟨.inl rfl, _, rfl, fin_d (congrArg DI ?_)⟩
    rw [hfin, hzl]; omega
end Go.Proofs.Ytmfbakipfobaeaa

