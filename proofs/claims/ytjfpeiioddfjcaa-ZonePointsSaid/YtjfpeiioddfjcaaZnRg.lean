import Derived.Test.YtjfpeiioddfjcaaZnRf
import Derived.Test.YtjfpeiioddfjcaaZnRd
/-
  Zones: the reference: the strictest bounds.
-/
namespace Go.Proofs.Ytjfpeiioddfjcaa
open Go.Vm Go.Zn

theorem one_ints {i : Nat} : Ints (.sl [DI (i : Nat)] 1 (some 1)) (zl [i]) := .sl (l := zl [i]) (cs := [DI (i : Nat)]) rfl fun k c x hc hx => by
  cases k with
  | zero => simp [zl] at hc hx; subst hc hx; rfl
  | succ k => simp at hc
theorem waysN_len {n i : Nat} (hn : n ≤ 4) : (waysN n i).length ≤ 5 ^ 5 := by
  have h1 := (wDs_wr (n := n) (n + 1) [i] _ one_ints).len
  have h2 := (wDs_len (n := n) (n + 1) [i] (.sl [DI (i : Nat)] 1 (some 1))).2
  unfold waysN
  rw [← h1]
  exact Nat.le_trans h2 (Nat.le_trans (Nat.pow_le_pow_left (by omega) _) (Nat.pow_le_pow_right (by decide) (by omega)))
def rtE (z : List (List Int)) : Int := if anyR z.length (zf z) then 5 else 0
def rtD (z : List (List Int)) : DV := if anyR z.length (zf z) then Dnil else genD z.length z.length (rtM z.length (atm (zf z)))
theorem lastN_lt {n i k : Nat} (hi : i < n) (hk : k < (waysN n i).length) : lastN (waysN n i)[k] < n := by
  obtain ⟨t, h1, h2⟩ := (waysN_mem hi).1 (List.getElem_mem hk)
  rw [h1, lastN_cons]
  exact h2.2 _ (endp_mem i t)
theorem way_ok {n i k : Nat} (hn : n ≤ 4) (hi : i < n) (hk : k < (waysN n i).length) : (∀ x ∈ (waysN n i)[k], x < n) ∧ (waysN n i)[k].length ≤ 4 ∧ 1 ≤ (waysN n i)[k].length := by
  obtain ⟨t, h1, h2⟩ := (waysN_mem hi).1 (List.getElem_mem hk)
  have := simple_len h2
  rw [h1, List.length_cons]
  exact ⟨h2.2, by omega, by omega⟩
set_option maxHeartbeats 1000000 in
set_option maxRecDepth 10000 in
theorem rtight52 {d : DV} {z : List (List Int)} (hd : Mat d z) (hs : Sq z) : DeepCall Try.prog 52 [d] (.tup [rtD z, DI (rtE z)]) := by
  have hn := hs.hi
  obtain ⟨n, hzn⟩ : ∃ n, z.length = n := ⟨_, rfl⟩
  rw [hzn] at hn
  refine deepCall_K 6 Try.func52 rfl (Nat.le_of_ble_eq_true rfl) fun M W0 => ?_
  refine KC.seq ?_
  refine KC.region ?_
  refine KT.step rfl rfl (K.assign rfl) ?_
  refine KT.step rfl rfl (K.assign rfl) ?_
  refine KT.nil ?_
  refine thenK_n ?_
  refine KC.seq ?_
  refine KC.region ?_
  refine KT.step rfl rfl (K.move rfl) ?_
  refine KT.step rfl rfl (K.len rfl hd Try.underlying22) ?_
  rw [hzn]
  refine KT.step rfl rfl (K.make rfl rfl (Nat.le_refl n) (by omega) Try.underlying22 Try.one23) ?_
  refine KT.step rfl rfl (K.assign rfl) ?_
  refine KT.nil ?_
  refine thenK_n ?_
  refine KC.seq ?_
  refine KC.seq ?_
  refine KC.region ?_
  refine KT.step rfl rfl (K.move rfl) ?_
  refine KT.step rfl rfl (K.len rfl hd Try.underlying22) ?_
  rw [hzn]
  refine KT.step rfl rfl (K.move rfl) ?_
  refine KT.nil ?_
  refine thenK_n ?_
  refine KC.block ?_
  refine KC.loop (fun i : Nat => sgP n n (fun _ _ => 1099511627776) i) (fun i => [(0, .d d), (4, .osl 0 0 n 1 n true), (15, .d (DI (n : Nat))), (16, .d (DI (i : Nat)))]) (fun i => i ≤ n) (fun i => n - i) 0 (Nat.zero_le _) sgP_zero.symm (by simp [Go.Vm.look, extK, enterK]) ?_
  intro i hi
  refine KC.seq ?_
  refine KC.region ?_
  refine KT.step rfl rfl (K.lss rfl rfl) ?_
  refine KT.nil ?_
  refine thenK_n ?_
  refine KC.seq ?_
  refine KC.cond rfl (fun hc17 => ?_) (fun hc17 => ?_)
  · skip
    replace hc17 := of_decide_eq_true hc17
    refine KC.skip ?_
    refine thenK_n ?_
    refine KC.seq ?_
    refine KC.block ?_
    refine KC.seq ?_
    refine KC.region ?_
    refine KT.step rfl rfl (K.move rfl) ?_
    refine KT.step rfl rfl (K.assign rfl) ?_
    refine KT.nil ?_
    refine thenK_n ?_
    refine KC.seq ?_
    refine KC.region ?_
    refine KT.step rfl rfl (K.move rfl) ?_
    refine KT.step rfl rfl (K.move rfl) ?_
    refine KT.step rfl rfl (K.move rfl) ?_
    refine KT.step rfl rfl (K.len rfl hd Try.underlying22) ?_
    rw [hzn]
    refine KT.step rfl rfl (K.make rfl rfl (Nat.le_refl n) (by omega) Try.underlying23 Try.one3) ?_
    refine KT.step rfl rfl (K.idxO rfl rfl (by omega) Try.underlying22 Try.size23) ?_
    refine KT.step rfl rfl (K.storeO rfl rfl rfl (by rw [updL_len]; omega) rfl rfl Try.size23) ?_
    refine KT.nil ?_
    refine thenK_n ?_
    refine KC.seq ?_
    refine KC.region ?_
    refine KT.step rfl rfl (K.move rfl) ?_
    refine KT.step rfl rfl (K.len rfl hd Try.underlying22) ?_
    rw [hzn]
    refine KT.step rfl rfl (K.move rfl) ?_
    refine KT.nil ?_
    refine thenK_n ?_
    refine KC.block ?_
    refine KC.loop (fun j : Nat => sgQ n n (fun _ _ => 1099511627776) i j) (fun j => [(0, .d d), (4, .osl 0 0 n 1 n true), (15, .d (DI (n : Nat))), (16, .d (DI (i : Nat))), (5, .d (DI (i : Nat))), (26, .d (DI (n : Nat))), (27, .d (DI (j : Nat)))]) (fun j => j ≤ n) (fun j => n - j) 0 (Nat.zero_le _) (sgP_start (by omega)) (by simp [Go.Vm.look, extK, enterK]) ?_
    intro j hj
    refine KC.seq ?_
    refine KC.region ?_
    refine KT.step rfl rfl (K.lss rfl rfl) ?_
    refine KT.nil ?_
    refine thenK_n ?_
    refine KC.seq ?_
    refine KC.cond rfl (fun hc28 => ?_) (fun hc28 => ?_)
    · skip
      replace hc28 := of_decide_eq_true hc28
      refine KC.skip ?_
      refine thenK_n ?_
      refine KC.seq ?_
      refine KC.block ?_
      refine KC.seq ?_
      refine KC.region ?_
      refine KT.step rfl rfl (K.move rfl) ?_
      refine KT.step rfl rfl (K.assign rfl) ?_
      refine KT.nil ?_
      refine thenK_n ?_
      refine KC.region ?_
      refine KT.step rfl rfl (K.move rfl) ?_
      refine KT.step rfl rfl (K.move rfl) ?_
      refine KT.step rfl rfl (K.idxO rfl rfl (by omega) Try.underlying22 Try.size23) ?_
      refine KT.step rfl rfl (K.loadO rfl rfl (by simp) (oslF_get (by omega)) Try.agg23) ?_
      refine KT.step rfl rfl (K.move rfl) ?_
      refine KT.step rfl rfl (K.idxO rfl rfl (by omega) Try.underlying23 Try.size3) ?_
      refine KT.step rfl rfl (K.storeO rfl rfl (sgQ_row i j) (by rw [rowC_len]; omega) rfl rfl Try.size3) ?_
      refine KT.nil ?_
      refine blockK_n ?_
      refine thenK_n ?_
      refine KC.region ?_
      refine KT.step rfl rfl (K.add rfl rfl (wrap_id (by omega))) ?_
      refine KT.step rfl rfl (K.move rfl) ?_
      refine KT.nil ?_
      refine thenK_n ?_
      refine ⟨j + 1, by omega, by omega, sgQ_step (by omega) rfl, by simp [Go.Vm.look, extK]⟩
    · skip
      replace hc28 := of_decide_eq_false hc28
      refine KC.exit ?_
      refine thenK_x ?_
      refine thenK_x ?_
      refine blockK_e ?_
      refine blockK_n ?_
      refine thenK_n ?_
      refine KC.region ?_
      refine KT.step rfl rfl (K.add rfl rfl (wrap_id (by omega))) ?_
      refine KT.step rfl rfl (K.move rfl) ?_
      refine KT.nil ?_
      refine thenK_n ?_
      have hjn : j = n := by omega
      refine ⟨i + 1, by omega, by omega, by rw [hjn, sgQ_end], by simp [Go.Vm.look, extK]⟩
  · skip
    replace hc17 := of_decide_eq_false hc17
    refine KC.exit ?_
    refine thenK_x ?_
    refine thenK_x ?_
    refine blockK_e ?_
    refine thenK_n ?_
    refine KC.seq ?_
    refine KC.seq ?_
    have hin : i = n := by omega
    rw [hin, show (fun _ _ => 1099511627776 : Nat → Nat → Int) = rsM n (atm (zf z)) 0 0 from rsM_zero.symm]
    refine KC.region ?_
    refine KT.step rfl rfl (K.move rfl) ?_
    refine KT.step rfl rfl (K.len rfl hd Try.underlying22) ?_
    rw [hzn]
    refine KT.step rfl rfl (K.move rfl) ?_
    refine KT.nil ?_
    refine thenK_n ?_
    refine KC.block ?_
    refine KC.loop (fun p : List VObj × Nat => sgP n n (rsM n (atm (zf z)) p.2 0) n ++ p.1) (fun p => [(0, .d d), (4, .osl 0 0 n 1 n true), (39, .d (DI (n : Nat))), (40, .d (DI (p.2 : Nat)))]) (fun p => p.2 ≤ n ∧ ∀ i, i < p.2 → ∀ w ∈ waysN n i, rrB n (zf z) (zl w) = false) (fun p => n - p.2) ([], 0) ⟨Nat.zero_le _, fun i h => by omega⟩ (List.append_nil _).symm (by simp [Go.Vm.look, extK, enterK]) ?_
    intro p hp
    obtain ⟨hpn, hno⟩ := hp
    have hWV : Mat (wD n (n + 1) [p.2] (.sl [DI (p.2 : Nat)] 1 (some 1))) ((waysN n p.2).map zl) := (wDs_wr (n + 1) [p.2] _ one_ints).vec
    refine KC.seq ?_
    refine KC.region ?_
    refine KT.step rfl rfl (K.lss rfl rfl) ?_
    refine KT.nil ?_
    refine thenK_n ?_
    refine KC.seq ?_
    refine KC.cond rfl (fun hc41 => ?_) (fun hc41 => ?_)
    · skip
      replace hc41 := of_decide_eq_true hc41
      refine KC.skip ?_
      refine thenK_n ?_
      refine KC.seq ?_
      refine KC.block ?_
      refine KC.seq ?_
      refine KC.region ?_
      refine KT.step rfl rfl (K.move rfl) ?_
      refine KT.step rfl rfl (K.assign rfl) ?_
      refine KT.nil ?_
      refine thenK_n ?_
      refine KC.seq ?_
      refine KC.region ?_
      refine KT.step rfl rfl (K.move rfl) ?_
      refine KT.step rfl rfl (K.len rfl hd Try.underlying22) ?_
      rw [hzn]
      refine KT.step rfl rfl (K.move rfl) ?_
      refine KT.step rfl rfl (K.build1' (v := .d (DI (p.2 : Nat))) rfl rfl Try.underlying23 Try.one3) ?_
      refine KT.step rfl rfl (K.callZ (ds := [DI (n : Nat), .sl [DI (p.2 : Nat)] 1 (some 1)]) [(sgP n n (rsM n (atm (zf z)) p.2 0) n ++ p.1).length] 5 rfl plainTry_92 (map2_deep (deepen_cells (k := 3) (ex := true) (R := 1) (ds := [DI (p.2 : Nat)]) (by rw [frz_last, List.getElem?_concat_length]; rfl) rfl rfl)) (ways92 hn (n + 1) [p.2] _ one_ints (by simp) (by simp; omega) (by simp) (by simp; omega) (by omega))) ?_
      rw [frz_last]
      refine KT.step rfl rfl (K.len (l := (waysN n p.2).map zl) rfl hWV Try.underlying22) ?_
      rw [List.length_map]
      refine KT.step rfl rfl (K.move rfl) ?_
      refine KT.nil ?_
      refine thenK_n ?_
      refine KC.block ?_
      have hwl := waysN_len (i := p.2) hn
      refine KC.loop (fun k : Nat => sgP n n (rsM n (atm (zf z)) p.2 k) n ++ (p.1 ++ [⟨[.d (DI (p.2 : Nat))], 1⟩])) (fun k => [(0, .d d), (4, .osl 0 0 n 1 n true), (39, .d (DI (n : Nat))), (40, .d (DI (p.2 : Nat))), (7, .d (DI (p.2 : Nat))), (47, .d (wD n (n + 1) [p.2] (.sl [DI (p.2 : Nat)] 1 (some 1)))), (48, .d (DI ((waysN n p.2).length : Nat))), (49, .d (DI (k : Nat)))]) (fun k => k ≤ (waysN n p.2).length ∧ ∀ q (hq : q < (waysN n p.2).length), q < k → rrB n (zf z) (zl (waysN n p.2)[q]) = false) (fun k => (waysN n p.2).length - k) 0 ⟨Nat.zero_le _, fun q _ h => by omega⟩ (by rw [List.append_assoc]) (by simp [Go.Vm.look, extK, enterK]) ?_
      intro k hk
      obtain ⟨hk, hno2⟩ := hk
      refine KC.seq ?_
      refine KC.region ?_
      refine KT.step rfl rfl (K.lss rfl rfl) ?_
      refine KT.nil ?_
      refine thenK_n ?_
      refine KC.seq ?_
      refine KC.cond rfl (fun hc50 => ?_) (fun hc50 => ?_)
      · skip
        replace hc50 := of_decide_eq_true hc50
        have hkl : k < (waysN n p.2).length := by omega
        obtain ⟨w1, w2, w3⟩ := way_ok hn (show p.2 < n by omega) hkl
        have hln := lastN_lt (show p.2 < n by omega) hkl
        refine KC.skip ?_
        refine thenK_n ?_
        refine KC.seq ?_
        refine KC.block ?_
        refine KC.seq ?_
        refine KC.region ?_
        refine KT.idx rfl rfl rfl hWV rfl (by rw [List.length_map]; omega) Try.underlying22 Try.size23 fun c51 cs51 hq51 => ?_
        rw [List.getElem_map] at hq51
        refine KT.step rfl rfl (K.load rfl Try.agg23) ?_
        refine KT.step rfl rfl (K.assign rfl) ?_
        refine KT.nil ?_
        refine thenK_n ?_
        refine KC.seq ?_
        refine KC.seq ?_
        refine KC.region ?_
        refine KT.step rfl rfl (K.move rfl) ?_
        refine KT.step rfl rfl (K.move rfl) ?_
        refine KT.step rfl rfl (K.call2 rfl rfl plainTry_22 (Refutes22 hd hs hq51 (by rw [zl_len]; omega))) ?_
        refine KT.nil ?_
        refine thenK_n ?_
        refine KC.cond rfl (fun hc55 => ?_) (fun hc55 => ?_)
        · skip
          refine KC.seq ?_
          refine KC.region ?_
          refine KT.step rfl rfl (K.assign rfl) ?_
          refine KT.step rfl rfl (K.assign rfl) ?_
          refine KT.nil ?_
          refine thenK_n ?_
          refine KC.ret ?_
          refine thenK_r ?_
          refine blockK_r ?_
          refine thenK_r ?_
          refine thenK_r ?_
          refine blockK_r ?_
          refine blockK_r ?_
          refine thenK_r ?_
          refine thenK_r ?_
          refine blockK_r ?_
          refine thenK_r ?_
          have ha : anyR n (zf z) = true := List.any_eq_true.2 ⟨p.2, List.mem_range.2 (by omega), List.any_eq_true.2 ⟨_, List.getElem_mem hkl, by rw [← hc55, hzn]⟩⟩
          exact ⟨.inl rfl, _, rfl, fin_op (by unfold rtD; rw [hzn, ha]; rfl) (by unfold rtE; rw [hzn, ha]; rfl)⟩
        · skip
          refine KC.skip ?_
          refine thenK_n ?_
          refine KC.seq ?_
          refine KC.region ?_
          refine KT.step rfl rfl (K.move rfl) ?_
          refine KT.step rfl rfl (K.move rfl) ?_
          refine KT.step rfl rfl (K.len rfl hq51 Try.underlying23) ?_
          rw [zl_len]
          refine KT.step rfl rfl (K.sub rfl rfl (show IntKind.i64.wrap ((((waysN n p.2)[k].length : Nat) : Int) - 1) = (((waysN n p.2)[k].length - 1 : Nat) : Int) from (wrap_id (by omega)).trans (by omega))) ?_
          refine KT.idxI (m := (waysN n p.2)[k].length - 1) rfl rfl rfl hq51 rfl (by rw [zl_len]; omega) Try.underlying23 Try.size3 fun cs60 => ?_
          rw [zl_get, show ((waysN n p.2)[k]).getD ((waysN n p.2)[k].length - 1) 0 = lastN (waysN n p.2)[k] from rfl]
          refine KT.step rfl rfl (K.load rfl Try.agg3) ?_
          refine KT.step rfl rfl (K.assign rfl) ?_
          refine KT.nil ?_
          refine thenK_n ?_
          refine KC.draw Try.mixed ?_
          refine KT.step rfl rfl (K.move rfl) ?_
          refine KT.step rfl rfl (K.move rfl) ?_
          refine KT.step rfl rfl (K.idxO rfl rfl (by omega) Try.underlying22 Try.size23) ?_
          refine KT.step rfl rfl (K.loadO rfl (get_left rfl) (by simp) (mx_osl (by omega)) Try.agg23) ?_
          refine KT.step rfl rfl (K.move rfl) ?_
          refine KT.step rfl rfl (K.move rfl) ?_
          refine KT.step rfl rfl (K.move rfl) ?_
          refine KT.step rfl rfl (K.idxO rfl rfl (by omega) Try.underlying22 Try.size23) ?_
          refine KT.step rfl rfl (K.loadO rfl (get_left rfl) (by simp) (mx_osl (by omega)) Try.agg23) ?_
          refine KT.step rfl rfl (K.move rfl) ?_
          refine KT.step rfl rfl (K.idxO rfl rfl hln Try.underlying23 Try.size3) ?_
          refine KT.step rfl rfl (K.loadO rfl (get_left (mx_row (by omega))) (by simp) (mx_get hln) Try.agg3) ?_
          refine KT.step rfl rfl (K.move rfl) ?_
          refine KT.step rfl rfl (K.move rfl) ?_
          refine KT.step rfl rfl (K.call2 rfl rfl plainTry_59 (along59 hd hs hq51 (by rw [hzn]; exact w1) (by omega))) ?_
          refine KT.step rfl rfl (K.min2 rfl rfl) ?_
          refine KT.step rfl rfl (K.idxO rfl rfl hln Try.underlying23 Try.size3) ?_
          refine KT.step rfl rfl (K.storeO rfl rfl (get_left (mx_row (by omega))) (by rw [rowC_len]; omega) rfl rfl Try.size3) ?_
          refine KT.nil ?_
          refine ⟨by kernel_rfl, ?_⟩
          refine blockK_n ?_
          refine thenK_n ?_
          refine KC.region ?_
          refine KT.step rfl rfl (K.add rfl rfl (wrap_id (by omega))) ?_
          refine KT.step rfl rfl (K.move rfl) ?_
          refine KT.nil ?_
          refine thenK_n ?_
          refine ⟨k + 1, ⟨by omega, fun q hq h => ?_⟩, by omega, by rw [mx_set' (by omega) hln, rsM_step hkl], by simp [Go.Vm.look, extK]⟩
          by_cases e : q = k
          · subst e; rw [hzn] at hc55; exact hc55
          · exact hno2 q hq (by omega)
      · skip
        replace hc50 := of_decide_eq_false hc50
        refine KC.exit ?_
        refine thenK_x ?_
        refine thenK_x ?_
        refine blockK_e ?_
        refine blockK_n ?_
        refine thenK_n ?_
        refine KC.region ?_
        refine KT.step rfl rfl (K.add rfl rfl (wrap_id (by omega))) ?_
        refine KT.step rfl rfl (K.move rfl) ?_
        refine KT.nil ?_
        refine thenK_n ?_
        refine ⟨(p.1 ++ [⟨[.d (DI (p.2 : Nat))], 1⟩], p.2 + 1), ⟨by simp only; omega, fun i hi w hw => ?_⟩, by simp only; omega, by rw [rsM_next (show (waysN n p.2).length ≤ k by omega)], by simp [Go.Vm.look, extK]⟩
        by_cases e : i = p.2
        · subst e
          obtain ⟨q, hq, rfl⟩ := List.getElem_of_mem hw
          exact hno2 q hq (by omega)
        · exact hno i (by simp only at hi; omega) w hw
    · skip
      replace hc41 := of_decide_eq_false hc41
      refine KC.exit ?_
      refine thenK_x ?_
      refine thenK_x ?_
      refine blockK_e ?_
      refine thenK_n ?_
      refine KC.seq ?_
      refine KC.region ?_
      refine KT.step rfl rfl (K.move rfl) ?_
      refine KT.step rfl rfl (K.assign rfl) ?_
      refine KT.step rfl rfl (K.assign rfl) ?_
      refine KT.nil ?_
      refine thenK_n ?_
      refine KC.ret ?_
      have hpe : p.2 = n := by omega
      have ha : anyR n (zf z) = false := Bool.eq_false_iff.2 fun h => by
        obtain ⟨i, hi, h1⟩ := List.any_eq_true.1 h
        obtain ⟨w, hw, h2⟩ := List.any_eq_true.1 h1
        rw [hno i (by have := List.mem_range.1 hi; omega) w hw] at h2; cases h2
      rw [hpe]
      refine ⟨.inl rfl, _, rfl, deepen_tup2 (dx := rtD z) ?_ |>.trans (by unfold rtE; rw [hzn, ha]; rfl)⟩
      unfold rtD
      rw [hzn, ha]
      exact mx_fin
end Go.Proofs.Ytjfpeiioddfjcaa

