import Derived.Test.YtjfpeiioddfjcaaZnRh
/-
  Zones: the reference: Delay.
-/
namespace Go.Proofs.Ytjfpeiioddfjcaa
open Go.Vm Go.Zn
theorem plainTry_26 : plainFn Try.prog 26 = true := by kernel_rfl
theorem plainTry_64 : plainFn Try.prog 64 = true := by kernel_rfl
theorem plainTry_24 : plainFn Try.prog 24 = true := by kernel_rfl
theorem plainTry_28 : plainFn Try.prog 28 = true := by kernel_rfl

def gbg (i : Nat) : List VObj := (List.range i).map fun k => (⟨[.d (DI (k : Nat))], 1⟩ : VObj)
theorem gbg_succ (i : Nat) : gbg (i + 1) = gbg i ++ [⟨[.d (DI (i : Nat))], 1⟩] := by unfold gbg; rw [List.range_succ, List.map_append]; rfl
theorem K.extractY {P : Program} {σ : List VObj} {kn : Kn} {dst : Option Tmp} {ty : TypeId} {pos : String} {af : Array Edge} {g : Option (Nat × Bool)} {x : Operand} {i : Nat} {xs : List XV} {y : XV} (hx : evK kn x = some (.tup xs)) (hy : xs[i]? = some y) : KEv P ⟨dst, .extract x i, ty, pos, af, g⟩ σ kn y σ 0 := ev_op fun env he => by
  have e1 := evK_evalX he hx
  unfold evalOp
  rw [litOp_none (x := x) (by simp [Op.operands]) (by rw [e1]; rfl)]
  simp [e1, opExtract, hy]
set_option maxHeartbeats 1000000 in
set_option maxRecDepth 10000 in
theorem rtight52_own {d : DV} {z : List (List Int)} {n : Nat} (hd : Mat d z) (hs : Sq z) (hzn : z.length = n) (hno : anyR n (zf z) = false) : OwnCall Try.prog 52 [] [.d d] (sgP n n (rtM n (atm (zf z))) n ++ gbg n) (.tup [.osl 0 0 n 1 n true, .d (DI 0)]) := by
  have hn := hs.hi
  rw [hzn] at hn
  refine ownCall_K Try.func52 rfl (Nat.le_of_ble_eq_true rfl) fun M W0 => ?_
  refine KC.seq ?_
  refine KC.region ?_
  refine KT.step rfl rfl (K.assign rfl) ?_
  refine KT.step rfl rfl (K.assign rfl) ?_
  refine KT.nil ?_
  refine thenK_n ?_
  refine KC.seq ?_
  refine KC.region ?_
  refine KT.step rfl rfl (K.move rfl) ?_
  refine KT.step rfl rfl (K.len rfl hd Try.underlying22) ?_
  rw [hzn]
  refine KT.step rfl rfl (K.make rfl rfl (Nat.le_refl n) (by omega) Try.underlying22 Try.one23) ?_
  refine KT.step rfl rfl (K.assign rfl) ?_
  refine KT.nil ?_
  refine thenK_n ?_
  refine KC.seq ?_
  refine KC.seq ?_
  refine KC.region ?_
  refine KT.step rfl rfl (K.move rfl) ?_
  refine KT.step rfl rfl (K.len rfl hd Try.underlying22) ?_
  rw [hzn]
  refine KT.step rfl rfl (K.move rfl) ?_
  refine KT.nil ?_
  refine thenK_n ?_
  refine KC.block ?_
  refine KC.loop (fun i : Nat => sgP n n (fun _ _ => 1099511627776) i) (fun i => [(0, .d d), (4, .osl 0 0 n 1 n true), (15, .d (DI (n : Nat))), (16, .d (DI (i : Nat)))]) (fun i => i ≤ n) (fun i => n - i) 0 (Nat.zero_le _) sgP_zero.symm (by simp [Go.Vm.look, extK, enterK]) ?_
  intro i hi
  refine KC.seq ?_
  refine KC.region ?_
  refine KT.step rfl rfl (K.lss rfl rfl) ?_
  refine KT.nil ?_
  refine thenK_n ?_
  refine KC.seq ?_
  refine KC.cond rfl (fun hc17 => ?_) (fun hc17 => ?_)
  · skip
    replace hc17 := of_decide_eq_true hc17
    refine KC.skip ?_
    refine thenK_n ?_
    refine KC.seq ?_
    refine KC.block ?_
    refine KC.seq ?_
    refine KC.region ?_
    refine KT.step rfl rfl (K.move rfl) ?_
    refine KT.step rfl rfl (K.assign rfl) ?_
    refine KT.nil ?_
    refine thenK_n ?_
    refine KC.seq ?_
    refine KC.region ?_
    refine KT.step rfl rfl (K.move rfl) ?_
    refine KT.step rfl rfl (K.move rfl) ?_
    refine KT.step rfl rfl (K.move rfl) ?_
    refine KT.step rfl rfl (K.len rfl hd Try.underlying22) ?_
    rw [hzn]
    refine KT.step rfl rfl (K.make rfl rfl (Nat.le_refl n) (by omega) Try.underlying23 Try.one3) ?_
    refine KT.step rfl rfl (K.idxO rfl rfl (by omega) Try.underlying22 Try.size23) ?_
    refine KT.step rfl rfl (K.storeO rfl rfl rfl (by rw [updL_len]; omega) rfl rfl Try.size23) ?_
    refine KT.nil ?_
    refine thenK_n ?_
    refine KC.seq ?_
    refine KC.region ?_
    refine KT.step rfl rfl (K.move rfl) ?_
    refine KT.step rfl rfl (K.len rfl hd Try.underlying22) ?_
    rw [hzn]
    refine KT.step rfl rfl (K.move rfl) ?_
    refine KT.nil ?_
    refine thenK_n ?_
    refine KC.block ?_
    refine KC.loop (fun j : Nat => sgQ n n (fun _ _ => 1099511627776) i j) (fun j => [(0, .d d), (4, .osl 0 0 n 1 n true), (15, .d (DI (n : Nat))), (16, .d (DI (i : Nat))), (5, .d (DI (i : Nat))), (26, .d (DI (n : Nat))), (27, .d (DI (j : Nat)))]) (fun j => j ≤ n) (fun j => n - j) 0 (Nat.zero_le _) (sgP_start (by omega)) (by simp [Go.Vm.look, extK, enterK]) ?_
    intro j hj
    refine KC.seq ?_
    refine KC.region ?_
    refine KT.step rfl rfl (K.lss rfl rfl) ?_
    refine KT.nil ?_
    refine thenK_n ?_
    refine KC.seq ?_
    refine KC.cond rfl (fun hc28 => ?_) (fun hc28 => ?_)
    · skip
      replace hc28 := of_decide_eq_true hc28
      refine KC.skip ?_
      refine thenK_n ?_
      refine KC.seq ?_
      refine KC.block ?_
      refine KC.seq ?_
      refine KC.region ?_
      refine KT.step rfl rfl (K.move rfl) ?_
      refine KT.step rfl rfl (K.assign rfl) ?_
      refine KT.nil ?_
      refine thenK_n ?_
      refine KC.region ?_
      refine KT.step rfl rfl (K.move rfl) ?_
      refine KT.step rfl rfl (K.move rfl) ?_
      refine KT.step rfl rfl (K.idxO rfl rfl (by omega) Try.underlying22 Try.size23) ?_
      refine KT.step rfl rfl (K.loadO rfl rfl (by simp) (oslF_get (by omega)) Try.agg23) ?_
      refine KT.step rfl rfl (K.move rfl) ?_
      refine KT.step rfl rfl (K.idxO rfl rfl (by omega) Try.underlying23 Try.size3) ?_
      refine KT.step rfl rfl (K.storeO rfl rfl (sgQ_row i j) (by rw [rowC_len]; omega) rfl rfl Try.size3) ?_
      refine KT.nil ?_
      refine blockK_n ?_
      refine thenK_n ?_
      refine KC.region ?_
      refine KT.step rfl rfl (K.add rfl rfl (wrap_id (by omega))) ?_
      refine KT.step rfl rfl (K.move rfl) ?_
      refine KT.nil ?_
      refine thenK_n ?_
      refine ⟨j + 1, by omega, by omega, sgQ_step (by omega) rfl, by simp [Go.Vm.look, extK]⟩
    · skip
      replace hc28 := of_decide_eq_false hc28
      refine KC.exit ?_
      refine thenK_x ?_
      refine thenK_x ?_
      refine blockK_e ?_
      refine blockK_n ?_
      refine thenK_n ?_
      refine KC.region ?_
      refine KT.step rfl rfl (K.add rfl rfl (wrap_id (by omega))) ?_
      refine KT.step rfl rfl (K.move rfl) ?_
      refine KT.nil ?_
      refine thenK_n ?_
      have hjn : j = n := by omega
      refine ⟨i + 1, by omega, by omega, by rw [hjn, sgQ_end], by simp [Go.Vm.look, extK]⟩
  · skip
    replace hc17 := of_decide_eq_false hc17
    refine KC.exit ?_
    refine thenK_x ?_
    refine thenK_x ?_
    refine blockK_e ?_
    refine thenK_n ?_
    refine KC.seq ?_
    refine KC.seq ?_
    have hin : i = n := by omega
    rw [hin, show (fun _ _ => 1099511627776 : Nat → Nat → Int) = rsM n (atm (zf z)) 0 0 from rsM_zero.symm]
    refine KC.region ?_
    refine KT.step rfl rfl (K.move rfl) ?_
    refine KT.step rfl rfl (K.len rfl hd Try.underlying22) ?_
    rw [hzn]
    refine KT.step rfl rfl (K.move rfl) ?_
    refine KT.nil ?_
    refine thenK_n ?_
    refine KC.block ?_
    refine KC.loop (fun i2 : Nat => sgP n n (rsM n (atm (zf z)) i2 0) n ++ gbg i2) (fun i2 => [(0, .d d), (4, .osl 0 0 n 1 n true), (39, .d (DI (n : Nat))), (40, .d (DI (i2 : Nat)))]) (fun i2 => i2 ≤ n) (fun i2 => n - i2) 0 (Nat.zero_le _) (List.append_nil _).symm (by simp [Go.Vm.look, extK, enterK]) ?_
    intro i2 hpn
    have hWV : Mat (wD n (n + 1) [i2] (.sl [DI (i2 : Nat)] 1 (some 1))) ((waysN n i2).map zl) := (wDs_wr (n + 1) [i2] _ one_ints).vec
    refine KC.seq ?_
    refine KC.region ?_
    refine KT.step rfl rfl (K.lss rfl rfl) ?_
    refine KT.nil ?_
    refine thenK_n ?_
    refine KC.seq ?_
    refine KC.cond rfl (fun hc41 => ?_) (fun hc41 => ?_)
    · skip
      replace hc41 := of_decide_eq_true hc41
      refine KC.skip ?_
      refine thenK_n ?_
      refine KC.seq ?_
      refine KC.block ?_
      refine KC.seq ?_
      refine KC.region ?_
      refine KT.step rfl rfl (K.move rfl) ?_
      refine KT.step rfl rfl (K.assign rfl) ?_
      refine KT.nil ?_
      refine thenK_n ?_
      refine KC.seq ?_
      refine KC.region ?_
      refine KT.step rfl rfl (K.move rfl) ?_
      refine KT.step rfl rfl (K.len rfl hd Try.underlying22) ?_
      rw [hzn]
      refine KT.step rfl rfl (K.move rfl) ?_
      refine KT.step rfl rfl (K.build1' (v := .d (DI (i2 : Nat))) rfl rfl Try.underlying23 Try.one3) ?_
      refine KT.step rfl rfl (K.callZ (ds := [DI (n : Nat), .sl [DI (i2 : Nat)] 1 (some 1)]) [(sgP n n (rsM n (atm (zf z)) i2 0) n ++ gbg i2).length] 5 rfl plainTry_92 (map2_deep (deepen_cells (k := 3) (ex := true) (R := 1) (ds := [DI (i2 : Nat)]) (by rw [frz_last, List.getElem?_concat_length]; rfl) rfl rfl)) (ways92 hn (n + 1) [i2] _ one_ints (by simp) (by simp; omega) (by simp) (by simp; omega) (by omega))) ?_
      rw [frz_last]
      refine KT.step rfl rfl (K.len (l := (waysN n i2).map zl) rfl hWV Try.underlying22) ?_
      rw [List.length_map]
      refine KT.step rfl rfl (K.move rfl) ?_
      refine KT.nil ?_
      refine thenK_n ?_
      refine KC.block ?_
      have hwl := waysN_len (i := i2) hn
      refine KC.loop (fun k : Nat => sgP n n (rsM n (atm (zf z)) i2 k) n ++ (gbg i2 ++ [⟨[.d (DI (i2 : Nat))], 1⟩])) (fun k => [(0, .d d), (4, .osl 0 0 n 1 n true), (39, .d (DI (n : Nat))), (40, .d (DI (i2 : Nat))), (7, .d (DI (i2 : Nat))), (47, .d (wD n (n + 1) [i2] (.sl [DI (i2 : Nat)] 1 (some 1)))), (48, .d (DI ((waysN n i2).length : Nat))), (49, .d (DI (k : Nat)))]) (fun k => k ≤ (waysN n i2).length) (fun k => (waysN n i2).length - k) 0 (Nat.zero_le _) (by rw [List.append_assoc]) (by simp [Go.Vm.look, extK, enterK]) ?_
      intro k hk
      refine KC.seq ?_
      refine KC.region ?_
      refine KT.step rfl rfl (K.lss rfl rfl) ?_
      refine KT.nil ?_
      refine thenK_n ?_
      refine KC.seq ?_
      refine KC.cond rfl (fun hc50 => ?_) (fun hc50 => ?_)
      · skip
        replace hc50 := of_decide_eq_true hc50
        have hkl : k < (waysN n i2).length := by omega
        obtain ⟨w1, w2, w3⟩ := way_ok hn (show i2 < n by omega) hkl
        have hln := lastN_lt (show i2 < n by omega) hkl
        refine KC.skip ?_
        refine thenK_n ?_
        refine KC.seq ?_
        refine KC.block ?_
        refine KC.seq ?_
        refine KC.region ?_
        refine KT.idx rfl rfl rfl hWV rfl (by rw [List.length_map]; omega) Try.underlying22 Try.size23 fun c51 cs51 hq51 => ?_
        rw [List.getElem_map] at hq51
        refine KT.step rfl rfl (K.load rfl Try.agg23) ?_
        refine KT.step rfl rfl (K.assign rfl) ?_
        refine KT.nil ?_
        refine thenK_n ?_
        refine KC.seq ?_
        refine KC.seq ?_
        refine KC.region ?_
        refine KT.step rfl rfl (K.move rfl) ?_
        refine KT.step rfl rfl (K.move rfl) ?_
        refine KT.step rfl rfl (K.call2 rfl rfl plainTry_22 (Refutes22 hd hs hq51 (by rw [zl_len]; omega))) ?_
        refine KT.nil ?_
        refine thenK_n ?_
        refine KC.cond rfl (fun hc55 => ?_) (fun hc55 => ?_)
        · skip
          have ha : anyR n (zf z) = true := List.any_eq_true.2 ⟨i2, List.mem_range.2 (by omega), List.any_eq_true.2 ⟨_, List.getElem_mem hkl, by rw [← hc55, hzn]⟩⟩
          rw [hno] at ha; cases ha
        · skip
          refine KC.skip ?_
          refine thenK_n ?_
          refine KC.seq ?_
          refine KC.region ?_
          refine KT.step rfl rfl (K.move rfl) ?_
          refine KT.step rfl rfl (K.move rfl) ?_
          refine KT.step rfl rfl (K.len rfl hq51 Try.underlying23) ?_
          rw [zl_len]
          refine KT.step rfl rfl (K.sub rfl rfl (show IntKind.i64.wrap ((((waysN n i2)[k].length : Nat) : Int) - 1) = (((waysN n i2)[k].length - 1 : Nat) : Int) from (wrap_id (by omega)).trans (by omega))) ?_
          refine KT.idxI (m := (waysN n i2)[k].length - 1) rfl rfl rfl hq51 rfl (by rw [zl_len]; omega) Try.underlying23 Try.size3 fun cs60 => ?_
          rw [zl_get, show ((waysN n i2)[k]).getD ((waysN n i2)[k].length - 1) 0 = lastN (waysN n i2)[k] from rfl]
          refine KT.step rfl rfl (K.load rfl Try.agg3) ?_
          refine KT.step rfl rfl (K.assign rfl) ?_
          refine KT.nil ?_
          refine thenK_n ?_
          refine KC.draw Try.mixed ?_
          refine KT.step rfl rfl (K.move rfl) ?_
          refine KT.step rfl rfl (K.move rfl) ?_
          refine KT.step rfl rfl (K.idxO rfl rfl (by omega) Try.underlying22 Try.size23) ?_
          refine KT.step rfl rfl (K.loadO rfl (get_left rfl) (by simp) (mx_osl (by omega)) Try.agg23) ?_
          refine KT.step rfl rfl (K.move rfl) ?_
          refine KT.step rfl rfl (K.move rfl) ?_
          refine KT.step rfl rfl (K.move rfl) ?_
          refine KT.step rfl rfl (K.idxO rfl rfl (by omega) Try.underlying22 Try.size23) ?_
          refine KT.step rfl rfl (K.loadO rfl (get_left rfl) (by simp) (mx_osl (by omega)) Try.agg23) ?_
          refine KT.step rfl rfl (K.move rfl) ?_
          refine KT.step rfl rfl (K.idxO rfl rfl hln Try.underlying23 Try.size3) ?_
          refine KT.step rfl rfl (K.loadO rfl (get_left (mx_row (by omega))) (by simp) (mx_get hln) Try.agg3) ?_
          refine KT.step rfl rfl (K.move rfl) ?_
          refine KT.step rfl rfl (K.move rfl) ?_
          refine KT.step rfl rfl (K.call2 rfl rfl plainTry_59 (along59 hd hs hq51 (by rw [hzn]; exact w1) (by omega))) ?_
          refine KT.step rfl rfl (K.min2 rfl rfl) ?_
          refine KT.step rfl rfl (K.idxO rfl rfl hln Try.underlying23 Try.size3) ?_
          refine KT.step rfl rfl (K.storeO rfl rfl (get_left (mx_row (by omega))) (by rw [rowC_len]; omega) rfl rfl Try.size3) ?_
          refine KT.nil ?_
          refine ⟨by kernel_rfl, ?_⟩
          refine blockK_n ?_
          refine thenK_n ?_
          refine KC.region ?_
          refine KT.step rfl rfl (K.add rfl rfl (wrap_id (by omega))) ?_
          refine KT.step rfl rfl (K.move rfl) ?_
          refine KT.nil ?_
          refine thenK_n ?_
          refine ⟨k + 1, by omega, by omega, by rw [mx_set' (by omega) hln, rsM_step hkl], by simp [Go.Vm.look, extK]⟩
      · skip
        replace hc50 := of_decide_eq_false hc50
        refine KC.exit ?_
        refine thenK_x ?_
        refine thenK_x ?_
        refine blockK_e ?_
        refine blockK_n ?_
        refine thenK_n ?_
        refine KC.region ?_
        refine KT.step rfl rfl (K.add rfl rfl (wrap_id (by omega))) ?_
        refine KT.step rfl rfl (K.move rfl) ?_
        refine KT.nil ?_
        refine thenK_n ?_
        refine ⟨i2 + 1, by omega, by omega, by rw [gbg_succ, rsM_next (show (waysN n i2).length ≤ k by omega)], by simp [Go.Vm.look, extK]⟩
    · skip
      replace hc41 := of_decide_eq_false hc41
      refine KC.exit ?_
      refine thenK_x ?_
      refine thenK_x ?_
      refine blockK_e ?_
      refine thenK_n ?_
      refine KC.seq ?_
      refine KC.region ?_
      refine KT.step rfl rfl (K.move rfl) ?_
      refine KT.step rfl rfl (K.assign rfl) ?_
      refine KT.step rfl rfl (K.assign rfl) ?_
      refine KT.nil ?_
      refine thenK_n ?_
      refine KC.ret ?_
      have hpe : i2 = n := by omega
      exact ⟨.inl rfl, rfl, by rw [hpe]; rfl⟩
set_option maxRecDepth 10000 in
theorem rTight17_own {d : DV} {z : List (List Int)} {n : Nat} (hd : Mat d z) (hl : z.length ≤ 9223372036854775807) (hr : ∀ r ∈ z, r.length ≤ 9223372036854775807) (hv : validZ z = true) (hzn : z.length = n) (hno : anyR n (zf z) = false) : OwnCall Try.prog 17 [] [.d d] (sgP n n (rtM n (atm (zf z))) n ++ gbg n) (.tup [.osl 0 0 n 1 n true, .d (DI 0)]) := by
  refine ownCall_K Try.func17 rfl (Nat.le_of_ble_eq_true rfl) fun M W0 => ?_
  refine KC.seq ?_
  refine KC.region ?_
  refine KT.step rfl rfl (K.assign rfl) ?_
  refine KT.step rfl rfl (K.assign rfl) ?_
  refine KT.nil ?_
  refine thenK_n ?_
  refine KC.seq ?_
  refine KC.seq ?_
  refine KC.region ?_
  refine KT.step rfl rfl (K.move rfl) ?_
  refine KT.step rfl rfl (K.call1 rfl plainTry_36 (Valid36 hd hl hr)) ?_
  refine KT.step rfl rfl (K.not rfl) ?_
  refine KT.nil ?_
  refine thenK_n ?_
  refine KC.cond rfl (fun hc6 => ?_) (fun hc6 => ?_)
  · skip
    rw [hv] at hc6; cases hc6
  · skip
    refine KC.skip ?_
    refine thenK_n ?_
    refine KC.seq ?_
    refine KC.region ?_
    refine KT.step rfl rfl (K.move rfl) ?_
    refine KT.step rfl rfl (K.callO rfl plainTry_52 (rtight52_own hd (sq_of hv) hzn hno)) ?_
    refine KT.step rfl rfl (K.extractY rfl rfl) ?_
    refine KT.step rfl rfl (K.extractY rfl rfl) ?_
    refine KT.step rfl rfl (K.assign rfl) ?_
    refine KT.step rfl rfl (K.assign rfl) ?_
    refine KT.nil ?_
    refine thenK_n ?_
    refine KC.ret ?_
    exact ⟨.inl rfl, rfl, rfl⟩

def rdZ (z : List (List Int)) : List (List Int) := genM z.length z.length (delM z.length (rtM z.length (atm (zf z))))
def rdE (z : List (List Int)) : Int := if rTE z = 0 then rtE (rdZ z) else rTE z
def rdD (z : List (List Int)) : DV := if rTE z = 0 then rtD (rdZ z) else Dnil
theorem rTE_zero {z : List (List Int)} (h : rTE z = 0) : validZ z = true ∧ anyR z.length (zf z) = false := by
  unfold rTE rtE at h
  split at h
  · rename_i hv
    split at h
    · cases h
    · rename_i ha; exact ⟨hv, Bool.eq_false_iff.2 ha⟩
  · cases h
theorem rt_eq {z : List (List Int)} (h : rTE z = 0) : ∀ i j, i < z.length → j < z.length → rtM z.length (atm (zf z)) i j = tightM z.length (zf z) i j := by
  obtain ⟨hv, ha⟩ := rTE_zero h
  exact (rt_tight (validZ_rows hv).2.1 (zf5 hv)).2 ha
theorem genM_delM {n : Nat} {f g : Nat → Nat → Int} (h : ∀ i j, i < n → j < n → f i j = g i j) : genM n n (delM n f) = genM n n (delM n g) := genM_eq' fun i hi j hj => by
  unfold delM delP
  split
  · rfl
  · exact h i j hi hj
theorem zf_genM {n : Nat} {a : Nat → Nat → Int} {x y : Nat} (hx : x < n) (hy : y < n) : zf (genM n n a) x y = a x y := by
  unfold zf
  rw [genM_row' hx, List.getD_eq_getElem?_getD, List.getElem?_map, List.getElem?_range hy]; rfl
theorem zf_genM_good {n : Nat} {a : Nat → Nat → Int} (h : ∀ i j, i < n → j < n → Zg 20480000 (a i j)) : ZgM 20480000 (zf (genM n n a)) := fun x y => by
  by_cases hc : x < n ∧ y < n
  · rw [zf_genM hc.1 hc.2]; exact h x y hc.1 hc.2
  · unfold zf
    by_cases hx : x < n
    · rw [genM_row' hx, getD_over (by simp; omega)]; exact .inr ⟨by omega, by omega⟩
    · rw [getD_over (l := genM n n a) (by rw [genM_length]; omega)]
      exact .inr ⟨by show (-20480000 : Int) ≤ ([] : List Int).getD y 0; simp, by show ([] : List Int).getD y 0 ≤ (20480000 : Int); simp⟩
theorem rdZ_sq {z : List (List Int)} (h : rTE z = 0) : Sq (rdZ z) := by
  obtain ⟨hv, _⟩ := rTE_zero h
  have h0 : tgE z = 0 := rT_tg.1.symm.trans h
  have hg := (del_ok (tg_ok h0)).good
  refine sq_gen (by have := (validZ_rows hv).1; omega) (validZ_rows hv).2.1 (zf_genM_good fun i j hi hj => ?_)
  have := hg i j
  unfold delM delP at this ⊢
  split at this
  · rename_i hc; rw [if_pos hc]; exact this
  · rename_i hc; rw [if_neg hc, rt_eq h i j hi hj]; exact this
theorem map1_deep {σ : List VObj} {k : Nat} {dy : DV} {y : XV} (h : deepen σ (k + 1) y = some dy) : ([y] : List XV).mapM (deepen σ (k + 1)) = some [dy] := by
  rw [List.mapM_cons, h]; rfl
set_option maxRecDepth 10000 in
theorem rDelay26_err {d : DV} {z : List (List Int)} (hd : Mat d z) (hl : z.length ≤ 9223372036854775807) (hr : ∀ r ∈ z, r.length ≤ 9223372036854775807) (h : rTE z ≠ 0) : DeepCall Try.prog 26 [d] (.tup [Dnil, DI (rTE z)]) := by
  refine deepCall_K 5 Try.func26 rfl (Nat.le_of_ble_eq_true rfl) fun M W0 => ?_
  refine KC.seq ?_
  refine KC.region ?_
  refine KT.step rfl rfl (K.assign rfl) ?_
  refine KT.step rfl rfl (K.assign rfl) ?_
  refine KT.nil ?_
  refine thenK_n ?_
  refine KC.seq ?_
  refine KC.region ?_
  refine KT.step rfl rfl (K.move rfl) ?_
  refine KT.step rfl rfl (K.call1 rfl plainTry_17 (rTight17 hd hl hr)) ?_
  refine KT.step rfl rfl (K.move rfl) ?_
  refine KT.step rfl rfl (K.extract rfl rfl) ?_
  refine KT.step rfl rfl (K.extract rfl rfl) ?_
  refine KT.step rfl rfl (K.assign rfl) ?_
  refine KT.step rfl rfl (K.assign rfl) ?_
  refine KT.nil ?_
  refine thenK_n ?_
  refine KC.seq ?_
  refine KC.seq ?_
  refine KC.region ?_
  refine KT.step rfl rfl (K.move rfl) ?_
  refine KT.step rfl rfl (K.neq rfl rfl) ?_
  refine KT.nil ?_
  refine thenK_n ?_
  refine KC.cond rfl (fun hc13 => ?_) (fun hc13 => ?_)
  · skip
    replace hc13 := of_decide_eq_true hc13
    refine KC.seq ?_
    refine KC.region ?_
    refine KT.step rfl rfl (K.move rfl) ?_
    refine KT.step rfl rfl (K.assign rfl) ?_
    refine KT.step rfl rfl (K.assign rfl) ?_
    refine KT.nil ?_
    refine thenK_n ?_
    refine KC.ret ?_
    refine thenK_r ?_
    exact ⟨.inl rfl, _, rfl, rfl⟩
  · skip
    exact absurd h (of_decide_eq_false hc13)
set_option maxRecDepth 10000 in
theorem rDelay26_ok {d : DV} {z : List (List Int)} (hd : Mat d z) (hl : z.length ≤ 9223372036854775807) (hr : ∀ r ∈ z, r.length ≤ 9223372036854775807) (h : rTE z = 0) : DeepCall Try.prog 26 [d] (.tup [rtD (rdZ z), DI (rtE (rdZ z))]) := by
  obtain ⟨hv, hno⟩ := rTE_zero h
  have hn := (validZ_rows hv).2.1
  have h2 := (validZ_rows hv).1
  refine deepCall_K 6 Try.func26 rfl (Nat.le_of_ble_eq_true rfl) fun M W0 => ?_
  refine KC.seq ?_
  refine KC.region ?_
  refine KT.step rfl rfl (K.assign rfl) ?_
  refine KT.step rfl rfl (K.assign rfl) ?_
  refine KT.nil ?_
  refine thenK_n ?_
  refine KC.seq ?_
  refine KC.region ?_
  refine KT.step rfl rfl (K.move rfl) ?_
  refine KT.step rfl rfl (K.callO rfl plainTry_17 (rTight17_own hd hl hr hv rfl hno)) ?_
  refine KT.step rfl rfl (K.move rfl) ?_
  refine KT.step rfl rfl (K.extractY rfl rfl) ?_
  refine KT.step rfl rfl (K.extractY rfl rfl) ?_
  refine KT.step rfl rfl (K.assign rfl) ?_
  refine KT.step rfl rfl (K.assign rfl) ?_
  refine KT.nil ?_
  refine thenK_n ?_
  refine KC.seq ?_
  refine KC.seq ?_
  refine KC.region ?_
  refine KT.step rfl rfl (K.move rfl) ?_
  refine KT.step rfl rfl (K.neq rfl rfl) ?_
  refine KT.nil ?_
  refine thenK_n ?_
  refine KC.cond rfl (fun hc13 => ?_) (fun hc13 => ?_)
  · skip
    cases hc13
  · skip
    replace hc13 := of_decide_eq_false hc13
    refine KC.skip ?_
    refine thenK_n ?_
    refine KC.seq ?_
    refine KC.seq ?_
    refine KC.region ?_
    refine KT.step rfl rfl (K.assign rfl) ?_
    refine KT.nil ?_
    refine thenK_n ?_
    refine KC.block ?_
    refine KC.loop (fun i : Nat => sgP z.length z.length (delP (rtM z.length (atm (zf z))) i) z.length ++ gbg z.length) (fun i => [(4, .osl 0 0 z.length 1 z.length true), (6, .d (DI (i : Nat)))]) (fun i => 1 ≤ i ∧ i ≤ z.length) (fun i => z.length - i) 1 ⟨Nat.le_refl _, by omega⟩ (by rw [delP_one]) (by simp [Go.Vm.look, extK, enterK]) ?_
    intro i hi
    obtain ⟨hi1, hi⟩ := hi
    refine KC.seq ?_
    refine KC.seq ?_
    refine KC.region ?_
    refine KT.step rfl rfl (K.move rfl) ?_
    refine KT.step rfl rfl (K.move rfl) ?_
    refine KT.step rfl rfl (K.lenO rfl Try.underlying22) ?_
    refine KT.step rfl rfl (K.lss rfl rfl) ?_
    refine KT.nil ?_
    refine thenK_n ?_
    refine KC.cond rfl (fun hc18 => ?_) (fun hc18 => ?_)
    · skip
      replace hc18 := of_decide_eq_true hc18
      refine KC.skip ?_
      refine thenK_n ?_
      refine KC.seq ?_
      refine KC.block ?_
      refine KC.region ?_
      refine KT.step rfl rfl (K.move rfl) ?_
      refine KT.step rfl rfl (K.move rfl) ?_
      refine KT.step rfl rfl (K.idxO rfl rfl (by omega) Try.underlying22 Try.size23) ?_
      refine KT.step rfl rfl (K.loadO rfl (get_left rfl) (by simp) (mx_osl (by omega)) Try.agg23) ?_
      refine KT.step rfl rfl (K.idxO (m := 0) rfl rfl (by omega) Try.underlying23 Try.size3) ?_
      refine KT.step rfl rfl (K.storeO rfl rfl (get_left (mx_row (by omega))) (by rw [rowC_len]; omega) rfl rfl Try.size3) ?_
      refine KT.nil ?_
      refine blockK_n ?_
      refine thenK_n ?_
      refine KC.region ?_
      refine KT.step rfl rfl (K.move rfl) ?_
      refine KT.step rfl rfl (K.add rfl rfl (oneN (by omega))) ?_
      refine KT.step rfl rfl (K.assign rfl) ?_
      refine KT.nil ?_
      refine thenK_n ?_
      refine ⟨i + 1, ⟨by omega, by omega⟩, by omega, by rw [mx_set' (by omega) (by omega), set2_delP hi1], by simp [Go.Vm.look, extK]⟩
    · skip
      replace hc18 := of_decide_eq_false hc18
      refine KC.exit ?_
      refine thenK_x ?_
      refine thenK_x ?_
      refine blockK_e ?_
      refine thenK_n ?_
      refine KC.seq ?_
      refine KC.region ?_
      refine KT.step rfl rfl (K.move rfl) ?_
      have hie : i = z.length := by omega
      refine KT.step rfl rfl (K.callZ (ds := [genD z.length z.length (delP (rtM z.length (atm (zf z))) i)]) (List.range (sgP z.length z.length (delP (rtM z.length (atm (zf z))) i) z.length ++ gbg z.length).length) 5 rfl plainTry_52 (by rw [freeze_range]; exact map1_deep mx_fin) (rtight52 genD_mat (by rw [hie]; exact rdZ_sq h))) ?_
      refine KT.step rfl rfl (K.extract rfl rfl) ?_
      refine KT.step rfl rfl (K.extract rfl rfl) ?_
      refine KT.step rfl rfl (K.assign rfl) ?_
      refine KT.step rfl rfl (K.assign rfl) ?_
      refine KT.nil ?_
      refine thenK_n ?_
      refine KC.ret ?_
      exact ⟨.inl rfl, _, rfl, by rw [hie]; rfl⟩

theorem rDelay26 {d : DV} {z : List (List Int)} (hd : Mat d z) (hl : z.length ≤ 9223372036854775807) (hr : ∀ r ∈ z, r.length ≤ 9223372036854775807) : DeepCall Try.prog 26 [d] (.tup [rdD z, DI (rdE z)]) := by
  by_cases h : rTE z = 0
  · unfold rdD rdE
    rw [if_pos h, if_pos h]
    exact rDelay26_ok hd hl hr h
  · unfold rdD rdE
    rw [if_neg h, if_neg h]
    exact rDelay26_err hd hl hr h
end Go.Proofs.Ytjfpeiioddfjcaa

