/-
  Times: transposes; the law CycleTurned.
-/
import Derived.Test.YthbnnffmhnjpjaaCyU
import Derived.Test.YthbnnffmhnjpjaaCyZ
namespace Go.Proofs.Ythbnnffmhnjpjaa
open Go.Vm Go.Cy
theorem plainTry_46 : plainFn Try.prog 46 = true := by kernel_rfl
theorem plainTry_17 : plainFn Try.prog 17 = true := by kernel_rfl

theorem bytes3 : bytesT Try.prog 3 ≤ 65536 := of_decide_eq_true (by kernel_rfl)
theorem cells3 : (zeroT Try.prog 3).map (·.cells.size) = some 1 := by kernel_rfl
theorem icells_snoc (f : Nat → Int) (i : Nat) : icells ((List.range (i + 1)).map f) = icells ((List.range i).map f) ++ [.d (DI (f i))] := by simp [icells, List.range_succ]
theorem ic_sl {σ : List VObj} {y : XV} {f : Nat → Int} {n : Nat} (hn : 0 < n) (h : OwnK 1 σ y (icells ((List.range n).map f))) : ∃ id, y = oslT n id ∧ σ[id]? = some ⟨icells ((List.range n).map f), 0⟩ := by
  generalize hc : icells ((List.range n).map f) = l at h
  cases h with
  | nil => have := congrArg List.length hc; simp [icells] at this; omega
  | @sl id k cells h hk =>
    have e := congrArg List.length hc
    rw [icells_len, List.length_map, List.length_range] at e
    have : k = n := by omega
    subst this
    exact ⟨id, rfl, h⟩
theorem rbytes : bytesT Try.prog 33 ≤ 65536 := bytes33
set_option maxRecDepth 10000 in
theorem turned46 {d : DV} {n : Nat} {a : Nat → Nat → Int} (hd : Mat d (genM n n a)) (h1 : 1 ≤ n) (hn : n ≤ 1000) : DeepCall Try.prog 46 [d] (genT n (tr a) n) := by
  refine deepCall_K 5 Try.func46 rfl (Nat.le_of_ble_eq_true rfl) fun M W0 => ?_
  refine KC.seq ?_
  refine KC.region ?_
  refine KT.step rfl rfl (K.assign rfl) ?_
  refine KT.nil ?_
  refine thenK_n ?_
  refine KC.seq ?_
  refine KC.region ?_
  refine KT.step rfl rfl (K.assign rfl) ?_
  refine KT.nil ?_
  refine thenK_n ?_
  refine KC.seq ?_
  refine KC.seq ?_
  refine KC.region ?_
  refine KT.step rfl rfl (K.move rfl) ?_
  refine KT.step rfl rfl (K.len rfl hd Try.underlying22) ?_
  rw [genM_len]
  refine KT.step rfl rfl (K.move rfl) ?_
  refine KT.nil ?_
  refine thenK_n ?_
  refine KC.block ?_
  refine KC.loop (fun p : List VObj × XV × List Nat => p.1) (fun p => [(0, .d d), (9, .d (DI (n : Nat))), (3, p.2.1), (8, .d d), (10, .d (DI (p.2.2.length : Nat)))]) (fun p => p.2.2.length ≤ n ∧ TRows n (tr a) p.1 p.2.1 p.2.2) (fun p => n - p.2.2.length) ([], .d Dnil, []) ⟨Nat.zero_le _, .zero⟩ rfl (by simp [Go.Vm.look, extK, enterK]) ?_
  intro p hp
  obtain ⟨σ0, x0, ids⟩ := p
  obtain ⟨hi, rows⟩ := hp
  simp only at hi rows ⊢
  refine KC.seq ?_
  refine KC.region ?_
  refine KT.step rfl rfl (K.lss rfl rfl) ?_
  refine KT.nil ?_
  refine thenK_n ?_
  refine KC.seq ?_
  refine KC.cond rfl (fun hc11 => ?_) (fun hc11 => ?_)
  · skip
    replace hc11 := of_decide_eq_true hc11
    have hin : ids.length < n := by omega
    refine KC.skip ?_
    refine thenK_n ?_
    refine KC.seq ?_
    refine KC.block ?_
    refine KC.seq ?_
    refine KC.region ?_
    refine KT.step rfl rfl (K.move rfl) ?_
    refine KT.step rfl rfl (K.assign rfl) ?_
    refine KT.nil ?_
    refine thenK_n ?_
    refine KC.seq ?_
    refine KC.region ?_
    refine KT.step rfl rfl (K.assign rfl) ?_
    refine KT.nil ?_
    refine thenK_n ?_
    refine KC.seq ?_
    refine KC.seq ?_
    refine KC.region ?_
    refine KT.step rfl rfl (K.move rfl) ?_
    refine KT.step rfl rfl (K.len rfl hd Try.underlying22) ?_
    rw [genM_len]
    refine KT.step rfl rfl (K.move rfl) ?_
    refine KT.nil ?_
    refine thenK_n ?_
    refine KC.block ?_
    refine KC.loop (fun p : List VObj × XV × Nat => p.1) (fun p => [(0, .d d), (9, .d (DI (n : Nat))), (3, x0), (8, .d d), (10, .d (DI (ids.length : Nat))), (4, .d (DI (ids.length : Nat))), (5, p.2.1), (13, .d d), (14, .d (DI (n : Nat))), (15, .d (DI (p.2.2 : Nat)))]) (fun p => p.2.2 ≤ n ∧ TRows n (tr a) p.1 x0 ids ∧ OwnK 1 p.1 p.2.1 (icells ((List.range p.2.2).map fun r => a r ids.length)) ∧ ((∀ j, idX p.2.1 = some j → j ∉ ids) ∧ ∀ j, idX p.2.1 = some j → idX x0 ≠ some j)) (fun p => n - p.2.2) (σ0, .d Dnil, 0) ⟨Nat.zero_le _, rows, .nil, (fun j h => by cases h), fun j h => by cases h⟩ rfl (by simp [Go.Vm.look, extK, enterK]) ?_
    clear rows
    intro p hp
    obtain ⟨σ3, y, i⟩ := p
    obtain ⟨hi2, rows, hy, hyd⟩ := hp
    simp only at hi2 rows hy hyd ⊢
    refine KC.seq ?_
    refine KC.region ?_
    refine KT.step rfl rfl (K.lss rfl rfl) ?_
    refine KT.nil ?_
    refine thenK_n ?_
    refine KC.seq ?_
    refine KC.cond rfl (fun hc16 => ?_) (fun hc16 => ?_)
    · skip
      replace hc16 := of_decide_eq_true hc16
      refine KC.skip ?_
      refine thenK_n ?_
      refine KC.seq ?_
      refine KC.block ?_
      refine KC.seq ?_
      refine KC.region ?_
      refine KT.idx rfl rfl rfl (by assumption) rfl (by rw [genM_len]; omega) Try.underlying22 Try.size33 fun c17 cs17 hq17 => ?_
      rw [genM_row] at hq17
      refine KT.step rfl rfl (K.load rfl Try.agg33) ?_
      refine KT.step rfl rfl (K.assign rfl) ?_
      refine KT.nil ?_
      refine thenK_n ?_
      refine KC.region ?_
      refine KT.step rfl rfl (K.move rfl) ?_
      refine KT.step rfl rfl (K.move rfl) ?_
      refine KT.step rfl rfl (K.move rfl) ?_
      refine KT.idxI rfl rfl rfl (by assumption) rfl (by simp; omega) Try.underlying33 Try.size3 fun cs22 => ?_
      rw [get_range]
      refine KT.step rfl rfl (K.load rfl Try.agg3) ?_
      refine KT.step rfl rfl (K.build1' (v := .d (DI (a i ids.length))) rfl rfl Try.underlying33 Try.one3) ?_
      refine KT.appK (k := 1) (vs := [.d (DI (a i ids.length))]) rfl rfl rfl rfl (hy.pushed _) (List.getElem?_concat_length ..) rfl rfl (by rw [icells_len, List.length_map, List.length_range]; omega) Try.underlying33 Try.size3 bytes3 cells3 (by omega) fun σ1 y1 ho1 k1 w1 => ?_
      have hrow1 : TRows n (tr a) σ1 x0 ids := rows.keep fun j hj hm => by
        rw [k1 j (fun e => by rcases hm with hm | hm; exact hyd.1 j e hm; exact hyd.2 j e hm) (by simp; omega), List.getElem?_append_left hj]
      have hyd1 : (∀ j, idX y1 = some j → j ∉ ids) ∧ ∀ j, idX y1 = some j → idX x0 ≠ some j := by
        obtain ⟨j1, w2, w3⟩ := w1
        simp only [List.length_append, List.length_cons, List.length_nil] at w3
        exact ⟨fun j hj hm => by rw [w2] at hj; cases hj; have := rows.lt (.inl hm); omega, fun j hj hm => by rw [w2] at hj; cases hj; have := rows.lt (.inr hm); omega⟩
      rw [show icells ((List.range i).map fun r => a r ids.length) ++ [.d (DI (a i ids.length))] = icells ((List.range (i + 1)).map fun r => a r ids.length) from (icells_snoc (fun r => a r ids.length) i).symm] at ho1
      refine KT.step rfl rfl (K.assign rfl) ?_
      refine KT.nil ?_
      refine blockK_n ?_
      refine thenK_n ?_
      refine KC.region ?_
      refine KT.step rfl rfl (K.add rfl rfl (wrap_id (by omega))) ?_
      refine KT.step rfl rfl (K.move rfl) ?_
      refine KT.nil ?_
      refine thenK_n ?_
      exact ⟨(σ1, y1, i + 1), ⟨by simp only; omega, hrow1, ho1, hyd1⟩, by simp only; omega, rfl, by simp [Go.Vm.look, extK]⟩
    · skip
      replace hc16 := of_decide_eq_false hc16
      refine KC.exit ?_
      refine thenK_x ?_
      refine thenK_x ?_
      refine blockK_e ?_
      refine thenK_n ?_
      refine KC.region ?_
      refine KT.step rfl rfl (K.move rfl) ?_
      refine KT.step rfl rfl (K.move rfl) ?_
      have hin2 : i = n := by omega
      rw [hin2] at hy
      obtain ⟨idr, rfl, hyr⟩ := ic_sl (by omega) hy
      have hyx := hyd.2 idr rfl
      refine KT.step rfl rfl (K.build1' (v := oslT n idr) rfl rfl Try.underlying22 Try.one33) ?_
      refine KT.appK (k := 1) (vs := [oslT n idr]) rfl rfl rfl rfl (rows.own.pushed _) (List.getElem?_concat_length ..) rfl rfl (by simp; omega) Try.underlying22 Try.size33 bytes33 cells33 (by omega) fun σ2 x2 ho2 k2 w2 => ?_
      have hrows2 := rows.push (σ1 := σ2) hyr hyx ho2 k2 w2
      refine KT.step rfl rfl (K.assign rfl) ?_
      refine KT.nil ?_
      refine blockK_n ?_
      refine thenK_n ?_
      refine KC.region ?_
      refine KT.step rfl rfl (K.add rfl rfl (wrap_id (by omega))) ?_
      refine KT.step rfl rfl (K.move rfl) ?_
      refine KT.nil ?_
      refine thenK_n ?_
      exact ⟨(σ2, x2, ids ++ [idr]), ⟨by simp; omega, hrows2⟩, by simp; omega, rfl, by simp [Go.Vm.look, extK]⟩
  · skip
    replace hc11 := of_decide_eq_false hc11
    have hin : ids.length = n := by omega
    refine KC.exit ?_
    refine thenK_x ?_
    refine thenK_x ?_
    refine blockK_e ?_
    refine thenK_n ?_
    refine KC.seq ?_
    refine KC.region ?_
    refine KT.step rfl rfl (K.move rfl) ?_
    refine KT.step rfl rfl (K.assign rfl) ?_
    refine KT.nil ?_
    refine thenK_n ?_
    refine KC.ret ?_
    refine ⟨.inl rfl, _, rfl, ?_⟩
    rw [rows.fin (by omega), hin]

/-- What the program says of a transpose. -/
theorem tr_meas {m : List (List Int)} (h : validB 1000 m = true) : measE (trM m) = measE m ∧ measF (trM m) = measF m := by
  obtain ⟨sm, _⟩ := Cy.Small.of h
  have e : meanI (trM m).length (mf (trM m)) = meanI m.length (mf m) := by rw [trM_len, trM_mf sm, sm.mean_tr]
  exact ⟨by unfold measE; rw [trM_valid h, h, e], by unfold measF; rw [trM_valid h, h, e]⟩
theorem tr_gain {m : List (List Int)} (h : validB 1000 m = true) : gainM (trM m) = tr (gainM m) := by
  obtain ⟨sm, _⟩ := Cy.Small.of h
  unfold gainM
  rw [(tr_meas h).2, trM_mf sm]; rfl
theorem tr_conn {m : List (List Int)} (h : validB 1000 m = true) : connE (trM m) = connE m := by
  by_cases h0 : measE m = 0
  · have h0' : measE (trM m) = 0 := by rw [(tr_meas h).1]; exact h0
    obtain ⟨hg, _⟩ := meas_G h0
    have e : waysI (trM m).length (gainM (trM m)) = tr (waysI m.length (gainM m)) := by rw [trM_len, tr_gain h, ways_tr hg.gd (by omega) hg.sup (by omega) (by have := hg.n6; omega)]
    have hc : conP (trM m) ↔ conP m := by
      unfold conP
      rw [e, trM_len]
      exact ⟨fun k i hi j hj => k j hj i hi, fun k i hi j hj => k j hj i hi⟩
    by_cases hp : conP m
    · rw [connE_yes h0 hp, connE_yes h0' (hc.2 hp)]
    · rw [connE_no h0 hp, connE_no h0' fun k => hp (hc.1 k)]
  · have h0' : ¬ measE (trM m) = 0 := by rw [(tr_meas h).1]; exact h0
    unfold connE
    rw [(tr_meas h).1]
    by_cases h5 : measE m = 5
    · rw [if_pos h5, if_pos h5]
    · rw [if_neg h5, if_neg h5, if_pos h0, if_pos h0]
theorem tr_per {m : List (List Int)} (h : validB 1000 m = true) : perI (trM m) = perI m ∧ perP (trM m) = perP m ∧ perE (trM m) = perE m := by
  by_cases hc : connE m = 0
  · have hc' : connE (trM m) = 0 := by rw [tr_conn h]; exact hc
    obtain ⟨hm0, _⟩ := connE_inv hc
    obtain ⟨hg, _⟩ := meas_G hm0
    have e1 : repK (trM m).length (gainM (trM m)) = repK m.length (gainM m) := by rw [trM_len, tr_gain h, hg.rep_tr]
    have e2 : cycI (trM m).length (gainM (trM m)) = cycI m.length (gainM m) := by rw [trM_len, tr_gain h, hg.cyc_tr]
    have e3 : perK (trM m) = perK m := by unfold perK; rw [if_pos hc, if_pos hc', e1]
    exact ⟨by unfold perI; rw [e3, e2], by unfold perP; rw [e3, e2], by unfold perE; rw [if_pos hc, if_pos hc', e3]⟩
  · have hc' : ¬ connE (trM m) = 0 := by rw [tr_conn h]; exact hc
    have e3 : perK (trM m) = none ∧ perK m = none := by unfold perK; rw [if_neg hc, if_neg hc']; exact ⟨rfl, rfl⟩
    exact ⟨by unfold perI; rw [e3.1, e3.2], by unfold perP; rw [e3.1, e3.2], by unfold perE; rw [if_neg hc, if_neg hc', tr_conn h]⟩
theorem pow_okT {m : List (List Int)} (hv : validB 1000 m = true) {k : Nat} (hk : k ≤ 1000) : powE (trM m) (k : Nat) = 0 ∧ Mat (powD (trM m) (k : Nat)) (genM m.length m.length (tr (pwI m.length (mf m) k))) := by
  obtain ⟨sm, _⟩ := Cy.Small.of hv
  have hok : okP (trM m) (k : Nat) = true := by unfold okP; rw [trM_valid hv, decide_eq_true (by omega), decide_eq_true (by omega)]; rfl
  refine ⟨by unfold powE; rw [if_pos hok], ?_⟩
  have h := powD_mat (trM m) ((k : Nat) : Int)
  unfold powM at h
  rw [if_pos hok, Int.toNat_natCast, trM_len, trM_mf sm, pw_tr sm.ga (by omega) sm.sup (by omega)] at h
  exact h

theorem MeanT {m : List (List Int)} (h : validB 1000 m = true) : DeepCall Try.prog 25 [genT m.length (tr (mf m)) m.length] (.tup [DI (measF m).1, DI (measF m).2, DI (measE m)]) := by
  obtain ⟨sm, p3⟩ := Cy.Small.of h
  have n6 := sm.n6
  have hc := Mean25 (d := genT m.length (tr (mf m)) m.length) (m := trM m) genT_mat (by rw [trM_len]; omega) (fun r hr => by have := (genM_lens (n := m.length) (by omega) (tr (mf m))).2 r hr; exact this)
  rwa [(tr_meas h).1, (tr_meas h).2] at hc
theorem PeriodT {m : List (List Int)} (h : validB 1000 m = true) : DeepCall Try.prog 41 [genT m.length (tr (mf m)) m.length] (.tup [DI (perI m), DI (perP m), DI (perE m)]) := by
  obtain ⟨sm, p3⟩ := Cy.Small.of h
  have n6 := sm.n6
  have hc := Period41 (d := genT m.length (tr (mf m)) m.length) (m := trM m) genT_mat (by rw [trM_len]; omega) (fun r hr => by have := (genM_lens (n := m.length) (by omega) (tr (mf m))).2 r hr; exact this)
  obtain ⟨r1, r2, r3⟩ := tr_per h
  rwa [r1, r2, r3] at hc
set_option maxHeartbeats 1600000 in
set_option maxRecDepth 10000 in
theorem law17 {d : DV} {m : List (List Int)} {k : Int} (hd : Mat d m) (hl : m.length ≤ 9223372036854775807) (hr : ∀ r ∈ m, r.length ≤ 9223372036854775807) : DeepCall Try.prog 17 [d, DI k] (DB true) := by
  refine deepCall_K 5 Try.func17 rfl (Nat.le_of_ble_eq_true rfl) fun M W0 => ?_
  refine KC.seq ?_
  refine KC.region ?_
  refine KT.step rfl rfl (K.assign rfl) ?_
  refine KT.nil ?_
  refine thenK_n ?_
  refine KC.seq ?_
  refine KC.seq ?_
  refine KC.region ?_
  refine KT.step rfl rfl (K.move rfl) ?_
  refine KT.step rfl rfl (K.call1 rfl plainTry_38 (small38 hd hl hr)) ?_
  refine KT.step rfl rfl (K.not rfl) ?_
  refine KT.nil ?_
  refine thenK_n ?_
  refine KC.cond rfl (fun hc27 => ?_) (fun hc27 => ?_)
  · skip
    have hv : validB 1000 m = false := by rw [Bool.not_eq_true'] at hc27; exact hc27
    have hmE := (meas_no hv).1
    refine KC.seq ?_
    refine KC.region ?_
    refine KT.step rfl rfl (K.move rfl) ?_
    refine KT.step rfl rfl (K.call1 rfl plainTry_19 (rows19 hd hl (fun i hi => by rw [show m.getD i [] = m[i] by simp [hi]]; exact hr _ (List.getElem_mem hi)))) ?_
    refine KT.step rfl rfl (K.call1 rfl plainTry_25 (MeanF hd hl hr)) ?_
    refine KT.step rfl rfl (K.move rfl) ?_
    refine KT.step rfl rfl (K.extract rfl rfl) ?_
    refine KT.step rfl rfl (K.extract rfl rfl) ?_
    refine KT.step rfl rfl (K.extract rfl rfl) ?_
    refine KT.step rfl rfl (K.assign rfl) ?_
    refine KT.step rfl rfl (K.assign rfl) ?_
    refine KT.step rfl rfl (K.assign rfl) ?_
    refine KT.nil ?_
    refine thenK_n ?_
    refine KC.seq ?_
    refine KC.region ?_
    refine KT.step rfl rfl (K.move rfl) ?_
    refine KT.step rfl rfl (K.eql rfl rfl) ?_
    refine KT.step rfl rfl (K.move rfl) ?_
    refine KT.bcase (fun hb37 => ?_) (fun hb37 => ?_)
    · skip
      replace hb37 := of_decide_eq_true hb37
      refine KT.step rfl rfl (K.call0 plainTry_24 (awake24)) ?_
      refine KT.step rfl rfl (K.pick rfl (fun _ => rfl) (fun h => by cases h)) ?_
      refine KT.step rfl rfl (K.assign rfl) ?_
      refine KT.nil ?_
      refine thenK_n ?_
      refine KC.ret ?_
      refine thenK_r ?_
      exact ⟨.inl rfl, _, rfl, rfl⟩
    · skip
      exact absurd hmE (of_decide_eq_false hb37)
  · skip
    have hv : validB 1000 m = true := by rw [Bool.not_eq_false'] at hc27; exact hc27
    obtain ⟨sm, p3⟩ := Cy.Small.of hv
    have n6 := sm.n6
    have hd' : Mat d (genM m.length m.length (mf m)) := p3 ▸ hd
    have hT : Mat (genT m.length (tr (mf m)) m.length) (trM m) := genT_mat
    obtain ⟨m1, m2⟩ := tr_meas hv
    obtain ⟨r1, r2, r3⟩ := tr_per hv
    refine KC.skip ?_
    refine thenK_n ?_
    refine KC.seq ?_
    refine KC.region ?_
    refine KT.step rfl rfl (K.move rfl) ?_
    refine KT.step rfl rfl (K.conv rfl Try.underlying3 Try.underlying45 (wrapUI k)) ?_
    refine KT.step rfl rfl (K.rem rfl rfl (by decide) (show Int.tmod ((k % 2 ^ 64).toNat : Int) 30 = (((k % 2 ^ 64).toNat % 30 : Nat) : Int) from tmodN _ 30)) ?_
    refine KT.step rfl rfl (K.conv rfl Try.underlying45 Try.underlying3 (show IntKind.i64.wrap ((((k % 2 ^ 64).toNat % 30 : Nat)) : Int) = _ from wrap_id (by omega))) ?_
    have ht : (k % 2 ^ 64).toNat % 30 < 30 := Nat.mod_lt _ (by decide)
    generalize (k % 2 ^ 64).toNat % 30 = t at ht ⊢
    obtain ⟨e1, hX⟩ := pow_ok hv (k := t) (by omega)
    obtain ⟨e2, hY⟩ := pow_okT hv (k := t) (by omega)
    refine KT.step rfl rfl (K.assign rfl) ?_
    refine KT.nil ?_
    refine thenK_n ?_
    refine KC.seq ?_
    refine KC.region ?_
    refine KT.step rfl rfl (K.move rfl) ?_
    refine KT.step rfl rfl (K.call1 rfl plainTry_46 (turned46 hd' sm.n1 (by omega))) ?_
    refine KT.step rfl rfl (K.assign rfl) ?_
    refine KT.nil ?_
    refine thenK_n ?_
    refine KC.seq ?_
    refine KC.region ?_
    refine KT.step rfl rfl (K.move rfl) ?_
    refine KT.step rfl rfl (K.call1 rfl plainTry_19 (rows19 hd hl (fun i hi => by rw [show m.getD i [] = m[i] by simp [hi]]; exact hr _ (List.getElem_mem hi)))) ?_
    refine KT.step rfl rfl (K.call1 rfl plainTry_25 (MeanF hd hl hr)) ?_
    refine KT.step rfl rfl (K.move rfl) ?_
    refine KT.step rfl rfl (K.extract rfl rfl) ?_
    refine KT.step rfl rfl (K.extract rfl rfl) ?_
    refine KT.step rfl rfl (K.extract rfl rfl) ?_
    refine KT.step rfl rfl (K.assign rfl) ?_
    refine KT.step rfl rfl (K.assign rfl) ?_
    refine KT.step rfl rfl (K.assign rfl) ?_
    refine KT.nil ?_
    refine thenK_n ?_
    refine KC.seq ?_
    refine KC.region ?_
    refine KT.step rfl rfl (K.move rfl) ?_
    refine KT.step rfl rfl (K.call1 rfl plainTry_25 (MeanT hv)) ?_
    refine KT.step rfl rfl (K.move rfl) ?_
    refine KT.step rfl rfl (K.extract rfl rfl) ?_
    refine KT.step rfl rfl (K.extract rfl rfl) ?_
    refine KT.step rfl rfl (K.extract rfl rfl) ?_
    refine KT.step rfl rfl (K.assign rfl) ?_
    refine KT.step rfl rfl (K.assign rfl) ?_
    refine KT.step rfl rfl (K.assign rfl) ?_
    refine KT.nil ?_
    refine thenK_n ?_
    refine KC.seq ?_
    refine KC.region ?_
    refine KT.step rfl rfl (K.move rfl) ?_
    refine KT.step rfl rfl (K.call1 rfl plainTry_19 (rows19 hd hl (fun i hi => by rw [show m.getD i [] = m[i] by simp [hi]]; exact hr _ (List.getElem_mem hi)))) ?_
    refine KT.step rfl rfl (K.move rfl) ?_
    refine KT.step rfl rfl (K.call2 rfl rfl plainTry_21 (PowF hd hl hr t)) ?_
    refine KT.step rfl rfl (K.move rfl) ?_
    refine KT.step rfl rfl (K.extract rfl rfl) ?_
    refine KT.step rfl rfl (K.extract rfl rfl) ?_
    refine KT.step rfl rfl (K.assign rfl) ?_
    refine KT.step rfl rfl (K.assign rfl) ?_
    refine KT.nil ?_
    refine thenK_n ?_
    refine KC.seq ?_
    refine KC.region ?_
    refine KT.step rfl rfl (K.move rfl) ?_
    refine KT.step rfl rfl (K.move rfl) ?_
    refine KT.step rfl rfl (K.call2 rfl rfl plainTry_21 (pow21 (k := ((t : Nat) : Int)) hT (by rw [trM_len]; omega) (fun r hr => by have := (genM_lens (n := m.length) (by omega) (tr (mf m))).2 r hr; exact this))) ?_
    refine KT.step rfl rfl (K.move rfl) ?_
    refine KT.step rfl rfl (K.extract rfl rfl) ?_
    refine KT.step rfl rfl (K.extract rfl rfl) ?_
    refine KT.step rfl rfl (K.assign rfl) ?_
    refine KT.step rfl rfl (K.assign rfl) ?_
    refine KT.nil ?_
    refine thenK_n ?_
    refine KC.seq ?_
    refine KC.seq ?_
    refine KC.region ?_
    refine KT.step rfl rfl (K.move rfl) ?_
    refine KT.step rfl rfl (K.move rfl) ?_
    refine KT.step rfl rfl (K.neq rfl rfl) ?_
    refine KT.step rfl rfl (K.move rfl) ?_
    refine KT.bcase (fun hb75 => ?_) (fun hb75 => ?_)
    · skip
      exact absurd rfl (of_decide_eq_true hb75)
    · skip
      replace hb75 := of_decide_eq_false hb75
      refine KT.step rfl rfl (K.move rfl) ?_
      refine KT.step rfl rfl (K.move rfl) ?_
      refine KT.step rfl rfl (K.neq rfl rfl) ?_
      refine KT.step rfl rfl (K.pick rfl (fun h => by cases h) (fun _ => rfl)) ?_
      refine KT.step rfl rfl (K.move rfl) ?_
      refine KT.bcase (fun hb80 => ?_) (fun hb80 => ?_)
      · skip
        exact absurd rfl (of_decide_eq_true hb80)
      · skip
        replace hb80 := of_decide_eq_false hb80
        refine KT.step rfl rfl (K.move rfl) ?_
        refine KT.step rfl rfl (K.move rfl) ?_
        refine KT.step rfl rfl (K.neq rfl rfl) ?_
        refine KT.step rfl rfl (K.pick rfl (fun h => by cases h) (fun _ => rfl)) ?_
        refine KT.step rfl rfl (K.move rfl) ?_
        refine KT.bcase (fun hb85 => ?_) (fun hb85 => ?_)
        · skip
          exact absurd rfl (of_decide_eq_true hb85)
        · skip
          replace hb85 := of_decide_eq_false hb85
          refine KT.step rfl rfl (K.move rfl) ?_
          refine KT.step rfl rfl (K.neq rfl rfl) ?_
          refine KT.step rfl rfl (K.pick rfl (fun h => by cases h) (fun _ => rfl)) ?_
          refine KT.step rfl rfl (K.move rfl) ?_
          refine KT.bcase (fun hb89 => ?_) (fun hb89 => ?_)
          · skip
            exact absurd e1 (of_decide_eq_true hb89)
          · skip
            replace hb89 := of_decide_eq_false hb89
            refine KT.step rfl rfl (K.move rfl) ?_
            refine KT.step rfl rfl (K.neq rfl rfl) ?_
            refine KT.step rfl rfl (K.pick rfl (fun h => by cases h) (fun _ => rfl)) ?_
            refine KT.step rfl rfl (K.move rfl) ?_
            refine KT.bcase (fun hb93 => ?_) (fun hb93 => ?_)
            · skip
              exact absurd e2 (of_decide_eq_true hb93)
            · skip
              replace hb93 := of_decide_eq_false hb93
              refine KT.step rfl rfl (K.move rfl) ?_
              refine KT.step rfl rfl (K.len rfl hX Try.underlying22) ?_
              rw [genM_len]
              refine KT.step rfl rfl (K.move rfl) ?_
              refine KT.step rfl rfl (K.len rfl hd Try.underlying22) ?_
              refine KT.step rfl rfl (K.neq rfl rfl) ?_
              refine KT.step rfl rfl (K.pick rfl (fun h => by cases h) (fun _ => rfl)) ?_
              refine KT.nil ?_
              refine thenK_n ?_
              refine KC.cond rfl (fun hc99 => ?_) (fun hc99 => ?_)
              · skip
                exact absurd rfl (of_decide_eq_true hc99)
              · skip
                replace hc99 := of_decide_eq_false hc99
                refine KC.skip ?_
                refine thenK_n ?_
                refine KC.seq ?_
                refine KC.seq ?_
                refine KC.region ?_
                refine KT.step rfl rfl (K.move rfl) ?_
                refine KT.step rfl rfl (K.len rfl hX Try.underlying22) ?_
                rw [genM_len]
                refine KT.step rfl rfl (K.move rfl) ?_
                refine KT.nil ?_
                refine thenK_n ?_
                refine KC.block ?_
                refine KC.loop (fun _ : Nat => []) (fun r => [(0, .d d), (8, .d (genT m.length (tr (mf m)) m.length)), (15, .d (powD (fewM m) ((t : Nat) : Int))), (17, .d (powD (trM m) ((t : Nat) : Int))), (100, .d (powD (fewM m) ((t : Nat) : Int))), (101, .d (DI (m.length : Nat))), (102, .d (DI (r : Nat)))]) (fun r => r ≤ m.length) (fun r => m.length - r) 0 (Nat.zero_le _) rfl (by simp [Go.Vm.look, extK, enterK]) ?_
                intro r hr2
                refine KC.seq ?_
                refine KC.region ?_
                refine KT.step rfl rfl (K.lss rfl rfl) ?_
                refine KT.nil ?_
                refine thenK_n ?_
                refine KC.seq ?_
                refine KC.cond rfl (fun hc103 => ?_) (fun hc103 => ?_)
                · skip
                  replace hc103 := of_decide_eq_true hc103
                  refine KC.skip ?_
                  refine thenK_n ?_
                  refine KC.seq ?_
                  refine KC.block ?_
                  refine KC.seq ?_
                  refine KC.region ?_
                  refine KT.idx rfl rfl rfl hX rfl (by rw [genM_len]; omega) Try.underlying22 Try.size33 fun c104 cs104 hq104 => ?_
                  rw [genM_row] at hq104
                  refine KT.step rfl rfl (K.load rfl Try.agg33) ?_
                  refine KT.step rfl rfl (K.assign rfl) ?_
                  refine KT.nil ?_
                  refine thenK_n ?_
                  refine KC.seq ?_
                  refine KC.region ?_
                  refine KT.step rfl rfl (K.move rfl) ?_
                  refine KT.step rfl rfl (K.len rfl hq104 Try.underlying33) ?_
                  rw [List.length_map, List.length_range]
                  refine KT.step rfl rfl (K.move rfl) ?_
                  refine KT.step rfl rfl (K.len rfl hd Try.underlying22) ?_
                  refine KT.step rfl rfl (K.neq rfl rfl) ?_
                  refine KT.nil ?_
                  refine thenK_n ?_
                  refine KC.cond rfl (fun hc110 => ?_) (fun hc110 => ?_)
                  · skip
                    exact absurd rfl (of_decide_eq_true hc110)
                  · skip
                    replace hc110 := of_decide_eq_false hc110
                    refine KC.skip ?_
                    refine blockK_n ?_
                    refine thenK_n ?_
                    refine KC.region ?_
                    refine KT.step rfl rfl (K.add rfl rfl (wrap_id (by omega))) ?_
                    refine KT.step rfl rfl (K.move rfl) ?_
                    refine KT.nil ?_
                    refine thenK_n ?_
                    exact ⟨r + 1, by omega, by omega, rfl, by simp [Go.Vm.look, extK]⟩
                · skip
                  replace hc103 := of_decide_eq_false hc103
                  refine KC.exit ?_
                  refine thenK_x ?_
                  refine thenK_x ?_
                  refine blockK_e ?_
                  refine thenK_n ?_
                  refine KC.seq ?_
                  refine KC.region ?_
                  refine KT.step rfl rfl (K.move rfl) ?_
                  refine KT.step rfl rfl (K.call1 rfl plainTry_19 (rows19 hd hl (fun i hi => by rw [show m.getD i [] = m[i] by simp [hi]]; exact hr _ (List.getElem_mem hi)))) ?_
                  refine KT.step rfl rfl (K.call1 rfl plainTry_41 (PeriodF hd hl hr)) ?_
                  refine KT.step rfl rfl (K.move rfl) ?_
                  refine KT.step rfl rfl (K.extract rfl rfl) ?_
                  refine KT.step rfl rfl (K.extract rfl rfl) ?_
                  refine KT.step rfl rfl (K.extract rfl rfl) ?_
                  refine KT.step rfl rfl (K.assign rfl) ?_
                  refine KT.step rfl rfl (K.assign rfl) ?_
                  refine KT.step rfl rfl (K.assign rfl) ?_
                  refine KT.nil ?_
                  refine thenK_n ?_
                  refine KC.seq ?_
                  refine KC.region ?_
                  refine KT.step rfl rfl (K.move rfl) ?_
                  refine KT.step rfl rfl (K.call1 rfl plainTry_41 (PeriodT hv)) ?_
                  refine KT.step rfl rfl (K.move rfl) ?_
                  refine KT.step rfl rfl (K.extract rfl rfl) ?_
                  refine KT.step rfl rfl (K.extract rfl rfl) ?_
                  refine KT.step rfl rfl (K.extract rfl rfl) ?_
                  refine KT.step rfl rfl (K.assign rfl) ?_
                  refine KT.step rfl rfl (K.assign rfl) ?_
                  refine KT.step rfl rfl (K.assign rfl) ?_
                  refine KT.nil ?_
                  refine thenK_n ?_
                  refine KC.seq ?_
                  refine KC.region ?_
                  refine KT.step rfl rfl (K.move rfl) ?_
                  refine KT.step rfl rfl (K.call1 rfl plainTry_46 (turned46 hX sm.n1 (by omega))) ?_
                  refine KT.step rfl rfl (K.move rfl) ?_
                  refine KT.step rfl rfl (K.call2 rfl rfl plainTry_23 (same23 (genT_mat (N := m.length) (g := tr (pwI m.length (mf m) t)) (R := m.length)) hY (genM_lens (by omega) _).1 (genM_lens (by omega) _).2)) ?_
                  refine KT.step rfl rfl (K.move rfl) ?_
                  refine KT.bcase (fun hb129 => ?_) (fun hb129 => ?_)
                  · skip
                    refine KT.step rfl rfl (K.move rfl) ?_
                    refine KT.step rfl rfl (K.move rfl) ?_
                    refine KT.step rfl rfl (K.eql rfl rfl) ?_
                    refine KT.step rfl rfl (K.pick rfl (fun _ => rfl) (fun h => by cases h)) ?_
                    refine KT.step rfl rfl (K.move rfl) ?_
                    refine KT.bcase (fun hb134 => ?_) (fun hb134 => ?_)
                    · skip
                      replace hb134 := of_decide_eq_true hb134
                      refine KT.step rfl rfl (K.move rfl) ?_
                      refine KT.step rfl rfl (K.move rfl) ?_
                      refine KT.step rfl rfl (K.eql rfl rfl) ?_
                      refine KT.step rfl rfl (K.pick rfl (fun _ => rfl) (fun h => by cases h)) ?_
                      refine KT.step rfl rfl (K.move rfl) ?_
                      refine KT.bcase (fun hb139 => ?_) (fun hb139 => ?_)
                      · skip
                        replace hb139 := of_decide_eq_true hb139
                        refine KT.step rfl rfl (K.move rfl) ?_
                        refine KT.step rfl rfl (K.move rfl) ?_
                        refine KT.step rfl rfl (K.eql rfl rfl) ?_
                        refine KT.step rfl rfl (K.pick rfl (fun _ => rfl) (fun h => by cases h)) ?_
                        refine KT.step rfl rfl (K.move rfl) ?_
                        refine KT.bcase (fun hb144 => ?_) (fun hb144 => ?_)
                        · skip
                          replace hb144 := of_decide_eq_true hb144
                          refine KT.step rfl rfl (K.call0 plainTry_24 (awake24)) ?_
                          refine KT.step rfl rfl (K.pick rfl (fun _ => rfl) (fun h => by cases h)) ?_
                          refine KT.step rfl rfl (K.assign rfl) ?_
                          refine KT.nil ?_
                          refine thenK_n ?_
                          refine KC.ret ?_
                          exact ⟨.inl rfl, _, rfl, rfl⟩
                        · skip
                          exact absurd rfl (of_decide_eq_false hb144)
                      · skip
                        exact absurd rfl (of_decide_eq_false hb139)
                    · skip
                      exact absurd rfl (of_decide_eq_false hb134)
                  · skip
                    exact absurd rfl (of_decide_eq_false hb129)
end Go.Proofs.Ythbnnffmhnjpjaa
