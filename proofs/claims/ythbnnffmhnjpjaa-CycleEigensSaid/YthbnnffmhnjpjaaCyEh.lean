import Derived.Test.YthbnnffmhnjpjaaCyRu
import Derived.Test.YthbnnffmhnjpjaaCyTa
import Derived.Test.YthbnnffmhnjpjaaCyEg
/-
  Times: the reference: Connected.
-/
namespace Go.Proofs.Ythbnnffmhnjpjaa
open Go.Vm Go.Cy Go.RowKit
theorem plainTry_70 : plainFn Try.prog 70 = true := by kernel_rfl
theorem plainTry_71 : plainFn Try.prog 71 = true := by kernel_rfl
theorem plainTry_37 : plainFn Try.prog 37 = true := by kernel_rfl
/-- Which matrices have a cycle. -/
theorem cyc_nil {m : List (List Int)} (hv : validB 1000 m = true) : ((cycsN m.length (mf m) m.length) = [] → connE m = 7) ∧ ((cycsN m.length (mf m) m.length) ≠ [] → ∃ p q, meanI m.length (mf m) = some (p, q) ∧ measE m = 0 ∧ measF m = (p, q) ∧ gainM m = gainI (mf m) p q) := by
  obtain ⟨sm, _⟩ := Cy.Small.of hv
  cases hm : meanI m.length (mf m) with
  | none =>
    obtain ⟨e1, _, _⟩ := meas_none hv hm
    exact ⟨fun _ => by unfold connE; rw [if_pos e1], fun h => absurd (sm.no_cycs hm _) h⟩
  | some pq =>
    obtain ⟨p, q⟩ := pq
    obtain ⟨e1, e2, _⟩ := meas_some hv hm
    refine ⟨fun h => ?_, fun _ => ⟨p, q, rfl, e1, e2, by unfold gainM; rw [e2]⟩⟩
    obtain ⟨c, c1, _, c3, _⟩ := sm.fold hm
    rw [h] at c3
    have := congrArg (fun s => s.2.2) c3
    exact absurd this.symm c1
theorem conP_iff {m : List (List Int)} (hv : validB 1000 m = true) {p q : Int} (hm : meanI m.length (mf m) = some (p, q)) (hg : gainM m = gainI (mf m) p q) : conP m ↔ ∀ i, i < m.length → ∀ j, j < m.length → curI m.length (flI (mf m)) (m.length - 1) i j ≠ Nv := by
  obtain ⟨sm, _⟩ := Cy.Small.of hv
  unfold conP
  rw [hg]
  constructor
  · intro h i hi j hj e; exact h i hi j hj ((conn_iff sm hm i j).1 e)
  · intro h i hi j hj e; exact h i hi j hj ((conn_iff sm hm i j).2 e)
set_option maxHeartbeats 2000000 in
set_option maxRecDepth 10000 in
theorem rConn70 {d : DV} {m : List (List Int)} (hd : Mat d m) (hv : validB 1000 m = true) : DeepCall Try.prog 70 [d] (DB (decide (connE m = 0))) := by
  obtain ⟨sm, p3⟩ := Cy.Small.of hv
  have n1 := sm.n1
  have n6 := sm.n6
  have hd' : Mat d (genM m.length m.length (mf m)) := p3 ▸ hd
  have hcl := cycsN_len (a := mf m) n6 (Nat.le_refl m.length)
  obtain ⟨cn1, cn2⟩ := cyc_nil hv
  refine deepCall_K 5 Try.func70 rfl (Nat.le_of_ble_eq_true rfl) fun M W0 => ?_
  refine KC.seq ?_
  refine KC.region ?_
  refine KT.step rfl rfl (K.assign rfl) ?_
  refine KT.nil ?_
  refine thenK_n ?_
  refine KC.seq ?_
  refine KC.seq ?_
  refine KC.region ?_
  refine KT.step rfl rfl (K.move rfl) ?_
  refine KT.step rfl rfl (K.call1 rfl plainTry_90 (cycles90 (extended102 n6) hd' n1 n6 (fun i j => (sm.ga i j).mono (by omega)))) ?_
  refine KT.step rfl rfl (K.len rfl (waysD_vec (cycsN m.length (mf m) m.length)) Try.underlying22) ?_
  refine KT.step rfl rfl (K.eql rfl rfl) ?_
  refine KT.nil ?_
  refine thenK_n ?_
  refine KC.cond rfl (fun hc16 => ?_) (fun hc16 => ?_)
  · skip
    replace hc16 := of_decide_eq_true hc16
    have hnil : (cycsN m.length (mf m) m.length) = [] := List.eq_nil_of_length_eq_zero (by omega)
    have h7 := cn1 hnil
    refine KC.seq ?_
    refine KC.region ?_
    refine KT.step rfl rfl (K.assign rfl) ?_
    refine KT.nil ?_
    refine thenK_n ?_
    refine KC.ret ?_
    refine thenK_r ?_
    exact ⟨.inl rfl, _, rfl, fin_d (by rw [h7]; rfl)⟩
  · skip
    replace hc16 := of_decide_eq_false hc16
    obtain ⟨p, q, hm, e1, e2, e3⟩ := cn2 fun h => hc16 (by rw [h]; rfl)
    have hcp := conP_iff hv hm e3
    refine KC.skip ?_
    refine thenK_n ?_
    refine KC.seq ?_
    refine KC.region ?_
    refine KT.step rfl rfl (K.assign rfl) ?_
    refine KT.nil ?_
    refine thenK_n ?_
    refine KC.seq ?_
    refine KC.seq ?_
    refine KC.region ?_
    refine KT.step rfl rfl (K.move rfl) ?_
    refine KT.step rfl rfl (K.len rfl hd' Try.underlying22) ?_
    rw [genM_len]
    refine KT.step rfl rfl (K.move rfl) ?_
    refine KT.nil ?_
    refine thenK_n ?_
    refine KC.block ?_
    refine KC.loop (fun s : List VObj × XV × List Nat => s.1) (fun s => [(0, .d d), (17, .d d), (18, .d (DI (m.length : Nat))), (3, s.2.1), (19, .d (DI (s.2.2.length : Nat)))]) (fun s => s.2.2.length ≤ m.length ∧ TRows m.length (flI (mf m)) s.1 s.2.1 s.2.2) (fun s => m.length - s.2.2.length) ([], .d Dnil, []) ⟨Nat.zero_le _, .zero⟩ rfl (by simp [Go.Vm.look, extK, enterK]) ?_
    intro s hs
    obtain ⟨σ0, x0, ids⟩ := s
    obtain ⟨hi, rows⟩ := hs
    simp only at hi rows ⊢
    refine KC.seq ?_
    refine KC.region ?_
    refine KT.step rfl rfl (K.lss rfl rfl) ?_
    refine KT.nil ?_
    refine thenK_n ?_
    refine KC.seq ?_
    refine KC.cond rfl (fun hc20 => ?_) (fun hc20 => ?_)
    · skip
      replace hc20 := of_decide_eq_true hc20
      have hin : ids.length < m.length := by omega
      refine KC.skip ?_
      refine thenK_n ?_
      refine KC.seq ?_
      refine KC.block ?_
      refine KC.seq ?_
      refine KC.region ?_
      refine KT.idx rfl rfl rfl (by assumption) rfl (by rw [genM_len]; omega) Try.underlying22 Try.size33 fun c21 cs21 hq21 => ?_
      rw [genM_row] at hq21
      refine KT.step rfl rfl (K.load rfl Try.agg33) ?_
      refine KT.step rfl rfl (K.assign rfl) ?_
      refine KT.nil ?_
      refine thenK_n ?_
      refine KC.seq ?_
      refine KC.region ?_
      refine KT.step rfl rfl (K.assign rfl) ?_
      refine KT.nil ?_
      refine thenK_n ?_
      refine KC.seq ?_
      refine KC.seq ?_
      refine KC.region ?_
      refine KT.step rfl rfl (K.move rfl) ?_
      refine KT.step rfl rfl (K.len rfl hq21 Try.underlying33) ?_
      rw [List.length_map, List.length_range]
      refine KT.step rfl rfl (K.move rfl) ?_
      refine KT.nil ?_
      refine thenK_n ?_
      refine KC.block ?_
      refine KC.loop (fun s : List VObj × XV × Nat => s.1) (fun s => [(0, .d d), (17, .d d), (18, .d (DI (m.length : Nat))), (3, x0), (19, .d (DI (ids.length : Nat))), (6, s.2.1), (23, .d c21), (24, .d (DI (m.length : Nat))), (25, .d (DI (s.2.2 : Nat)))]) (fun s => s.2.2 ≤ m.length ∧ TRows m.length (flI (mf m)) s.1 x0 ids ∧ OwnK 1 s.1 s.2.1 (icells ((List.range s.2.2).map fun r => flI (mf m) ids.length r)) ∧ ((∀ j, idX s.2.1 = some j → j ∉ ids) ∧ ∀ j, idX s.2.1 = some j → idX x0 ≠ some j)) (fun s => m.length - s.2.2) (σ0, .d Dnil, 0) ⟨Nat.zero_le _, rows, .nil, (fun j h => by cases h), fun j h => by cases h⟩ rfl (by simp [Go.Vm.look, extK]) ?_
      clear rows
      intro s hs
      obtain ⟨σ3, y, i⟩ := s
      obtain ⟨hi2, rows, hy, hyd⟩ := hs
      simp only at hi2 rows hy hyd ⊢
      refine KC.seq ?_
      refine KC.region ?_
      refine KT.step rfl rfl (K.lss rfl rfl) ?_
      refine KT.nil ?_
      refine thenK_n ?_
      refine KC.seq ?_
      refine KC.cond rfl (fun hc26 => ?_) (fun hc26 => ?_)
      · skip
        replace hc26 := of_decide_eq_true hc26
        refine KC.skip ?_
        refine thenK_n ?_
        refine KC.seq ?_
        refine KC.block ?_
        refine KC.seq ?_
        refine KC.region ?_
        refine KT.idxI rfl rfl rfl (by assumption) rfl (by simp; omega) Try.underlying33 Try.size3 fun cs27 => ?_
        rw [get_range]
        refine KT.step rfl rfl (K.load rfl Try.agg3) ?_
        refine KT.step rfl rfl (K.assign rfl) ?_
        refine KT.nil ?_
        refine thenK_n ?_
        refine KC.seq ?_
        refine KC.seq ?_
        refine KC.region ?_
        refine KT.step rfl rfl (K.move rfl) ?_
        refine KT.step rfl rfl (K.neq rfl rfl) ?_
        refine KT.nil ?_
        refine thenK_n ?_
        refine KC.cond rfl (fun hc30 => ?_) (fun hc30 => ?_)
        · skip
          replace hc30 := of_decide_eq_true hc30
          refine KC.region ?_
          refine KT.step rfl rfl (K.assign rfl) ?_
          refine KT.nil ?_
          refine thenK_n ?_
          refine KC.region ?_
          refine KT.step rfl rfl (K.move rfl) ?_
          refine KT.step rfl rfl (K.move rfl) ?_
          have hV : flI (mf m) ids.length i = 0 := if_neg hc30
          refine KT.step rfl rfl (K.build1' (v := .d (DI (0))) rfl rfl Try.underlying33 Try.one3) ?_
          refine KT.appK (k := 1) (vs := [.d (DI (0))]) rfl rfl rfl rfl (hy.pushed _) (List.getElem?_concat_length ..) rfl rfl (by rw [icells_len, List.length_map, List.length_range]; omega) Try.underlying33 Try.size3 bytes3 cells3 (by omega) fun σ1 y1 ho1 k1 w1 => ?_
          have hrow1 : TRows m.length (flI (mf m)) σ1 x0 ids := rows.keep fun j hj hm => by
            rw [k1 j (fun e => by rcases hm with hm | hm; exact hyd.1 j e hm; exact hyd.2 j e hm) (by simp; omega), List.getElem?_append_left hj]
          have hyd1 : (∀ j, idX y1 = some j → j ∉ ids) ∧ ∀ j, idX y1 = some j → idX x0 ≠ some j := by
            obtain ⟨j1, w2, w3⟩ := w1
            simp only [List.length_append, List.length_cons, List.length_nil] at w3
            exact ⟨fun j hj hm => by rw [w2] at hj; cases hj; have := rows.lt (.inl hm); omega, fun j hj hm => by rw [w2] at hj; cases hj; have := rows.lt (.inr hm); omega⟩
          have ho2 : OwnK 1 σ1 y1 (icells ((List.range (i + 1)).map fun r => flI (mf m) ids.length r)) := by rw [icells_snoc (fun r => flI (mf m) ids.length r) i, hV]; exact ho1
          refine KT.step rfl rfl (K.assign rfl) ?_
          refine KT.nil ?_
          refine blockK_n ?_
          refine thenK_n ?_
          refine KC.region ?_
          refine KT.step rfl rfl (K.add rfl rfl (wrap_id (by omega))) ?_
          refine KT.step rfl rfl (K.move rfl) ?_
          refine KT.nil ?_
          refine thenK_n ?_
          exact ⟨(σ1, y1, i + 1), ⟨by simp only; omega, hrow1, ho2, hyd1⟩, by simp only; omega, rfl, by simp [Go.Vm.look, extK]⟩
        · skip
          replace hc30 := of_decide_eq_false hc30
          refine KC.skip ?_
          refine thenK_n ?_
          refine KC.region ?_
          refine KT.step rfl rfl (K.move rfl) ?_
          refine KT.step rfl rfl (K.move rfl) ?_
          have hV : flI (mf m) ids.length i = mf m ids.length i := (if_pos (Classical.not_not.1 hc30)).trans (Classical.not_not.1 hc30).symm
          refine KT.step rfl rfl (K.build1' (v := .d (DI (mf m ids.length i))) rfl rfl Try.underlying33 Try.one3) ?_
          refine KT.appK (k := 1) (vs := [.d (DI (mf m ids.length i))]) rfl rfl rfl rfl (hy.pushed _) (List.getElem?_concat_length ..) rfl rfl (by rw [icells_len, List.length_map, List.length_range]; omega) Try.underlying33 Try.size3 bytes3 cells3 (by omega) fun σ1 y1 ho1 k1 w1 => ?_
          have hrow1 : TRows m.length (flI (mf m)) σ1 x0 ids := rows.keep fun j hj hm => by
            rw [k1 j (fun e => by rcases hm with hm | hm; exact hyd.1 j e hm; exact hyd.2 j e hm) (by simp; omega), List.getElem?_append_left hj]
          have hyd1 : (∀ j, idX y1 = some j → j ∉ ids) ∧ ∀ j, idX y1 = some j → idX x0 ≠ some j := by
            obtain ⟨j1, w2, w3⟩ := w1
            simp only [List.length_append, List.length_cons, List.length_nil] at w3
            exact ⟨fun j hj hm => by rw [w2] at hj; cases hj; have := rows.lt (.inl hm); omega, fun j hj hm => by rw [w2] at hj; cases hj; have := rows.lt (.inr hm); omega⟩
          have ho2 : OwnK 1 σ1 y1 (icells ((List.range (i + 1)).map fun r => flI (mf m) ids.length r)) := by rw [icells_snoc (fun r => flI (mf m) ids.length r) i, hV]; exact ho1
          refine KT.step rfl rfl (K.assign rfl) ?_
          refine KT.nil ?_
          refine blockK_n ?_
          refine thenK_n ?_
          refine KC.region ?_
          refine KT.step rfl rfl (K.add rfl rfl (wrap_id (by omega))) ?_
          refine KT.step rfl rfl (K.move rfl) ?_
          refine KT.nil ?_
          refine thenK_n ?_
          exact ⟨(σ1, y1, i + 1), ⟨by simp only; omega, hrow1, ho2, hyd1⟩, by simp only; omega, rfl, by simp [Go.Vm.look, extK]⟩
      · skip
        replace hc26 := of_decide_eq_false hc26
        refine KC.exit ?_
        refine thenK_x ?_
        refine thenK_x ?_
        refine blockK_e ?_
        refine thenK_n ?_
        refine KC.region ?_
        refine KT.step rfl rfl (K.move rfl) ?_
        refine KT.step rfl rfl (K.move rfl) ?_
        have hin2 : i = m.length := by omega
        rw [hin2] at hy
        obtain ⟨idr, rfl, hyr⟩ := ic_sl (by omega) hy
        have hyx := hyd.2 idr rfl
        refine KT.step rfl rfl (K.build1' (v := oslT m.length idr) rfl rfl Try.underlying22 Try.one33) ?_
        refine KT.appK (k := 1) (vs := [oslT m.length idr]) rfl rfl rfl rfl (rows.own.pushed _) (List.getElem?_concat_length ..) rfl rfl (by simp; omega) Try.underlying22 Try.size33 bytes33 cells33 (by omega) fun σ2 x2 ho2 k2 w2 => ?_
        have hrows2 := rows.push (σ1 := σ2) hyr hyx ho2 k2 w2
        refine KT.step rfl rfl (K.assign rfl) ?_
        refine KT.nil ?_
        refine blockK_n ?_
        refine thenK_n ?_
        refine KC.region ?_
        refine KT.step rfl rfl (K.add rfl rfl (wrap_id (by omega))) ?_
        refine KT.step rfl rfl (K.move rfl) ?_
        refine KT.nil ?_
        refine thenK_n ?_
        exact ⟨(σ2, x2, ids ++ [idr]), ⟨by simp; omega, hrows2⟩, by simp; omega, rfl, by simp [Go.Vm.look, extK]⟩
    · skip
      replace hc20 := of_decide_eq_false hc20
      have hin : ids.length = m.length := by omega
      refine KC.exit ?_
      refine thenK_x ?_
      refine thenK_x ?_
      refine blockK_e ?_
      refine thenK_n ?_
      refine KC.seq ?_
      refine KC.seq ?_
      refine KC.region ?_
      refine KT.step rfl rfl (K.move rfl) ?_
      refine KT.step rfl rfl (K.callZ (xs := [x0]) (ds := [genT m.length (flI (mf m)) m.length]) (List.range σ0.length) 5 rfl plainTry_67 (by rw [freeze_range, List.mapM_cons, rows.fin (by omega), hin]; rfl) (rstar67 genT_mat n1 n6 (flI_good _) (by omega))) ?_
      generalize freezeIds σ0 (List.range σ0.length) = σF
      refine KT.step rfl rfl (K.len rfl (genS_mat (N := m.length) (g := (curI m.length (flI (mf m)) (m.length - 1))) (R := m.length)) Try.underlying22) ?_
      rw [genM_len]
      refine KT.step rfl rfl (K.move rfl) ?_
      refine KT.nil ?_
      refine thenK_n ?_
      refine KC.block ?_
      refine KC.loop (fun _ : Nat => σF) (fun i => [(42, .d (genS m.length (curI m.length (flI (mf m)) (m.length - 1)) m.length)), (43, .d (DI (m.length : Nat))), (44, .d (DI (i : Nat)))]) (fun i => i ≤ m.length ∧ ∀ r, r < i → ∀ j, j < m.length → (curI m.length (flI (mf m)) (m.length - 1)) r j ≠ Nv) (fun i => m.length - i) 0 ⟨Nat.zero_le _, fun r h => absurd h (Nat.not_lt_zero _)⟩ rfl (by simp [Go.Vm.look, extK]) ?_
      intro i hi
      obtain ⟨hi, hall⟩ := hi
      refine KC.seq ?_
      refine KC.region ?_
      refine KT.step rfl rfl (K.lss rfl rfl) ?_
      refine KT.nil ?_
      refine thenK_n ?_
      refine KC.seq ?_
      refine KC.cond rfl (fun hc45 => ?_) (fun hc45 => ?_)
      · skip
        replace hc45 := of_decide_eq_true hc45
        refine KC.skip ?_
        refine thenK_n ?_
        refine KC.seq ?_
        refine KC.block ?_
        refine KC.seq ?_
        refine KC.region ?_
        refine KT.idx rfl rfl rfl (genS_mat (N := m.length) (g := (curI m.length (flI (mf m)) (m.length - 1))) (R := m.length)) rfl (by rw [genM_len]; omega) Try.underlying22 Try.size33 fun c46 cs46 hq46 => ?_
        rw [genM_row] at hq46
        refine KT.step rfl rfl (K.load rfl Try.agg33) ?_
        refine KT.step rfl rfl (K.assign rfl) ?_
        refine KT.nil ?_
        refine thenK_n ?_
        refine KC.seq ?_
        refine KC.region ?_
        refine KT.step rfl rfl (K.move rfl) ?_
        refine KT.step rfl rfl (K.len rfl hq46 Try.underlying33) ?_
        rw [List.length_map, List.length_range]
        refine KT.step rfl rfl (K.move rfl) ?_
        refine KT.nil ?_
        refine thenK_n ?_
        refine KC.block ?_
        refine KC.loop (fun _ : Nat => σF) (fun j => [(42, .d (genS m.length (curI m.length (flI (mf m)) (m.length - 1)) m.length)), (43, .d (DI (m.length : Nat))), (44, .d (DI (i : Nat))), (48, .d c46), (49, .d (DI (m.length : Nat))), (50, .d (DI (j : Nat)))]) (fun j => j ≤ m.length ∧ ∀ c, c < j → (curI m.length (flI (mf m)) (m.length - 1)) i c ≠ Nv) (fun j => m.length - j) 0 ⟨Nat.zero_le _, fun r h => absurd h (Nat.not_lt_zero _)⟩ rfl (by simp [Go.Vm.look, extK]) ?_
        intro j hj
        obtain ⟨hj, hrow⟩ := hj
        refine KC.seq ?_
        refine KC.region ?_
        refine KT.step rfl rfl (K.lss rfl rfl) ?_
        refine KT.nil ?_
        refine thenK_n ?_
        refine KC.seq ?_
        refine KC.cond rfl (fun hc51 => ?_) (fun hc51 => ?_)
        · skip
          replace hc51 := of_decide_eq_true hc51
          refine KC.skip ?_
          refine thenK_n ?_
          refine KC.seq ?_
          refine KC.block ?_
          refine KC.seq ?_
          refine KC.region ?_
          refine KT.idxI rfl rfl rfl (by assumption) rfl (by simp; omega) Try.underlying33 Try.size3 fun cs52 => ?_
          rw [get_range]
          refine KT.step rfl rfl (K.load rfl Try.agg3) ?_
          refine KT.step rfl rfl (K.assign rfl) ?_
          refine KT.nil ?_
          refine thenK_n ?_
          refine KC.seq ?_
          refine KC.region ?_
          refine KT.step rfl rfl (K.move rfl) ?_
          refine KT.step rfl rfl (K.eql rfl rfl) ?_
          refine KT.nil ?_
          refine thenK_n ?_
          refine KC.cond rfl (fun hc55 => ?_) (fun hc55 => ?_)
          · skip
            replace hc55 := of_decide_eq_true hc55
            refine KC.seq ?_
            refine KC.region ?_
            refine KT.step rfl rfl (K.assign rfl) ?_
            refine KT.nil ?_
            refine thenK_n ?_
            refine KC.ret ?_
            refine blockK_r ?_
            refine thenK_r ?_
            refine thenK_r ?_
            refine blockK_r ?_
            refine blockK_r ?_
            refine thenK_r ?_
            refine thenK_r ?_
            refine blockK_r ?_
            refine thenK_r ?_
            have h7 := connE_no e1 fun h => (hcp.1 h) i (by omega) j (by omega) hc55
            exact ⟨.inl rfl, _, rfl, fin_d (by rw [h7]; rfl)⟩
          · skip
            replace hc55 := of_decide_eq_false hc55
            refine KC.skip ?_
            refine blockK_n ?_
            refine thenK_n ?_
            refine KC.region ?_
            refine KT.step rfl rfl (K.add rfl rfl (wrap_id (by omega))) ?_
            refine KT.step rfl rfl (K.move rfl) ?_
            refine KT.nil ?_
            refine thenK_n ?_
            refine ⟨j + 1, ⟨by omega, fun c h1 => ?_⟩, by omega, rfl, by simp [Go.Vm.look, extK]⟩
            by_cases hr : c < j
            · exact hrow c hr
            · obtain rfl : c = j := by omega
              exact hc55
        · skip
          replace hc51 := of_decide_eq_false hc51
          refine KC.exit ?_
          refine thenK_x ?_
          refine thenK_x ?_
          refine blockK_e ?_
          refine blockK_n ?_
          refine thenK_n ?_
          refine KC.region ?_
          refine KT.step rfl rfl (K.add rfl rfl (wrap_id (by omega))) ?_
          refine KT.step rfl rfl (K.move rfl) ?_
          refine KT.nil ?_
          refine thenK_n ?_
          refine ⟨i + 1, ⟨by omega, fun r h1 j h2 => ?_⟩, by omega, rfl, by simp [Go.Vm.look, extK]⟩
          by_cases hr : r < i
          · exact hall r hr j h2
          · obtain rfl : r = i := by omega
            exact hrow j (by omega)
      · skip
        replace hc45 := of_decide_eq_false hc45
        refine KC.exit ?_
        refine thenK_x ?_
        refine thenK_x ?_
        refine blockK_e ?_
        refine thenK_n ?_
        refine KC.seq ?_
        refine KC.region ?_
        refine KT.step rfl rfl (K.assign rfl) ?_
        refine KT.nil ?_
        refine thenK_n ?_
        refine KC.ret ?_
        have h0 := connE_yes e1 (hcp.2 fun r hr j hj => hall r (by omega) j hj)
        exact ⟨.inl rfl, _, rfl, fin_d (by rw [h0]; rfl)⟩
end Go.Proofs.Ythbnnffmhnjpjaa

