import Derived.Test.YthbnnffmhnjpjaaCyEi
/-
  Times: the reference: Eigen; the law CycleEigens.
-/
namespace Go.Proofs.Ythbnnffmhnjpjaa
open Go.Vm Go.Cy Go.RowKit

theorem minH_snoc (l : List (List Nat)) (c : List Nat) (m : Nat) : minH (l ++ [c]) m = min (minH l m) (c.headD 0) := by
  unfold minH; rw [List.foldl_append]; rfl
theorem cI_head {c : List Nat} (h : 0 < (cI c).length) : (cI c)[0] = ((c.headD 0 : Nat) : Int) := by
  cases c with
  | nil => simp [cI] at h
  | cons x r => rfl
theorem crN_mem {m : List (List Int)} {p q : Int} {c : List Nat} (h : c ∈ crN m.length (mf m) p q) : 0 < c.length := by
  obtain ⟨s, hs, hmem, hcyc⟩ := mem_cycs.1 (List.mem_filter.1 h).1
  have := ((mem_extN s c).1 hmem).1
  omega
theorem crN_len {m : List (List Int)} (p q : Int) : (crN m.length (mf m) p q).length ≤ (cycsN m.length (mf m) m.length).length := List.length_filter_le _ _
/-- The reference's eigenvector. -/
noncomputable def reigD (m : List (List Int)) : DV := if connE m = 0 then rowT m.length (eigF m) else Dnil
theorem reig_ints (m : List (List Int)) : Ints (reigD m) (eigV m) := by unfold reigD eigV; split; exact rowT_ints _; exact .nil
theorem rowT_fin {k n : Nat} {f : Nat → Int} {σ : List VObj} {id : Nat} (h : σ[id]? = some (⟨icells ((List.range n).map f), 0⟩ : VObj)) : deepen (freezeAll σ) (k + 2) (oslT n id) = some (rowT n f) := by
  rw [show oslT n id = .osl id 0 n 1 n false from rfl, deepen_cells (k := k) (R := n) (ds := (List.range n).map fun j => DI (f j)) (by simp [freezeAll, h]; rfl) (by simp [icells, Function.comp_def]) (by simp)]
  rfl
theorem GSt.cur_ways {n : Nat} {g : Nat → Nat → Int} (h : GSt n g) : curI n g (n - 1) = waysI n g := by
  have := h.n6
  refine DM_inj ?_
  rw [cur_dec h.gd (by omega) (by omega), h.ways]; rfl
set_option maxHeartbeats 3000000 in
set_option maxRecDepth 10000 in
theorem rEigen37 {d : DV} {m : List (List Int)} (hd : Mat d m) (hl : m.length ≤ 9223372036854775807) (hr : ∀ r ∈ m, r.length ≤ 9223372036854775807) : DeepCall Try.prog 37 [d] (.tup [reigD m, DI (connE m)]) := by
  refine deepCall_K 5 Try.func37 rfl (Nat.le_of_ble_eq_true rfl) fun M W0 => ?_
  refine KC.seq ?_
  refine KC.region ?_
  refine KT.step rfl rfl (K.assign rfl) ?_
  refine KT.step rfl rfl (K.assign rfl) ?_
  refine KT.nil ?_
  refine thenK_n ?_
  refine KC.seq ?_
  refine KC.seq ?_
  refine KC.region ?_
  refine KT.step rfl rfl (K.move rfl) ?_
  refine KT.step rfl rfl (K.call1 rfl plainTry_38 (small38 hd hl hr)) ?_
  refine KT.step rfl rfl (K.not rfl) ?_
  refine KT.nil ?_
  refine thenK_n ?_
  refine KC.cond rfl (fun hc21 => ?_) (fun hc21 => ?_)
  · skip
    have hv : validB 1000 m = false := by rw [Bool.not_eq_true'] at hc21; exact hc21
    have hE := connE_bad hv
    refine KC.seq ?_
    refine KC.region ?_
    refine KT.step rfl rfl (K.assign rfl) ?_
    refine KT.step rfl rfl (K.assign rfl) ?_
    refine KT.nil ?_
    refine thenK_n ?_
    refine KC.ret ?_
    refine thenK_r ?_
    exact ⟨.inl rfl, _, rfl, by unfold reigD; rw [hE]; rfl⟩
  · skip
    have hv : validB 1000 m = true := by rw [Bool.not_eq_false'] at hc21; exact hc21
    obtain ⟨sm, p3⟩ := Cy.Small.of hv
    have n1 := sm.n1
    have n6 := sm.n6
    have hd' : Mat d (genM m.length m.length (mf m)) := p3 ▸ hd
    have hcl := cycsN_len (a := mf m) n6 (Nat.le_refl m.length)
    obtain ⟨cn1, cn2⟩ := cyc_nil hv
    refine KC.skip ?_
    refine thenK_n ?_
    refine KC.seq ?_
    refine KC.seq ?_
    refine KC.region ?_
    refine KT.step rfl rfl (K.move rfl) ?_
    refine KT.step rfl rfl (K.call1 rfl plainTry_70 (rConn70 hd hv)) ?_
    refine KT.step rfl rfl (K.not rfl) ?_
    refine KT.nil ?_
    refine thenK_n ?_
    refine KC.cond rfl (fun hc24 => ?_) (fun hc24 => ?_)
    · skip
      have hE : connE m = 7 := by
        have h0 : ¬ connE m = 0 := fun e => by rw [e] at hc24; exact absurd hc24 (by decide)
        rcases connE_or m with h | h | h
        · exfalso
          by_cases hn : (cycsN m.length (mf m) m.length) = []
          · have := cn1 hn; omega
          · obtain ⟨p, q, hm, e1, e2, e3⟩ := cn2 hn
            unfold connE at h
            rw [if_neg (by omega), if_neg (by omega)] at h
            split at h <;> omega
        · exact h
        · exact absurd h h0
      refine KC.seq ?_
      refine KC.region ?_
      refine KT.step rfl rfl (K.assign rfl) ?_
      refine KT.step rfl rfl (K.assign rfl) ?_
      refine KT.nil ?_
      refine thenK_n ?_
      refine KC.ret ?_
      refine thenK_r ?_
      exact ⟨.inl rfl, _, rfl, by unfold reigD; rw [hE]; rfl⟩
    · skip
      have hE : connE m = 0 := Classical.byContradiction fun h => by rw [decide_eq_false h] at hc24; exact absurd hc24 (by decide)
      obtain ⟨p, q, hm, e1, e2, e3⟩ := cn2 fun h => by have := cn1 h; omega
      obtain ⟨_, _, mq, mp, _⟩ := sm.mean hm
      have hg := sm.gst hm
      obtain ⟨hin0, _⟩ := hg.crit
      have hleast := sm.least hm
      rw [← hleast] at hin0
      obtain ⟨a1, a2⟩ := mean_parts hv
      have hne : (mFold (mf m) (cycsN m.length (mf m) m.length)).2.2 ≠ [] := fun h => by have := (a1 h).1; omega
      have hlow : (p, q) = lowI ((mFold (mf m) (cycsN m.length (mf m) m.length)).1, (mFold (mf m) (cycsN m.length (mf m) m.length)).2.1) := e2.symm.trans (a2 hne).2.1
      have hRM := rmean57 (extended102 n6) hd' n1 n6 sm.ga
      rw [← hlow] at hRM
      simp only at hRM
      have hcl2 := crN_len (m := m) p q
      refine KC.skip ?_
      refine thenK_n ?_
      refine KC.seq ?_
      refine KC.region ?_
      refine KT.step rfl rfl (K.move rfl) ?_
      refine KT.step rfl rfl (K.call1 rfl plainTry_57 (hRM)) ?_
      refine KT.step rfl rfl (K.move rfl) ?_
      refine KT.step rfl rfl (K.extract rfl rfl) ?_
      refine KT.step rfl rfl (K.extract rfl rfl) ?_
      refine KT.step rfl rfl (K.extract rfl rfl) ?_
      refine KT.step rfl rfl (K.assign rfl) ?_
      refine KT.step rfl rfl (K.assign rfl) ?_
      refine KT.step rfl rfl (K.assign rfl) ?_
      refine KT.nil ?_
      refine thenK_n ?_
      refine KC.seq ?_
      refine KC.region ?_
      refine KT.step rfl rfl (K.move rfl) ?_
      refine KT.step rfl rfl (K.len rfl hd' Try.underlying22) ?_
      rw [genM_len]
      refine KT.step rfl rfl (K.assign rfl) ?_
      refine KT.nil ?_
      refine thenK_n ?_
      refine KC.seq ?_
      refine KC.seq ?_
      refine KC.region ?_
      refine KT.step rfl rfl (K.move rfl) ?_
      refine KT.step rfl rfl (K.call1 rfl plainTry_71 (rcrit71 hd hv hm)) ?_
      refine KT.step rfl rfl (K.len rfl (waysD_vec (crN m.length (mf m) p q)) Try.underlying22) ?_
      refine KT.step rfl rfl (K.move rfl) ?_
      refine KT.nil ?_
      refine thenK_n ?_
      refine KC.block ?_
      refine KC.loop (fun _ : Nat => []) (fun i => [(0, .d d), (4, .d (DI p)), (5, .d (DI q)), (7, .d (DI ((minH ((crN m.length (mf m) p q).take i) m.length : Nat) : Int))), (34, .d (waysD (crN m.length (mf m) p q))), (35, .d (DI ((crN m.length (mf m) p q).length : Nat))), (36, .d (DI (i : Nat)))]) (fun i => i ≤ (crN m.length (mf m) p q).length) (fun i => (crN m.length (mf m) p q).length - i) 0 (Nat.zero_le _) rfl (by simp [Go.Vm.look, extK, enterK, minH]) ?_
      intro i hi
      refine KC.seq ?_
      refine KC.region ?_
      refine KT.step rfl rfl (K.lss rfl rfl) ?_
      refine KT.nil ?_
      refine thenK_n ?_
      refine KC.seq ?_
      refine KC.cond rfl (fun hc37 => ?_) (fun hc37 => ?_)
      · skip
        replace hc37 := of_decide_eq_true hc37
        refine KC.skip ?_
        refine thenK_n ?_
        refine KC.seq ?_
        refine KC.block ?_
        refine KC.seq ?_
        refine KC.region ?_
        refine KT.idx rfl rfl rfl (waysD_vec (crN m.length (mf m) p q)) rfl (by omega) Try.underlying22 Try.size33 fun c38 cs38 hq38 => ?_
        subst hq38
        refine KT.step rfl rfl (K.load rfl Try.agg33) ?_
        refine KT.step rfl rfl (K.assign rfl) ?_
        refine KT.nil ?_
        refine thenK_n ?_
        refine KC.region ?_
        refine KT.step rfl rfl (K.move rfl) ?_
        refine KT.step rfl rfl (K.move rfl) ?_
        refine KT.idx (m := 0) rfl rfl rfl (wayD_ints ((crN m.length (mf m) p q)[i])) rfl (by rw [cI_len]; exact crN_mem (List.getElem_mem _)) Try.underlying33 Try.size3 fun c42 cs42 hq42 => ?_
        obtain rfl : c42 = DI ((((crN m.length (mf m) p q)[i]).headD 0 : Nat) : Int) := hq42.trans (congrArg DI (cI_head _))
        refine KT.step rfl rfl (K.load rfl Try.agg3) ?_
        refine KT.step rfl rfl (K.minN rfl rfl) ?_
        refine KT.step rfl rfl (K.assign rfl) ?_
        refine KT.nil ?_
        refine blockK_n ?_
        refine thenK_n ?_
        refine KC.region ?_
        refine KT.step rfl rfl (K.add rfl rfl (wrap_id (by omega))) ?_
        refine KT.step rfl rfl (K.move rfl) ?_
        refine KT.nil ?_
        refine thenK_n ?_
        refine ⟨i + 1, by omega, by omega, rfl, ?_⟩
        rw [List.take_succ_eq_append_getElem (show i < (crN m.length (mf m) p q).length by omega), minH_snoc]
        simp [Go.Vm.look, extK]
      · skip
        replace hc37 := of_decide_eq_false hc37
        have hfin : i = (crN m.length (mf m) p q).length := by omega
        rw [hfin, List.take_length]
        refine KC.exit ?_
        refine thenK_x ?_
        refine thenK_x ?_
        refine blockK_e ?_
        refine thenK_n ?_
        refine KC.seq ?_
        refine KC.region ?_
        refine KT.step rfl rfl (K.assign rfl) ?_
        refine KT.nil ?_
        refine thenK_n ?_
        refine KC.seq ?_
        refine KC.seq ?_
        refine KC.region ?_
        refine KT.step rfl rfl (K.move rfl) ?_
        refine KT.step rfl rfl (K.len rfl hd' Try.underlying22) ?_
        rw [genM_len]
        refine KT.step rfl rfl (K.move rfl) ?_
        refine KT.nil ?_
        refine thenK_n ?_
        refine KC.block ?_
        refine KC.loop (fun s : List VObj × XV × List Nat => s.1) (fun s => [(0, .d d), (4, .d (DI p)), (5, .d (DI q)), (7, .d (DI ((minH (crN m.length (mf m) p q) m.length) : Nat))), (46, .d d), (47, .d (DI (m.length : Nat))), (10, s.2.1), (48, .d (DI (s.2.2.length : Nat)))]) (fun s => s.2.2.length ≤ m.length ∧ TRows m.length (gainI (mf m) p q) s.1 s.2.1 s.2.2) (fun s => m.length - s.2.2.length) ([], .d Dnil, []) ⟨Nat.zero_le _, .zero⟩ rfl (by simp [Go.Vm.look, extK]) ?_
        intro s hs
        obtain ⟨σ0, x0, ids⟩ := s
        obtain ⟨hi, rows⟩ := hs
        simp only at hi rows ⊢
        refine KC.seq ?_
        refine KC.region ?_
        refine KT.step rfl rfl (K.lss rfl rfl) ?_
        refine KT.nil ?_
        refine thenK_n ?_
        refine KC.seq ?_
        refine KC.cond rfl (fun hc49 => ?_) (fun hc49 => ?_)
        · skip
          replace hc49 := of_decide_eq_true hc49
          have hin : ids.length < m.length := by omega
          refine KC.skip ?_
          refine thenK_n ?_
          refine KC.seq ?_
          refine KC.block ?_
          refine KC.seq ?_
          refine KC.region ?_
          refine KT.idx rfl rfl rfl (by assumption) rfl (by rw [genM_len]; omega) Try.underlying22 Try.size33 fun c50 cs50 hq50 => ?_
          rw [genM_row] at hq50
          refine KT.step rfl rfl (K.load rfl Try.agg33) ?_
          refine KT.step rfl rfl (K.assign rfl) ?_
          refine KT.nil ?_
          refine thenK_n ?_
          refine KC.seq ?_
          refine KC.region ?_
          refine KT.step rfl rfl (K.assign rfl) ?_
          refine KT.nil ?_
          refine thenK_n ?_
          refine KC.seq ?_
          refine KC.seq ?_
          refine KC.region ?_
          refine KT.step rfl rfl (K.move rfl) ?_
          refine KT.step rfl rfl (K.len rfl hq50 Try.underlying33) ?_
          rw [List.length_map, List.length_range]
          refine KT.step rfl rfl (K.move rfl) ?_
          refine KT.nil ?_
          refine thenK_n ?_
          refine KC.block ?_
          refine KC.loop (fun s : List VObj × XV × Nat => s.1) (fun s => [(0, .d d), (4, .d (DI p)), (5, .d (DI q)), (7, .d (DI ((minH (crN m.length (mf m) p q) m.length) : Nat))), (46, .d d), (47, .d (DI (m.length : Nat))), (10, x0), (48, .d (DI (ids.length : Nat))), (13, s.2.1), (52, .d c50), (53, .d (DI (m.length : Nat))), (54, .d (DI (s.2.2 : Nat)))]) (fun s => s.2.2 ≤ m.length ∧ TRows m.length (gainI (mf m) p q) s.1 x0 ids ∧ OwnK 1 s.1 s.2.1 (icells ((List.range s.2.2).map fun r => gainI (mf m) p q ids.length r)) ∧ ((∀ j, idX s.2.1 = some j → j ∉ ids) ∧ ∀ j, idX s.2.1 = some j → idX x0 ≠ some j)) (fun s => m.length - s.2.2) (σ0, .d Dnil, 0) ⟨Nat.zero_le _, rows, .nil, (fun j h => by cases h), fun j h => by cases h⟩ rfl (by simp [Go.Vm.look, extK]) ?_
          clear rows
          intro s hs
          obtain ⟨σ3, y, i⟩ := s
          obtain ⟨hi2, rows, hy, hyd⟩ := hs
          simp only at hi2 rows hy hyd ⊢
          refine KC.seq ?_
          refine KC.region ?_
          refine KT.step rfl rfl (K.lss rfl rfl) ?_
          refine KT.nil ?_
          refine thenK_n ?_
          refine KC.seq ?_
          refine KC.cond rfl (fun hc55 => ?_) (fun hc55 => ?_)
          · skip
            replace hc55 := of_decide_eq_true hc55
            refine KC.skip ?_
            refine thenK_n ?_
            refine KC.seq ?_
            refine KC.block ?_
            refine KC.seq ?_
            refine KC.region ?_
            refine KT.idxI rfl rfl rfl (by assumption) rfl (by simp; omega) Try.underlying33 Try.size3 fun cs56 => ?_
            rw [get_range]
            refine KT.step rfl rfl (K.load rfl Try.agg3) ?_
            refine KT.step rfl rfl (K.assign rfl) ?_
            refine KT.nil ?_
            refine thenK_n ?_
            refine KC.seq ?_
            refine KC.seq ?_
            refine KC.region ?_
            refine KT.step rfl rfl (K.move rfl) ?_
            refine KT.step rfl rfl (K.neq rfl rfl) ?_
            refine KT.nil ?_
            refine thenK_n ?_
            refine KC.cond rfl (fun hc59 => ?_) (fun hc59 => ?_)
            · skip
              replace hc59 := of_decide_eq_true hc59
              refine KC.region ?_
              refine KT.step rfl rfl (K.move rfl) ?_
              refine KT.step rfl rfl (K.move rfl) ?_
              have hvb := (sm.ga ids.length i).resolve_left hc59
              have hm1 := mul_bd (a := 6) (b := 1000) (show -6 ≤ q ∧ q ≤ 6 by omega) hvb (by omega) (by omega)
              refine KT.step rfl rfl (K.mul rfl rfl (wrap_id (by omega))) ?_
              refine KT.step rfl rfl (K.move rfl) ?_
              refine KT.step rfl rfl (K.sub rfl rfl (wrap_id (by omega))) ?_
              refine KT.step rfl rfl (K.assign rfl) ?_
              refine KT.nil ?_
              refine thenK_n ?_
              refine KC.region ?_
              refine KT.step rfl rfl (K.move rfl) ?_
              refine KT.step rfl rfl (K.move rfl) ?_
              have hV : gainI (mf m) p q ids.length i = q * mf m ids.length i - p := if_neg hc59
              refine KT.step rfl rfl (K.build1' (v := .d (DI (q * mf m ids.length i - p))) rfl rfl Try.underlying33 Try.one3) ?_
              refine KT.appK (k := 1) (vs := [.d (DI (q * mf m ids.length i - p))]) rfl rfl rfl rfl (hy.pushed _) (List.getElem?_concat_length ..) rfl rfl (by rw [icells_len, List.length_map, List.length_range]; omega) Try.underlying33 Try.size3 bytes3 cells3 (by omega) fun σ1 y1 ho1 k1 w1 => ?_
              have hrow1 : TRows m.length (gainI (mf m) p q) σ1 x0 ids := rows.keep fun j hj hm => by
                rw [k1 j (fun e => by rcases hm with hm | hm; exact hyd.1 j e hm; exact hyd.2 j e hm) (by simp; omega), List.getElem?_append_left hj]
              have hyd1 : (∀ j, idX y1 = some j → j ∉ ids) ∧ ∀ j, idX y1 = some j → idX x0 ≠ some j := by
                obtain ⟨j1, w2, w3⟩ := w1
                simp only [List.length_append, List.length_cons, List.length_nil] at w3
                exact ⟨fun j hj hm => by rw [w2] at hj; cases hj; have := rows.lt (.inl hm); omega, fun j hj hm => by rw [w2] at hj; cases hj; have := rows.lt (.inr hm); omega⟩
              have ho2 : OwnK 1 σ1 y1 (icells ((List.range (i + 1)).map fun r => gainI (mf m) p q ids.length r)) := by rw [icells_snoc (fun r => gainI (mf m) p q ids.length r) i, hV]; exact ho1
              refine KT.step rfl rfl (K.assign rfl) ?_
              refine KT.nil ?_
              refine blockK_n ?_
              refine thenK_n ?_
              refine KC.region ?_
              refine KT.step rfl rfl (K.add rfl rfl (wrap_id (by omega))) ?_
              refine KT.step rfl rfl (K.move rfl) ?_
              refine KT.nil ?_
              refine thenK_n ?_
              exact ⟨(σ1, y1, i + 1), ⟨by simp only; omega, hrow1, ho2, hyd1⟩, by simp only; omega, rfl, by simp [Go.Vm.look, extK]⟩
            · skip
              replace hc59 := of_decide_eq_false hc59
              refine KC.skip ?_
              refine thenK_n ?_
              refine KC.region ?_
              refine KT.step rfl rfl (K.move rfl) ?_
              refine KT.step rfl rfl (K.move rfl) ?_
              have hV : gainI (mf m) p q ids.length i = mf m ids.length i := (if_pos (Classical.not_not.1 hc59)).trans (Classical.not_not.1 hc59).symm
              refine KT.step rfl rfl (K.build1' (v := .d (DI (mf m ids.length i))) rfl rfl Try.underlying33 Try.one3) ?_
              refine KT.appK (k := 1) (vs := [.d (DI (mf m ids.length i))]) rfl rfl rfl rfl (hy.pushed _) (List.getElem?_concat_length ..) rfl rfl (by rw [icells_len, List.length_map, List.length_range]; omega) Try.underlying33 Try.size3 bytes3 cells3 (by omega) fun σ1 y1 ho1 k1 w1 => ?_
              have hrow1 : TRows m.length (gainI (mf m) p q) σ1 x0 ids := rows.keep fun j hj hm => by
                rw [k1 j (fun e => by rcases hm with hm | hm; exact hyd.1 j e hm; exact hyd.2 j e hm) (by simp; omega), List.getElem?_append_left hj]
              have hyd1 : (∀ j, idX y1 = some j → j ∉ ids) ∧ ∀ j, idX y1 = some j → idX x0 ≠ some j := by
                obtain ⟨j1, w2, w3⟩ := w1
                simp only [List.length_append, List.length_cons, List.length_nil] at w3
                exact ⟨fun j hj hm => by rw [w2] at hj; cases hj; have := rows.lt (.inl hm); omega, fun j hj hm => by rw [w2] at hj; cases hj; have := rows.lt (.inr hm); omega⟩
              have ho2 : OwnK 1 σ1 y1 (icells ((List.range (i + 1)).map fun r => gainI (mf m) p q ids.length r)) := by rw [icells_snoc (fun r => gainI (mf m) p q ids.length r) i, hV]; exact ho1
              refine KT.step rfl rfl (K.assign rfl) ?_
              refine KT.nil ?_
              refine blockK_n ?_
              refine thenK_n ?_
              refine KC.region ?_
              refine KT.step rfl rfl (K.add rfl rfl (wrap_id (by omega))) ?_
              refine KT.step rfl rfl (K.move rfl) ?_
              refine KT.nil ?_
              refine thenK_n ?_
              exact ⟨(σ1, y1, i + 1), ⟨by simp only; omega, hrow1, ho2, hyd1⟩, by simp only; omega, rfl, by simp [Go.Vm.look, extK]⟩
          · skip
            replace hc55 := of_decide_eq_false hc55
            refine KC.exit ?_
            refine thenK_x ?_
            refine thenK_x ?_
            refine blockK_e ?_
            refine thenK_n ?_
            refine KC.region ?_
            refine KT.step rfl rfl (K.move rfl) ?_
            refine KT.step rfl rfl (K.move rfl) ?_
            have hin2 : i = m.length := by omega
            rw [hin2] at hy
            obtain ⟨idr, rfl, hyr⟩ := ic_sl (by omega) hy
            have hyx := hyd.2 idr rfl
            refine KT.step rfl rfl (K.build1' (v := oslT m.length idr) rfl rfl Try.underlying22 Try.one33) ?_
            refine KT.appK (k := 1) (vs := [oslT m.length idr]) rfl rfl rfl rfl (rows.own.pushed _) (List.getElem?_concat_length ..) rfl rfl (by simp; omega) Try.underlying22 Try.size33 bytes33 cells33 (by omega) fun σ2 x2 ho2 k2 w2 => ?_
            have hrows2 := rows.push (σ1 := σ2) hyr hyx ho2 k2 w2
            refine KT.step rfl rfl (K.assign rfl) ?_
            refine KT.nil ?_
            refine blockK_n ?_
            refine thenK_n ?_
            refine KC.region ?_
            refine KT.step rfl rfl (K.add rfl rfl (wrap_id (by omega))) ?_
            refine KT.step rfl rfl (K.move rfl) ?_
            refine KT.nil ?_
            refine thenK_n ?_
            exact ⟨(σ2, x2, ids ++ [idr]), ⟨by simp; omega, hrows2⟩, by simp; omega, rfl, by simp [Go.Vm.look, extK]⟩
        · skip
          replace hc49 := of_decide_eq_false hc49
          have hin : ids.length = m.length := by omega
          refine KC.exit ?_
          refine thenK_x ?_
          refine thenK_x ?_
          refine blockK_e ?_
          refine thenK_n ?_
          refine KC.seq ?_
          refine KC.region ?_
          refine KT.step rfl rfl (K.assign rfl) ?_
          refine KT.nil ?_
          refine thenK_n ?_
          refine KC.seq ?_
          refine KC.seq ?_
          refine KC.region ?_
          refine KT.step rfl rfl (K.move rfl) ?_
          refine KT.step rfl rfl (K.callZ (xs := [x0]) (ds := [genT m.length (gainI (mf m) p q) m.length]) (List.range σ0.length) 5 rfl plainTry_67 (by rw [freeze_range, List.mapM_cons, rows.fin (by omega), hin]; rfl) (by have h := rstar67 (genT_mat (N := m.length) (g := gainI (mf m) p q) (R := m.length)) n1 n6 hg.gd (by omega); rw [GSt.cur_ways hg] at h; exact h)) ?_
          generalize freezeIds σ0 (List.range σ0.length) = σF
          refine KT.step rfl rfl (K.len rfl (genS_mat (N := m.length) (g := (waysI m.length (gainI (mf m) p q))) (R := m.length)) Try.underlying22) ?_
          rw [genM_len]
          refine KT.step rfl rfl (K.move rfl) ?_
          refine KT.nil ?_
          refine thenK_n ?_
          refine KC.block ?_
          refine KC.loop (fun p : List VObj × XV × Nat => p.1) (fun s => [(7, .d (DI ((minH (crN m.length (mf m) p q) m.length) : Nat))), (76, .d (genS m.length (waysI m.length (gainI (mf m) p q)) m.length)), (77, .d (DI (m.length : Nat))), (16, s.2.1), (78, .d (DI (s.2.2 : Nat)))]) (fun s => s.2.2 ≤ m.length ∧ OwnK 1 s.1 s.2.1 (icells ((List.range s.2.2).map fun r => (waysI m.length (gainI (mf m) p q)) r (minH (crN m.length (mf m) p q) m.length)))) (fun s => m.length - s.2.2) (σF, .d Dnil, 0) ⟨Nat.zero_le _, .nil⟩ rfl (by simp [Go.Vm.look, extK]) ?_
          intro s hs
          obtain ⟨σ4, y, i⟩ := s
          obtain ⟨hi, hy⟩ := hs
          simp only at hi hy ⊢
          refine KC.seq ?_
          refine KC.region ?_
          refine KT.step rfl rfl (K.lss rfl rfl) ?_
          refine KT.nil ?_
          refine thenK_n ?_
          refine KC.seq ?_
          refine KC.cond rfl (fun hc79 => ?_) (fun hc79 => ?_)
          · skip
            replace hc79 := of_decide_eq_true hc79
            refine KC.skip ?_
            refine thenK_n ?_
            refine KC.seq ?_
            refine KC.block ?_
            refine KC.seq ?_
            refine KC.region ?_
            refine KT.idx rfl rfl rfl (genS_mat (N := m.length) (g := (waysI m.length (gainI (mf m) p q))) (R := m.length)) rfl (by rw [genM_len]; omega) Try.underlying22 Try.size33 fun c80 cs80 hq80 => ?_
            rw [genM_row] at hq80
            refine KT.step rfl rfl (K.load rfl Try.agg33) ?_
            refine KT.step rfl rfl (K.assign rfl) ?_
            refine KT.nil ?_
            refine thenK_n ?_
            refine KC.region ?_
            refine KT.step rfl rfl (K.move rfl) ?_
            refine KT.step rfl rfl (K.move rfl) ?_
            refine KT.step rfl rfl (K.move rfl) ?_
            refine KT.idxI rfl rfl rfl (by assumption) rfl (by simp; omega) Try.underlying33 Try.size3 fun cs85 => ?_
            rw [get_range]
            refine KT.step rfl rfl (K.load rfl Try.agg3) ?_
            refine KT.step rfl rfl (K.build1' (v := .d (DI ((waysI m.length (gainI (mf m) p q)) i (minH (crN m.length (mf m) p q) m.length)))) rfl rfl Try.underlying33 Try.one3) ?_
            refine KT.appK (k := 1) (vs := [.d (DI ((waysI m.length (gainI (mf m) p q)) i (minH (crN m.length (mf m) p q) m.length)))]) rfl rfl rfl rfl (hy.pushed _) (List.getElem?_concat_length ..) rfl rfl (by rw [icells_len, List.length_map, List.length_range]; omega) Try.underlying33 Try.size3 bytes3 cells3 (by omega) fun σ1 y1 ho1 k1 w1 => ?_
            rw [show icells ((List.range i).map fun r => (waysI m.length (gainI (mf m) p q)) r (minH (crN m.length (mf m) p q) m.length)) ++ [.d (DI ((waysI m.length (gainI (mf m) p q)) i (minH (crN m.length (mf m) p q) m.length)))] = icells ((List.range (i + 1)).map fun r => (waysI m.length (gainI (mf m) p q)) r (minH (crN m.length (mf m) p q) m.length)) from (icells_snoc (fun r => (waysI m.length (gainI (mf m) p q)) r (minH (crN m.length (mf m) p q) m.length)) i).symm] at ho1
            refine KT.step rfl rfl (K.assign rfl) ?_
            refine KT.nil ?_
            refine blockK_n ?_
            refine thenK_n ?_
            refine KC.region ?_
            refine KT.step rfl rfl (K.add rfl rfl (wrap_id (by omega))) ?_
            refine KT.step rfl rfl (K.move rfl) ?_
            refine KT.nil ?_
            refine thenK_n ?_
            exact ⟨(σ1, y1, i + 1), ⟨by simp only; omega, ho1⟩, by simp only; omega, rfl, by simp [Go.Vm.look, extK]⟩
          · skip
            replace hc79 := of_decide_eq_false hc79
            refine KC.exit ?_
            refine thenK_x ?_
            refine thenK_x ?_
            refine blockK_e ?_
            refine thenK_n ?_
            refine KC.seq ?_
            refine KC.region ?_
            refine KT.step rfl rfl (K.move rfl) ?_
            refine KT.step rfl rfl (K.assign rfl) ?_
            refine KT.step rfl rfl (K.assign rfl) ?_
            refine KT.nil ?_
            refine thenK_n ?_
            refine KC.ret ?_
            obtain rfl : i = m.length := by omega
            obtain ⟨idr, rfl, hyr⟩ := ic_sl (by omega) hy
            refine ⟨.inl rfl, _, rfl, ?_⟩
            have hR : reigD m = rowT m.length (fun r => (waysI m.length (gainI (mf m) p q)) r (minH (crN m.length (mf m) p q) m.length)) := by
              unfold reigD; rw [if_pos hE]
              congr 1
              funext r
              unfold eigF eigC; rw [e3, hleast]
            rw [hR, hE]
            exact deepen_tup2 (k := 3) (rowT_fin (k := 2) hyr)

theorem eigV_len (m : List (List Int)) (hl : m.length ≤ 9223372036854775807) : (eigV m).length ≤ 9223372036854775807 := by unfold eigV; split; simpa using hl; simp
theorem EigenF2 {d : DV} {m : List (List Int)} (hd : Mat d m) (_ : m.length ≤ 9223372036854775807) (_ : ∀ r ∈ m, r.length ≤ 9223372036854775807) : DeepCall Try.prog 36 [rows8 m d] (.tup [eigD (fewM m), DI (connE m)]) := by
  have h := Eigen36 (d := rows8 m d) (m := fewM m) (rows8_mat hd) (few_len m).1 (few_len m).2
  rw [few_connE m] at h
  exact h
set_option maxHeartbeats 1600000 in
set_option maxRecDepth 10000 in
theorem law9 {d : DV} {m : List (List Int)} (hd : Mat d m) (hl : m.length ≤ 9223372036854775807) (hr : ∀ r ∈ m, r.length ≤ 9223372036854775807) : DeepCall Try.prog 9 [d] (DB true) := by
  have hS : Ints (eigD (fewM m)) (eigV m) := by have h := eig_ints (fewM m); rwa [few_eigV m] at h
  refine deepCall_K 5 Try.func9 rfl (Nat.le_of_ble_eq_true rfl) fun M W0 => ?_
  refine KC.seq ?_
  refine KC.region ?_
  refine KT.step rfl rfl (K.assign rfl) ?_
  refine KT.nil ?_
  refine thenK_n ?_
  refine KC.seq ?_
  refine KC.region ?_
  refine KT.step rfl rfl (K.move rfl) ?_
  refine KT.step rfl rfl (K.call1 rfl plainTry_19 (rows19 hd hl (fun i hi => by rw [show m.getD i [] = m[i] by simp [hi]]; exact hr _ (List.getElem_mem hi)))) ?_
  refine KT.step rfl rfl (K.call1 rfl plainTry_36 (EigenF2 hd hl hr)) ?_
  refine KT.step rfl rfl (K.move rfl) ?_
  refine KT.step rfl rfl (K.extract rfl rfl) ?_
  refine KT.step rfl rfl (K.extract rfl rfl) ?_
  refine KT.step rfl rfl (K.assign rfl) ?_
  refine KT.step rfl rfl (K.assign rfl) ?_
  refine KT.nil ?_
  refine thenK_n ?_
  refine KC.seq ?_
  refine KC.region ?_
  refine KT.step rfl rfl (K.move rfl) ?_
  refine KT.step rfl rfl (K.call1 rfl plainTry_37 (rEigen37 hd hl hr)) ?_
  refine KT.step rfl rfl (K.move rfl) ?_
  refine KT.step rfl rfl (K.extract rfl rfl) ?_
  refine KT.step rfl rfl (K.extract rfl rfl) ?_
  refine KT.step rfl rfl (K.assign rfl) ?_
  refine KT.step rfl rfl (K.assign rfl) ?_
  refine KT.nil ?_
  refine thenK_n ?_
  refine KC.seq ?_
  refine KC.region ?_
  refine KT.step rfl rfl (K.move rfl) ?_
  refine KT.step rfl rfl (K.move rfl) ?_
  refine KT.step rfl rfl (K.call2 rfl rfl plainTry_29 (equal29 hS (reig_ints m) (eigV_len m hl))) ?_
  refine KT.step rfl rfl (K.move rfl) ?_
  refine KT.bcase (fun hb21 => ?_) (fun hb21 => ?_)
  · skip
    refine KT.step rfl rfl (K.move rfl) ?_
    refine KT.step rfl rfl (K.move rfl) ?_
    refine KT.step rfl rfl (K.eql rfl rfl) ?_
    refine KT.step rfl rfl (K.pick rfl (fun _ => rfl) (fun h => by cases h)) ?_
    refine KT.step rfl rfl (K.move rfl) ?_
    refine KT.bcase (fun hb26 => ?_) (fun hb26 => ?_)
    · skip
      replace hb26 := of_decide_eq_true hb26
      refine KT.step rfl rfl (K.call0 plainTry_24 (awake24)) ?_
      refine KT.step rfl rfl (K.pick rfl (fun _ => rfl) (fun h => by cases h)) ?_
      refine KT.step rfl rfl (K.assign rfl) ?_
      refine KT.nil ?_
      refine thenK_n ?_
      refine KC.ret ?_
      exact ⟨.inl rfl, _, rfl, fin_d rfl⟩
    · skip
      exact absurd rfl (of_decide_eq_false hb26)
  · skip
    exact absurd rfl (of_decide_eq_false hb21)
end Go.Proofs.Ythbnnffmhnjpjaa

