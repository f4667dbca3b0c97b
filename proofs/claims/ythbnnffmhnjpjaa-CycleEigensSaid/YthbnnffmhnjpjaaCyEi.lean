import Derived.Test.YthbnnffmhnjpjaaCyEh
/-
  Times: the reference: the critical cycles.
-/
namespace Go.Proofs.Ythbnnffmhnjpjaa
open Go.Vm Go.Cy Go.RowKit

/-- The critical cycles among the first i. -/
noncomputable def crP (m : List (List Int)) (p q : Int) (i : Nat) : List (List Nat) := ((cycsN m.length (mf m) m.length).take i).filter fun c => decide (wtS (mf m) (cI c) c.length * q = p * (c.length : Int))
theorem crP_all (m : List (List Int)) (p q : Int) {i : Nat} (h : i = (cycsN m.length (mf m) m.length).length) : crP m p q i = crN m.length (mf m) p q := by
  unfold crP crN; rw [h, List.take_length]
theorem crP_succ {m : List (List Int)} {p q : Int} {i : Nat} (h : i < (cycsN m.length (mf m) m.length).length) : crP m p q (i + 1) = crP m p q i ++ if wtS (mf m) (cI (cycsN m.length (mf m) m.length)[i]) (cycsN m.length (mf m) m.length)[i].length * q = p * ((cycsN m.length (mf m) m.length)[i].length : Int) then [(cycsN m.length (mf m) m.length)[i]] else [] := by
  unfold crP
  rw [List.take_succ_eq_append_getElem h, List.filter_append]
  congr 1
  rw [List.filter_cons]
  simp
theorem crP_len (m : List (List Int)) (p q : Int) (i : Nat) : (crP m p q i).length ≤ (cycsN m.length (mf m) m.length).length := by
  unfold crP
  exact Nat.le_trans (List.length_filter_le _ _) (by rw [List.length_take]; exact Nat.min_le_right _ _)
set_option maxHeartbeats 1600000 in
set_option maxRecDepth 10000 in
theorem rcrit71 {d : DV} {m : List (List Int)} (hd : Mat d m) (hv : validB 1000 m = true) {p q : Int} (hm : meanI m.length (mf m) = some (p, q)) : DeepCall Try.prog 71 [d] (waysD (crN m.length (mf m) p q)) := by
  obtain ⟨sm, p3⟩ := Cy.Small.of hv
  have n1 := sm.n1
  have n6 := sm.n6
  have hd' : Mat d (genM m.length m.length (mf m)) := p3 ▸ hd
  have hcl := cycsN_len (a := mf m) n6 (Nat.le_refl m.length)
  obtain ⟨cn1, cn2⟩ := cyc_nil hv
  obtain ⟨e1, e2, _⟩ := meas_some hv hm
  obtain ⟨_, _, mq, mp, _⟩ := sm.mean hm
  obtain ⟨a1, a2⟩ := mean_parts hv
  have hne : (mFold (mf m) (cycsN m.length (mf m) m.length)).2.2 ≠ [] := fun h => by have := (a1 h).1; omega
  have hlow : (p, q) = lowI ((mFold (mf m) (cycsN m.length (mf m) m.length)).1, (mFold (mf m) (cycsN m.length (mf m) m.length)).2.1) := e2.symm.trans (a2 hne).2.1
  have hRM := rmean57 (extended102 n6) hd' n1 n6 sm.ga
  rw [← hlow] at hRM
  simp only at hRM
  refine deepCall_K 5 Try.func71 rfl (Nat.le_of_ble_eq_true rfl) fun M W0 => ?_
  refine KC.seq ?_
  refine KC.region ?_
  refine KT.step rfl rfl (K.assign rfl) ?_
  refine KT.nil ?_
  refine thenK_n ?_
  refine KC.seq ?_
  refine KC.region ?_
  refine KT.step rfl rfl (K.move rfl) ?_
  refine KT.step rfl rfl (K.call1 rfl plainTry_57 (hRM)) ?_
  refine KT.step rfl rfl (K.move rfl) ?_
  refine KT.step rfl rfl (K.extract rfl rfl) ?_
  refine KT.step rfl rfl (K.extract rfl rfl) ?_
  refine KT.step rfl rfl (K.extract rfl rfl) ?_
  refine KT.step rfl rfl (K.assign rfl) ?_
  refine KT.step rfl rfl (K.assign rfl) ?_
  refine KT.step rfl rfl (K.assign rfl) ?_
  refine KT.nil ?_
  refine thenK_n ?_
  refine KC.seq ?_
  refine KC.region ?_
  refine KT.step rfl rfl (K.assign rfl) ?_
  refine KT.nil ?_
  refine thenK_n ?_
  refine KC.seq ?_
  refine KC.seq ?_
  refine KC.region ?_
  refine KT.step rfl rfl (K.move rfl) ?_
  refine KT.step rfl rfl (K.call1 rfl plainTry_90 (cycles90 (extended102 n6) hd' n1 n6 (fun i j => (sm.ga i j).mono (by omega)))) ?_
  refine KT.step rfl rfl (K.len rfl (waysD_vec (cycsN m.length (mf m) m.length)) Try.underlying22) ?_
  refine KT.step rfl rfl (K.move rfl) ?_
  refine KT.nil ?_
  refine thenK_n ?_
  refine KC.block ?_
  refine KC.loop (fun p : List VObj × XV × Nat => p.1) (fun s => [(0, .d d), (3, .d (DI p)), (4, .d (DI q)), (18, .d (waysD (cycsN m.length (mf m) m.length))), (19, .d (DI ((cycsN m.length (mf m) m.length).length : Nat))), (6, s.2.1), (20, .d (DI (s.2.2 : Nat)))]) (fun s => s.2.2 ≤ (cycsN m.length (mf m) m.length).length ∧ OwnK 1 s.1 s.2.1 (wcells (crP m p q s.2.2)) ∧ (crP m p q s.2.2 = [] → s.2.1 = .d Dnil)) (fun s => (cycsN m.length (mf m) m.length).length - s.2.2) ([], .d Dnil, 0) ⟨Nat.zero_le _, .nil, fun _ => rfl⟩ rfl (by simp [Go.Vm.look, extK, enterK]) ?_
  intro s hs
  obtain ⟨σ0, y, i⟩ := s
  obtain ⟨hi, hy, hyn⟩ := hs
  simp only at hi hy hyn ⊢
  refine KC.seq ?_
  refine KC.region ?_
  refine KT.step rfl rfl (K.lss rfl rfl) ?_
  refine KT.nil ?_
  refine thenK_n ?_
  refine KC.seq ?_
  refine KC.cond rfl (fun hc21 => ?_) (fun hc21 => ?_)
  · skip
    replace hc21 := of_decide_eq_true hc21
    have hil : i < (cycsN m.length (mf m) m.length).length := by omega
    refine KC.skip ?_
    refine thenK_n ?_
    refine KC.seq ?_
    refine KC.block ?_
    refine KC.seq ?_
    refine KC.region ?_
    refine KT.idx rfl rfl rfl (waysD_vec (cycsN m.length (mf m) m.length)) rfl (by omega) Try.underlying22 Try.size33 fun c22 cs22 hq22 => ?_
    subst hq22
    refine KT.step rfl rfl (K.load rfl Try.agg33) ?_
    refine KT.step rfl rfl (K.assign rfl) ?_
    refine KT.nil ?_
    refine thenK_n ?_
    refine KC.seq ?_
    refine KC.region ?_
    have hmem := List.getElem_mem (l := (cycsN m.length (mf m) m.length)) (n := i) (by omega)
    obtain ⟨w1, w2, w3, w4⟩ := cyc_bd sm.ga n6 hmem
    have hpl := crP_len m p q i
    refine KT.step rfl rfl (K.move rfl) ?_
    refine KT.step rfl rfl (K.move rfl) ?_
    refine KT.step rfl rfl (K.call2 rfl rfl plainTry_65 (weight65 hd' (wayD_ints _) (by rw [cI_len]; omega) n1 (by omega) (fun i j => (sm.ga i j).mono (by omega)))) ?_
    refine KT.step rfl rfl (K.move rfl) ?_
    rw [w4]
    refine KT.step rfl rfl (K.extract rfl rfl) ?_
    refine KT.step rfl rfl (K.extract rfl rfl) ?_
    refine KT.step rfl rfl (K.assign rfl) ?_
    refine KT.step rfl rfl (K.assign rfl) ?_
    refine KT.nil ?_
    refine thenK_n ?_
    refine KC.seq ?_
    refine KC.region ?_
    refine KT.step rfl rfl (K.move rfl) ?_
    refine KT.step rfl rfl (K.move rfl) ?_
    have hm1 := mul_bd (a := 6000) (b := 6) w1 (show -6 ≤ q ∧ q ≤ 6 by omega) (by omega) (by omega)
    have hm2 := mul_bd (a := 6000) (b := 6) (show -6000 ≤ p ∧ p ≤ 6000 by omega) (show -6 ≤ ((((cycsN m.length (mf m) m.length)[i]).length : Nat) : Int) ∧ ((((cycsN m.length (mf m) m.length)[i]).length : Nat) : Int) ≤ 6 by omega) (by omega) (by omega)
    refine KT.step rfl rfl (K.mul rfl rfl (wrap_id (by omega))) ?_
    refine KT.step rfl rfl (K.move rfl) ?_
    refine KT.step rfl rfl (K.move rfl) ?_
    refine KT.step rfl rfl (K.len rfl (wayD_ints _) Try.underlying33) ?_
    rw [cI_len]
    refine KT.step rfl rfl (K.mul rfl rfl (wrap_id (by omega))) ?_
    refine KT.step rfl rfl (K.eql rfl rfl) ?_
    refine KT.nil ?_
    refine thenK_n ?_
    refine KC.cond rfl (fun hc37 => ?_) (fun hc37 => ?_)
    · skip
      replace hc37 := of_decide_eq_true hc37
      refine KC.region ?_
      refine KT.step rfl rfl (K.move rfl) ?_
      refine KT.step rfl rfl (K.move rfl) ?_
      refine KT.step rfl rfl (K.build1' (v := .d (wayD ((cycsN m.length (mf m) m.length)[i]))) rfl (SlD.of (wayD_ints ((cycsN m.length (mf m) m.length)[i]))).cells Try.underlying22 Try.one33) ?_
      refine KT.appK (k := 1) (vs := [.d (wayD ((cycsN m.length (mf m) m.length)[i]))]) rfl rfl rfl rfl (hy.pushed _) (List.getElem?_concat_length ..) rfl rfl (by rw [List.length_map]; omega) Try.underlying22 Try.size33 wbytes33 wcells33 (by omega) fun σ1 y1 ho1 k1 w1 => ?_
      rw [show wcells (crP m p q i) ++ [.d (wayD ((cycsN m.length (mf m) m.length)[i]))] = wcells ((crP m p q i) ++ [(cycsN m.length (mf m) m.length)[i]]) by simp] at ho1
      refine KT.step rfl rfl (K.assign rfl) ?_
      refine KT.nil ?_
      refine blockK_n ?_
      refine thenK_n ?_
      refine KC.region ?_
      refine KT.step rfl rfl (K.add rfl rfl (wrap_id (by omega))) ?_
      refine KT.step rfl rfl (K.move rfl) ?_
      refine KT.nil ?_
      refine thenK_n ?_
      refine ⟨(σ1, y1, i + 1), ⟨by simp only; omega, ?_, ?_⟩, by simp only; omega, rfl, by simp [Go.Vm.look, extK]⟩
      · simp only; rw [crP_succ hil, if_pos hc37]; exact ho1
      · simp only; rw [crP_succ hil, if_pos hc37]; intro h; simp at h
    · skip
      replace hc37 := of_decide_eq_false hc37
      refine KC.skip ?_
      refine blockK_n ?_
      refine thenK_n ?_
      refine KC.region ?_
      refine KT.step rfl rfl (K.add rfl rfl (wrap_id (by omega))) ?_
      refine KT.step rfl rfl (K.move rfl) ?_
      refine KT.nil ?_
      refine thenK_n ?_
      refine ⟨(σ0, y, i + 1), ⟨by simp only; omega, ?_, ?_⟩, by simp only; omega, rfl, by simp [Go.Vm.look, extK]⟩
      · simp only; rw [crP_succ hil, if_neg hc37, List.append_nil]; exact hy
      · simp only; rw [crP_succ hil, if_neg hc37, List.append_nil]; exact hyn
  · skip
    replace hc21 := of_decide_eq_false hc21
    refine KC.exit ?_
    refine thenK_x ?_
    refine thenK_x ?_
    refine blockK_e ?_
    refine thenK_n ?_
    refine KC.seq ?_
    refine KC.region ?_
    refine KT.step rfl rfl (K.move rfl) ?_
    refine KT.step rfl rfl (K.assign rfl) ?_
    refine KT.nil ?_
    refine thenK_n ?_
    refine KC.ret ?_
    rw [crP_all m p q (show i = (cycsN m.length (mf m) m.length).length by omega)] at hy hyn
    exact ⟨.inl rfl, _, rfl, wcells_fin (k := 3) hy hyn⟩
end Go.Proofs.Ythbnnffmhnjpjaa

