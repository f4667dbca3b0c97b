import Derived.Test.YteednkolfnjdoaaDoorScF
/-
  Controllers: responses.
-/
namespace Go.Proofs.YteednkolfnjdoaaDoor
open Go.Vm Go.Sc
theorem plainTryd_70 : plainFn Tryd.prog 70 = true := by kernel_rfl
theorem plainTryd_60 : plainFn Tryd.prog 60 = true := by kernel_rfl
theorem plainTryd_38 : plainFn Tryd.prog 38 = true := by kernel_rfl
set_option maxRecDepth 10000 in
theorem step70 {a : Int} {nd od : DV} {nx ou : List (List Int)} (hn : Mat nd nx) (ho : Mat od ou) (hv : VM a nx ou) {s i : Nat} (hs : s < nx.length) (hi : (i : Int) < a) : DeepCall Tryd.prog 70 [.agg [DI a, nd, od], DI (s : Nat), DI (i : Nat)] (.tup [DI (nxF nx s i : Nat), DI (ouF ou s i)]) := by
  obtain ⟨g1, g2⟩ := nx_get hv hs hi
  obtain ⟨g3, g4, g5⟩ := ou_get hv hs hi
  refine deepCall_K 5 Tryd.func70 rfl (Nat.le_of_ble_eq_true rfl) fun M W0 => ?_
  refine KC.seq ?_
  refine KC.region ?_
  refine KT.step rfl rfl (K.box rfl) ?_
  refine KT.step rfl rfl (K.assign rfl) ?_
  refine KT.step rfl rfl (K.assign rfl) ?_
  refine KT.nil ?_
  refine thenK_n ?_
  refine KC.seq ?_
  refine KC.draw Tryd.mixed ?_
  refine KT.step rfl rfl (K.fieldAddrO rfl Tryd.fld58_1 Tryd.size56) ?_
  refine KT.step rfl rfl (K.loadO rfl rfl (by simp) rfl Tryd.agg56) ?_
  refine KT.step rfl rfl (K.move rfl) ?_
  refine KT.idx (m := s) rfl rfl rfl hn rfl (by omega) Tryd.underlying56 Tryd.size38 fun c11 cs11 hq11 => ?_
  refine KT.step rfl rfl (K.load rfl Tryd.agg38) ?_
  refine KT.step rfl rfl (K.move rfl) ?_
  refine KT.idxI (m := i) rfl rfl rfl hq11 rfl (by omega) Tryd.underlying38 Tryd.size3 fun cs14 => ?_
  refine KT.step rfl rfl (K.load rfl Tryd.agg3) ?_
  refine KT.step rfl rfl (K.fieldAddrO rfl Tryd.fld58_2 Tryd.size56) ?_
  refine KT.step rfl rfl (K.loadO rfl rfl (by simp) rfl Tryd.agg56) ?_
  refine KT.step rfl rfl (K.move rfl) ?_
  refine KT.idx (m := s) rfl rfl rfl ho rfl (by omega) Tryd.underlying56 Tryd.size38 fun c19 cs19 hq19 => ?_
  refine KT.step rfl rfl (K.load rfl Tryd.agg38) ?_
  refine KT.step rfl rfl (K.move rfl) ?_
  refine KT.idxI (m := i) rfl rfl rfl hq19 rfl (by omega) Tryd.underlying38 Tryd.size3 fun cs22 => ?_
  refine KT.step rfl rfl (K.load rfl Tryd.agg3) ?_
  refine KT.step rfl rfl (K.assign rfl) ?_
  refine KT.step rfl rfl (K.assign rfl) ?_
  refine KT.nil ?_
  refine ⟨by kernel_rfl, ?_⟩
  refine thenK_n ?_
  refine KC.ret ?_
  exact ⟨.inl rfl, _, rfl, by rw [← g5, ← g2]; rfl⟩
set_option maxRecDepth 10000 in
theorem response60 {g : FuncId} {fs caps : List DV} (hp : plainFn Tryd.prog g = true) {nx : Nat → Nat → Nat} {ou : Nat → Nat → Int} {m : Nat} {Ok : Nat → Prop} (hcl : ∀ s i, Ok s → i < m → Ok (nx s i))
    (hcall : ∀ s i, Ok s → i < m → DeepCall Tryd.prog g (fs ++ [DI (s : Nat), DI (i : Nat)] ++ caps) (.tup [DI (nx s i : Nat), DI (ou s i)])) {s : Nat} (hs : Ok s) {d : DV} {w : List Nat} (hd : Ints d (wZ w)) (hw : OkW m w) (hl : w.length ≤ 1000000) :
    DeepCall Tryd.prog 60 [DI (s : Nat), d, .fn (.func g) fs caps] (rspV (respL nx ou s w)) := by
  have hz := wZ_len w
  refine deepCall_K 5 Tryd.func60 rfl (Nat.le_of_ble_eq_true rfl) fun M W0 => ?_
  refine KC.seq ?_
  refine KC.region ?_
  refine KT.step rfl rfl (K.assign rfl) ?_
  refine KT.nil ?_
  refine thenK_n ?_
  refine KC.seq ?_
  refine KC.region ?_
  refine KT.step rfl rfl (K.move rfl) ?_
  refine KT.step rfl rfl (K.len rfl hd Tryd.underlying38) ?_
  refine KT.step rfl rfl (K.make (m := (wZ w).length) (c := (wZ w).length) rfl rfl (Nat.le_refl _) (by omega) Tryd.underlying38 Tryd.one3) ?_
  refine KT.step rfl rfl (K.assign rfl) ?_
  refine KT.nil ?_
  refine thenK_n ?_
  refine KC.seq ?_
  refine KC.seq ?_
  refine KC.region ?_
  refine KT.step rfl rfl (K.move rfl) ?_
  refine KT.step rfl rfl (K.len rfl hd Tryd.underlying38) ?_
  refine KT.step rfl rfl (K.move rfl) ?_
  refine KT.nil ?_
  refine thenK_n ?_
  refine KC.block ?_
  refine KC.loop (fun p : List VObj × Nat => p.1) (fun p => [(0, .d (DI (runW nx s (w.take p.2) : Nat))), (2, .d (.fn (.func g) fs caps)), (7, .osl 0 0 (wZ w).length 1 (wZ w).length true), (13, .d d), (14, .d (DI ((wZ w).length : Nat))), (15, .d (DI (p.2 : Nat)))]) (fun p => p.2 ≤ (wZ w).length ∧ p.1[0]? = some ⟨updL (wZ w).length (fun k => XV.d (DI (ou (runW nx s (w.take k)) (w.getD k 0)))) (.d (DI 0)) p.2, 0⟩) (fun p => (wZ w).length - p.2) (_, 0) ⟨Nat.zero_le _, by rw [← updL_zero]; rfl⟩ rfl (by simp [Go.Vm.look, extK, enterK, runW]) ?_
  intro p hp'
  obtain ⟨σ0, i⟩ := p
  obtain ⟨hi, h0⟩ := hp'
  simp only at hi h0 ⊢
  refine KC.seq ?_
  refine KC.region ?_
  refine KT.step rfl rfl (K.lss rfl rfl) ?_
  refine KT.nil ?_
  refine thenK_n ?_
  refine KC.seq ?_
  refine KC.cond rfl (fun hc16 => ?_) (fun hc16 => ?_)
  · skip
    replace hc16 := of_decide_eq_true hc16
    refine KC.skip ?_
    refine thenK_n ?_
    refine KC.seq ?_
    refine KC.block ?_
    refine KC.seq ?_
    refine KC.region ?_
    refine KT.step rfl rfl (K.move rfl) ?_
    refine KT.idxI (m := i) rfl rfl rfl hd rfl (by omega) Tryd.underlying38 Tryd.size3 fun cs18 => ?_
    have hiw : i < w.length := by omega
    have eI : (wZ w)[i] = ((w.getD i 0 : Nat) : Int) := by simp [wZ, hiw]
    have hwi : w.getD i 0 < m := by rw [show w.getD i 0 = w[i] by simp [hiw]]; exact hw _ (List.getElem_mem hiw)
    have hOk := run_ok hcl (w.take i) s hs fun j hj => hw j (List.mem_of_mem_take hj)
    rw [eI]
    refine KT.step rfl rfl (K.load rfl Tryd.agg3) ?_
    refine KT.step rfl rfl (K.assign rfl) ?_
    refine KT.step rfl rfl (K.assign rfl) ?_
    refine KT.nil ?_
    refine thenK_n ?_
    refine KC.region ?_
    refine KT.step rfl rfl (K.move rfl) ?_
    refine KT.step rfl rfl (K.move rfl) ?_
    refine KT.step rfl rfl (K.move rfl) ?_
    refine KT.step rfl rfl (K.move rfl) ?_
    refine KT.step rfl rfl (K.move rfl) ?_
    refine KT.step rfl rfl (K.callFC (fs := fs) (ds := [DI (runW nx s (w.take i) : Nat), DI (w.getD i 0 : Nat)]) (cs := caps) rfl rfl rfl hp (hcall _ _ hOk hwi)) ?_
    refine KT.step rfl rfl (K.move rfl) ?_
    refine KT.step rfl rfl (K.extract rfl rfl) ?_
    refine KT.step rfl rfl (K.extract rfl rfl) ?_
    refine KT.step rfl rfl (K.assign rfl) ?_
    refine KT.step rfl rfl (K.idxO (m := i) rfl rfl (by omega) Tryd.underlying38 Tryd.size3) ?_
    refine KT.storeG rfl rfl rfl rfl h0 (by rw [updL_len]; omega) rfl rfl Tryd.size3 fun σ1 l1 u1 v1 => ?_
    rw [Nat.zero_add, updL_set (f := (fun k => XV.d (DI (ou (runW nx s (w.take k)) (w.getD k 0))))) (by omega)] at u1
    refine KT.nil ?_
    refine blockK_n ?_
    refine thenK_n ?_
    refine KC.region ?_
    refine KT.step rfl rfl (K.add rfl rfl (wrap_id (by omega))) ?_
    refine KT.step rfl rfl (K.move rfl) ?_
    refine KT.nil ?_
    refine thenK_n ?_
    refine ⟨(σ1, i + 1), ⟨by simp only; omega, u1⟩, by simp only; omega, rfl, ?_⟩
    have er : runW nx s (w.take (i + 1)) = nx (runW nx s (w.take i)) (w.getD i 0) := by
      rw [List.take_succ_eq_append_getElem hiw, runW_snoc]; simp [hiw]
    simp [Go.Vm.look, extK, er]
  · skip
    replace hc16 := of_decide_eq_false hc16
    refine KC.exit ?_
    refine thenK_x ?_
    refine thenK_x ?_
    refine blockK_e ?_
    refine thenK_n ?_
    refine KC.seq ?_
    refine KC.region ?_
    refine KT.step rfl rfl (K.move rfl) ?_
    refine KT.step rfl rfl (K.assign rfl) ?_
    refine KT.nil ?_
    refine thenK_n ?_
    refine KC.ret ?_
    rw [updL_full (by omega)] at h0
    refine ⟨.inl rfl, _, rfl, ?_⟩
    have e : (List.range (wZ w).length).map (fun k => XV.d (DI (ou (runW nx s (w.take k)) (w.getD k 0)))) = ((respL nx ou s w).map DI).map XV.d := by simp [respL, hz]
    rw [e] at h0
    show deepen _ 5 _ = _
    rw [deepen_osl (ob := ⟨((respL nx ou s w).map DI).map XV.d, 1⟩) (by simp [freezeAll, h0]) rfl (by simp [respL_len, hz]), List.drop_zero, Nat.mul_one, List.take_of_length_le (by simp [respL_len, hz]), mapM_deep]
    simp [rspV, respL_len, hz]

theorem get_D {l : List Int} {i : Nat} (h : i < l.length) : l[i] = l.getD i 0 := by simp [h]
/-- What Respond answers. -/
noncomputable def rspR (a : Int) (nx ou : List (List Int)) (l : List Int) : List Int × Int := @ite _ (VM a nx ou ∧ wordB l 1000 a = true) (Classical.propDecidable _) (respL (nxF nx) (ouF ou) 0 (l.map Int.toNat), 0) ([], 2)
noncomputable def rspD (a : Int) (nx ou : List (List Int)) (l : List Int) : DV := if (rspR a nx ou l).2 = 0 then rspV (rspR a nx ou l).1 else Dnil
theorem rspR_no {a : Int} {nx ou : List (List Int)} {l : List Int} (h : ¬ (VM a nx ou ∧ wordB l 1000 a = true)) : rspR a nx ou l = ([], 2) := if_neg h
theorem rspR_yes {a : Int} {nx ou : List (List Int)} {l : List Int} (h : VM a nx ou) (h2 : wordB l 1000 a = true) : rspR a nx ou l = (respL (nxF nx) (ouF ou) 0 (l.map Int.toNat), 0) := if_pos ⟨h, h2⟩
theorem rspD_ints {a : Int} {nx ou : List (List Int)} {l : List Int} : Ints (rspD a nx ou l) (rspR a nx ou l).1 := by
  unfold rspD
  by_cases h : VM a nx ou ∧ wordB l 1000 a = true
  · rw [rspR_yes h.1 h.2]; exact rspV_ints
  · rw [rspR_no h]; exact .nil
theorem word_nat {l : List Int} {m a : Int} (h : wordB l m a = true) : wZ (l.map Int.toNat) = l ∧ ∀ n : Nat, a = n → OkW n (l.map Int.toNat) := by
  obtain ⟨_, h2⟩ := wordB_iff.1 h
  refine ⟨?_, fun n hn i hi => ?_⟩
  · unfold wZ
    rw [List.map_map]
    conv => rhs; rw [← List.map_id l]
    exact List.map_congr_left fun x hx => by have := h2 x hx; simp; omega
  · obtain ⟨x, hx, rfl⟩ := List.mem_map.1 hi
    have := h2 x hx; omega
set_option maxRecDepth 10000 in
theorem Respond38 {a : Int} {nd od : DV} {nx ou : List (List Int)} (hn : Mat nd nx) (ho : Mat od ou) (hnl : nx.length ≤ 9223372036854775807) (hol : ou.length ≤ 9223372036854775807) (hnr : ∀ r ∈ nx, r.length ≤ 9223372036854775807) (hor : ∀ r ∈ ou, r.length ≤ 9223372036854775807) {d : DV} {l : List Int} (hd : Ints d l) (hl : l.length ≤ 9223372036854775807) : DeepCall Tryd.prog 38 [.agg [DI a, nd, od], d] (.tup [rspD a nx ou l, DI (rspR a nx ou l).2]) := by
  refine deepCall_K 5 Tryd.func38 rfl (Nat.le_of_ble_eq_true rfl) fun M W0 => ?_
  refine KC.seq ?_
  refine KC.region ?_
  refine KT.step rfl rfl (K.box rfl) ?_
  refine KT.step rfl rfl (K.assign rfl) ?_
  refine KT.step rfl rfl (K.assign rfl) ?_
  refine KT.nil ?_
  refine thenK_n ?_
  refine KC.seq ?_
  refine KC.seq ?_
  refine KC.region ?_
  refine KT.step rfl rfl (K.loadOA ([DI a, nd, od]) rfl rfl (by decide) Tryd.agg58 Tryd.size58 rfl) ?_
  refine KT.step rfl rfl (K.call1 rfl plainTryd_69 (valid69 hn ho hnl hol hnr hor)) ?_
  refine KT.step rfl rfl (K.not rfl) ?_
  refine KT.step rfl rfl (K.move rfl) ?_
  refine KT.bcase (fun hb9 => ?_) (fun hb9 => ?_)
  · skip
    refine KT.skip rfl rfl ?_
    refine KT.skip rfl rfl ?_
    refine KT.skip rfl rfl ?_
    refine KT.skip rfl rfl ?_
    refine KT.skip rfl rfl ?_
    refine KT.step rfl rfl (K.pick rfl (fun _ => rfl) (fun h => by cases h)) ?_
    refine KT.nil ?_
    refine thenK_n ?_
    refine KC.cond rfl (fun hc15 => ?_) (fun hc15 => ?_)
    · skip
      refine KC.seq ?_
      refine KC.region ?_
      refine KT.step rfl rfl (K.assign rfl) ?_
      refine KT.step rfl rfl (K.assign rfl) ?_
      refine KT.nil ?_
      refine thenK_n ?_
      refine KC.ret ?_
      refine thenK_r ?_
      have hno : ¬ (VM a nx ou ∧ wordB l 1000 a = true) := fun h => by rw [vmB_iff.2 h.1] at hb9; cases hb9
      exact ⟨.inl rfl, _, rfl, by unfold rspD; rw [rspR_no hno]; rfl⟩
    · cases hc15
  · skip
    have hv : VM a nx ou := vmB_iff.1 (by simpa using hb9)
    refine KT.step rfl rfl (K.move rfl) ?_
    refine KT.step rfl rfl (K.fieldAddrO rfl Tryd.fld58_0 Tryd.size3) ?_
    refine KT.step rfl rfl (K.loadO rfl rfl (by simp) rfl Tryd.agg3) ?_
    refine KT.step rfl rfl (K.call3 rfl rfl rfl plainTryd_57 (isWord57 hd hl (by have := hv.a1; omega) (by have := hv.a8; omega))) ?_
    refine KT.step rfl rfl (K.not rfl) ?_
    refine KT.step rfl rfl (K.pick rfl (fun h => by cases h) (fun _ => rfl)) ?_
    refine KT.nil ?_
    refine thenK_n ?_
    refine KC.cond rfl (fun hc15 => ?_) (fun hc15 => ?_)
    · skip
      refine KC.seq ?_
      refine KC.region ?_
      refine KT.step rfl rfl (K.assign rfl) ?_
      refine KT.step rfl rfl (K.assign rfl) ?_
      refine KT.nil ?_
      refine thenK_n ?_
      refine KC.ret ?_
      refine thenK_r ?_
      have hno : ¬ (VM a nx ou ∧ wordB l 1000 a = true) := fun h => by rw [h.2] at hc15; cases hc15
      exact ⟨.inl rfl, _, rfl, by unfold rspD; rw [rspR_no hno]; rfl⟩
    · skip
      have hw : wordB l 1000 a = true := by simpa using hc15
      refine KC.skip ?_
      refine thenK_n ?_
      refine KC.seq ?_
      refine KC.region ?_
      refine KT.step rfl rfl (K.move rfl) ?_
      refine KT.step rfl rfl (K.loadOA ([DI a, nd, od]) rfl rfl (by decide) Tryd.agg58 Tryd.size58 rfl) ?_
      refine KT.step rfl rfl (K.makeFF (m := 0) rfl rfl rfl rfl) ?_
      refine KT.step rfl rfl (K.callZ (ds := [DI (0 : Nat), d, .fn (.func 70) [.agg [DI a, nd, od]] []]) [] 5 rfl plainTryd_60 rfl (response60 plainTryd_70 (nx := nxF nx) (ou := ouF ou) (m := a.toNat) (Ok := fun s => s < nx.length) (fun s i hs hi => (hv.next hs (by omega)).1) (fun s i hs hi => step70 hn ho hv hs (by omega)) (by have := hv.n1; omega) (w := l.map Int.toNat) (by rw [(word_nat hw).1]; exact hd) ((word_nat hw).2 _ (by have := hv.a1; omega)) (by have := (wordB_iff.1 hw).1; rw [List.length_map]; omega))) ?_
      refine KT.step rfl rfl (K.assign rfl) ?_
      refine KT.step rfl rfl (K.assign rfl) ?_
      refine KT.nil ?_
      refine thenK_n ?_
      refine KC.ret ?_
      exact ⟨.inl rfl, _, rfl, by unfold rspD; rw [rspR_yes hv hw]; rfl⟩

end Go.Proofs.YteednkolfnjdoaaDoor

