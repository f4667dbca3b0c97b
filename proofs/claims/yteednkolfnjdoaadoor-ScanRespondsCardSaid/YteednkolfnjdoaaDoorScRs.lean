import Derived.Test.YteednkolfnjdoaaDoorScRr
/-
  Controllers: the reference: responses, words.
-/
namespace Go.Proofs.YteednkolfnjdoaaDoor
open Go.Vm Go.Sc
theorem plainTryd_34 : plainFn Tryd.prog 34 = true := by kernel_rfl
theorem plainTryd_32 : plainFn Tryd.prog 32 = true := by kernel_rfl
theorem plainTryd_43 : plainFn Tryd.prog 43 = true := by kernel_rfl
set_option maxRecDepth 10000 in
theorem Word32 {d : DV} {l : List Int} (hd : Ints d l) (hl : l.length ≤ 9223372036854775807) (a most : Int) : DeepCall Tryd.prog 32 [d, DI a, DI most] (DB (wordB l most a)) := by
  refine deepCall_K 5 Tryd.func32 rfl (Nat.le_of_ble_eq_true rfl) fun M W0 => ?_
  refine KC.seq ?_
  refine KC.region ?_
  refine KT.step rfl rfl (K.assign rfl) ?_
  refine KT.nil ?_
  refine thenK_n ?_
  refine KC.seq ?_
  refine KC.seq ?_
  refine KC.region ?_
  refine KT.step rfl rfl (K.move rfl) ?_
  refine KT.step rfl rfl (K.len rfl hd Tryd.underlying38) ?_
  refine KT.step rfl rfl (K.move rfl) ?_
  refine KT.nil ?_
  refine thenK_n ?_
  refine KC.block ?_
  refine KC.loop (fun _ : Nat => _) (fun k => [(0, .d d), (1, .d (DI a)), (2, .d (DI most)), (9, .d d), (10, .d (DI (l.length : Nat))), (11, .d (DI (k : Nat)))]) (fun k => k ≤ l.length ∧ ∀ x ∈ l.take k, 0 ≤ x ∧ x ≤ a - 1) (fun k => l.length - k) 0 ⟨Nat.zero_le _, fun x hx => by simp at hx⟩ rfl (by simp [Go.Vm.look, extK, enterK]) ?_
  intro k hk
  obtain ⟨hk, hall⟩ := hk
  refine KC.seq ?_
  refine KC.region ?_
  refine KT.step rfl rfl (K.lss rfl rfl) ?_
  refine KT.nil ?_
  refine thenK_n ?_
  refine KC.seq ?_
  refine KC.cond rfl (fun hc12 => ?_) (fun hc12 => ?_)
  · skip
    replace hc12 := of_decide_eq_true hc12
    have hkl : k < l.length := by omega
    refine KC.skip ?_
    refine thenK_n ?_
    refine KC.seq ?_
    refine KC.block ?_
    refine KC.seq ?_
    refine KC.region ?_
    refine KT.idxI (m := k) rfl rfl rfl hd rfl (by omega) Tryd.underlying38 Tryd.size3 fun cs13 => ?_
    refine KT.step rfl rfl (K.load rfl Tryd.agg3) ?_
    refine KT.step rfl rfl (K.assign rfl) ?_
    refine KT.nil ?_
    refine thenK_n ?_
    refine KC.seq ?_
    refine KC.region ?_
    refine KT.step rfl rfl (K.move rfl) ?_
    refine KT.step rfl rfl (K.lss rfl rfl) ?_
    refine KT.step rfl rfl (K.move rfl) ?_
    refine KT.bcase (fun hb17 => ?_) (fun hb17 => ?_)
    · skip
      replace hb17 := of_decide_eq_true hb17
      refine KT.skip rfl rfl ?_
      refine KT.skip rfl rfl ?_
      refine KT.skip rfl rfl ?_
      refine KT.step rfl rfl (K.pick rfl (fun _ => rfl) (fun h => by cases h)) ?_
      refine KT.nil ?_
      refine thenK_n ?_
      refine KC.cond rfl (fun hc21 => ?_) (fun hc21 => ?_)
      · skip
        refine KC.seq ?_
        refine KC.region ?_
        refine KT.step rfl rfl (K.assign rfl) ?_
        refine KT.nil ?_
        refine thenK_n ?_
        refine KC.ret ?_
        refine blockK_r ?_
        refine thenK_r ?_
        refine thenK_r ?_
        refine blockK_r ?_
        refine thenK_r ?_
        refine ⟨.inl rfl, _, rfl, fin_b (Bool.eq_false_iff.2 fun h => ?_)⟩
        have h2 := (wordB_iff.1 h).2 _ (List.getElem_mem hkl)
        omega
      · cases hc21
    · skip
      replace hb17 := of_decide_eq_false hb17
      refine KT.step rfl rfl (K.move rfl) ?_
      refine KT.step rfl rfl (K.move rfl) ?_
      refine KT.step rfl rfl (K.geq rfl rfl) ?_
      refine KT.step rfl rfl (K.pick rfl (fun h => by cases h) (fun _ => rfl)) ?_
      refine KT.nil ?_
      refine thenK_n ?_
      refine KC.cond rfl (fun hc21 => ?_) (fun hc21 => ?_)
      · skip
        replace hc21 := of_decide_eq_true hc21
        refine KC.seq ?_
        refine KC.region ?_
        refine KT.step rfl rfl (K.assign rfl) ?_
        refine KT.nil ?_
        refine thenK_n ?_
        refine KC.ret ?_
        refine blockK_r ?_
        refine thenK_r ?_
        refine thenK_r ?_
        refine blockK_r ?_
        refine thenK_r ?_
        refine ⟨.inl rfl, _, rfl, fin_b (Bool.eq_false_iff.2 fun h => ?_)⟩
        have h2 := (wordB_iff.1 h).2 _ (List.getElem_mem hkl)
        omega
      · skip
        replace hc21 := of_decide_eq_false hc21
        refine KC.skip ?_
        refine blockK_n ?_
        refine thenK_n ?_
        refine KC.region ?_
        refine KT.step rfl rfl (K.add rfl rfl (wrap_id (by omega))) ?_
        refine KT.step rfl rfl (K.move rfl) ?_
        refine KT.nil ?_
        refine thenK_n ?_
        refine ⟨k + 1, ⟨by omega, fun x hx => ?_⟩, by omega, rfl, by simp [Go.Vm.look, extK]⟩
        rw [List.take_succ_eq_append_getElem hkl, List.mem_append, List.mem_singleton] at hx
        rcases hx with hx | rfl
        · exact hall x hx
        · omega
  · skip
    replace hc12 := of_decide_eq_false hc12
    refine KC.exit ?_
    refine thenK_x ?_
    refine thenK_x ?_
    refine blockK_e ?_
    refine thenK_n ?_
    refine KC.seq ?_
    refine KC.region ?_
    refine KT.step rfl rfl (K.move rfl) ?_
    refine KT.step rfl rfl (K.len rfl hd Tryd.underlying38) ?_
    refine KT.step rfl rfl (K.move rfl) ?_
    refine KT.step rfl rfl (K.leq rfl rfl) ?_
    refine KT.step rfl rfl (K.assign rfl) ?_
    refine KT.nil ?_
    refine thenK_n ?_
    refine KC.ret ?_
    rw [List.take_of_length_le (by omega)] at hall
    refine ⟨.inl rfl, _, rfl, fin_b ?_⟩
    exact Bool.eq_iff_iff.2 ⟨fun h => decide_eq_true (wordB_iff.1 h).1, fun h => wordB_iff.2 ⟨of_decide_eq_true h, hall⟩⟩
def ownV (l : List Int) : DV := if l = [] then Dnil else rowV l
theorem ownV_ints {l : List Int} : Ints (ownV l) l := by
  unfold ownV
  by_cases h : l = []
  · rw [if_pos h, h]; exact .nil
  · rw [if_neg h]; exact rowV_ints
set_option maxHeartbeats 1600000 in
set_option maxRecDepth 10000 in
theorem rRespond43 {m : Nat} {nd od : DV} {nx ou : List (List Int)} (hn : Mat nd nx) (ho : Mat od ou) (hv : VM m nx ou) {s : Nat} (hs : s < nx.length) {d : DV} {w : List Nat} (hd : Ints d (wZ w)) (hw : OkW m w) (hl : w.length ≤ 1000000) :
    DeepCall Tryd.prog 43 [.agg [DI (m : Nat), nd, od], DI (s : Nat), d] (.tup [ownV (respL (nxF nx) (ouF ou) s w), DI (runW (nxF nx) s w : Nat)]) := by
  have hz := wZ_len w
  have hol := hv.oul
  have hcl : ∀ s i, s < nx.length → i < m → nxF nx s i < nx.length := fun s i a b => (hv.next a (by omega)).1
  refine deepCall_K 5 Tryd.func43 rfl (Nat.le_of_ble_eq_true rfl) fun M W0 => ?_
  refine KC.seq ?_
  refine KC.region ?_
  refine KT.step rfl rfl (K.box rfl) ?_
  refine KT.step rfl rfl (K.assign rfl) ?_
  refine KT.step rfl rfl (K.assign rfl) ?_
  refine KT.nil ?_
  refine thenK_n ?_
  refine KC.seq ?_
  refine KC.region ?_
  refine KT.step rfl rfl (K.assign rfl) ?_
  refine KT.nil ?_
  refine thenK_n ?_
  refine KC.seq ?_
  refine KC.seq ?_
  refine KC.region ?_
  refine KT.step rfl rfl (K.move rfl) ?_
  refine KT.step rfl rfl (K.len rfl hd Tryd.underlying38) ?_
  refine KT.step rfl rfl (K.move rfl) ?_
  refine KT.nil ?_
  refine thenK_n ?_
  refine KC.block ?_
  refine KC.loop (fun p : List VObj × XV × Nat => p.1) (fun p => [(3, .optr 0 0), (1, .d (DI (runW (nxF nx) s (w.take p.2.2) : Nat))), (8, p.2.1), (11, .d d), (12, .d (DI ((wZ w).length : Nat))), (13, .d (DI (p.2.2 : Nat)))]) (fun p => p.2.2 ≤ w.length ∧ p.1[0]? = some ⟨[.d (DI (m : Nat)), .d nd, .d od], 0⟩ ∧ OwnK 1 p.1 p.2.1 ((((List.range p.2.2).map (fun k => ouF ou (runW (nxF nx) s (w.take k)) (w.getD k 0))).map DI).map .d) ∧ (∀ j, idX p.2.1 = some j → j ≠ 0) ∧ (p.2.2 = 0 → p.2.1 = .d Dnil)) (fun p => w.length - p.2.2) (_, .d Dnil, 0) ⟨Nat.zero_le _, rfl, .nil, fun j h => absurd h (by simp [idX]), fun _ => rfl⟩ rfl (by simp [Go.Vm.look, extK, enterK, runW]) ?_
  intro p hp'
  obtain ⟨σ0, x8, k⟩ := p
  obtain ⟨hk, f0, ho8, hx0, hx8⟩ := hp'
  simp only at hk f0 ho8 hx0 hx8 ⊢
  refine KC.seq ?_
  refine KC.region ?_
  refine KT.step rfl rfl (K.lss rfl rfl) ?_
  refine KT.nil ?_
  refine thenK_n ?_
  refine KC.seq ?_
  refine KC.cond rfl (fun hc14 => ?_) (fun hc14 => ?_)
  · skip
    replace hc14 := of_decide_eq_true hc14
    have hkl : k < w.length := by omega
    have hwk : w.getD k 0 < m := by rw [show w.getD k 0 = w[k] by simp [hkl]]; exact hw _ (List.getElem_mem hkl)
    have hOk : runW (nxF nx) s (w.take k) < nx.length := run_ok (Ok := (· < nx.length)) hcl (w.take k) s hs fun j hj => hw j (List.mem_of_mem_take hj)
    have eI : (wZ w)[k]'(by omega) = ((w.getD k 0 : Nat) : Int) := by simp [wZ, hkl]
    obtain ⟨n1, n2, n3⟩ := hv.next hOk (show ((w.getD k 0 : Nat) : Int) < m by omega)
    obtain ⟨p1, p2, p3⟩ := hv.out hOk (show ((w.getD k 0 : Nat) : Int) < m by omega)
    have y1 : nx.getD (runW (nxF nx) s (w.take k)) [] = nx[runW (nxF nx) s (w.take k)] := by simp [hOk]
    have y2 : ou.getD (runW (nxF nx) s (w.take k)) [] = ou[runW (nxF nx) s (w.take k)]'(by omega) := by simp [hol, hOk]
    rw [y1] at n3
    rw [y2] at p3
    have eN : (nx[runW (nxF nx) s (w.take k)])[w.getD k 0]'(by omega) = (nxF nx (runW (nxF nx) s (w.take k)) (w.getD k 0) : Int) := by rw [get_D, ← y1]; exact n2
    have eO : (ou[runW (nxF nx) s (w.take k)]'(by omega))[w.getD k 0]'(by omega) = ouF ou (runW (nxF nx) s (w.take k)) (w.getD k 0) := by rw [get_D, ← y2]; rfl
    refine KC.skip ?_
    refine thenK_n ?_
    refine KC.seq ?_
    refine KC.block ?_
    refine KC.seq ?_
    refine KC.region ?_
    refine KT.idxI (m := k) rfl rfl rfl hd rfl (by omega) Tryd.underlying38 Tryd.size3 fun cs15 => ?_
    refine KT.step rfl rfl (K.load rfl Tryd.agg3) ?_
    refine KT.step rfl rfl (K.assign rfl) ?_
    refine KT.nil ?_
    refine thenK_n ?_
    refine KC.seq ?_
    refine KC.region ?_
    rw [eI]
    refine KT.step rfl rfl (K.move rfl) ?_
    refine KT.step rfl rfl (K.fieldAddrO rfl Tryd.fld63_2 Tryd.size56) ?_
    refine KT.step rfl rfl (K.loadO rfl f0 (by simp) rfl Tryd.agg56) ?_
    refine KT.step rfl rfl (K.move rfl) ?_
    refine KT.idx (m := runW (nxF nx) s (w.take k)) rfl rfl rfl ho rfl (by omega) Tryd.underlying56 Tryd.size38 fun c21 cs21 hq21 => ?_
    refine KT.step rfl rfl (K.load rfl Tryd.agg38) ?_
    refine KT.step rfl rfl (K.move rfl) ?_
    refine KT.idxI (m := w.getD k 0) rfl rfl rfl hq21 rfl (by omega) Tryd.underlying38 Tryd.size3 fun cs24 => ?_
    rw [eO]
    refine KT.step rfl rfl (K.load rfl Tryd.agg3) ?_
    refine KT.step rfl rfl (K.build1' (v := .d (DI (ouF ou (runW (nxF nx) s (w.take k)) (w.getD k 0)))) rfl rfl Tryd.underlying38 Tryd.one3) ?_
    refine KT.appK (k := 1) (vs := [.d (DI (ouF ou (runW (nxF nx) s (w.take k)) (w.getD k 0)))]) rfl rfl rfl rfl (ho8.pushed _) (List.getElem?_concat_length ..) rfl rfl (by simp; omega) Tryd.underlying38 Tryd.size3 (of_decide_eq_true (by kernel_rfl)) (by kernel_rfl) (by decide) fun σ2 x2 o2 k2 w2 => ?_
    obtain ⟨j2, w2a, w2b⟩ := w2
    rw [List.length_append] at w2b k2
    have hl0 := obj_lt f0
    have g0 := (k2 0 (fun h => hx0 0 h rfl) (by omega)).trans (obj_left f0)
    refine KT.step rfl rfl (K.assign rfl) ?_
    refine KT.nil ?_
    refine thenK_n ?_
    refine KC.region ?_
    refine KT.step rfl rfl (K.fieldAddrO rfl Tryd.fld63_1 Tryd.size56) ?_
    refine KT.step rfl rfl (K.loadO rfl g0 (by simp) rfl Tryd.agg56) ?_
    refine KT.step rfl rfl (K.move rfl) ?_
    refine KT.idx (m := runW (nxF nx) s (w.take k)) rfl rfl rfl hn rfl (by omega) Tryd.underlying56 Tryd.size38 fun c31 cs31 hq31 => ?_
    refine KT.step rfl rfl (K.load rfl Tryd.agg38) ?_
    refine KT.step rfl rfl (K.move rfl) ?_
    refine KT.idxI (m := w.getD k 0) rfl rfl rfl hq31 rfl (by omega) Tryd.underlying38 Tryd.size3 fun cs34 => ?_
    rw [eN]
    refine KT.step rfl rfl (K.load rfl Tryd.agg3) ?_
    refine KT.step rfl rfl (K.assign rfl) ?_
    refine KT.nil ?_
    refine blockK_n ?_
    refine thenK_n ?_
    refine KC.region ?_
    refine KT.step rfl rfl (K.add rfl rfl (wrap_id (by omega))) ?_
    refine KT.step rfl rfl (K.move rfl) ?_
    refine KT.nil ?_
    refine thenK_n ?_
    have er : runW (nxF nx) s (w.take (k + 1)) = nxF nx (runW (nxF nx) s (w.take k)) (w.getD k 0) := by
      rw [List.take_succ_eq_append_getElem hkl, runW_snoc]; simp [hkl]
    refine ⟨(σ2, x2, k + 1), ⟨by simp only; omega, g0, ?_, fun j hj => ?_, fun h => by simp at h⟩, by simp only; omega, rfl, by simp [Go.Vm.look, extK, er]⟩
    · simp only; rw [List.range_succ, List.map_append, List.map_append, List.map_append]; exact o2
    · simp only at hj; rw [w2a] at hj; cases hj; omega
  · skip
    replace hc14 := of_decide_eq_false hc14
    refine KC.exit ?_
    refine thenK_x ?_
    refine thenK_x ?_
    refine blockK_e ?_
    refine thenK_n ?_
    refine KC.seq ?_
    refine KC.region ?_
    refine KT.step rfl rfl (K.move rfl) ?_
    refine KT.step rfl rfl (K.move rfl) ?_
    refine KT.step rfl rfl (K.assign rfl) ?_
    refine KT.step rfl rfl (K.assign rfl) ?_
    refine KT.nil ?_
    refine thenK_n ?_
    refine KC.ret ?_
    obtain rfl : k = w.length := by omega
    rw [show (List.range w.length).map (fun k => ouF ou (runW (nxF nx) s (w.take k)) (w.getD k 0)) = respL (nxF nx) (ouF ou) s w from rfl] at ho8
    refine ⟨.inl rfl, _, rfl, ?_⟩
    rw [List.take_of_length_le (Nat.le_refl _)]
    have hrl := respL_len (nxF nx) (ouF ou) s w
    by_cases h0 : w.length = 0
    · obtain rfl := hx8 h0
      rw [show ownV (respL (nxF nx) (ouF ou) s w) = Dnil by unfold ownV; rw [if_pos (List.length_eq_zero_iff.1 (by omega))]]
      rfl
    · obtain ⟨id, rfl, h8⟩ := ho8.is (n := w.length) (by simp; omega) (by decide) (by omega)
      have d8 := deepen_all (k := 2) h8 (n := w.length) (by simp; omega)
      rw [show ownV (respL (nxF nx) (ouF ou) s w) = .sl ((respL (nxF nx) (ouF ou) s w).map DI) w.length none by unfold ownV rowV; rw [if_neg (fun h => h0 (by rw [← hrl, h]; rfl)), hrl]]
      show (([_, _] : List XV).mapM (deepen (freezeAll σ0) 4)).map DV.tup = _
      rw [List.mapM_cons, d8]
      rfl
end Go.Proofs.YteednkolfnjdoaaDoor

