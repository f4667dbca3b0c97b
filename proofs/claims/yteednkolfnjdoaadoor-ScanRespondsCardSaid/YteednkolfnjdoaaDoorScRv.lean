import Derived.Test.YteednkolfnjdoaaDoorScRw
/-
  Controllers: the reference: the minimal machine, its walk.
-/
namespace Go.Proofs.YteednkolfnjdoaaDoor
open Go.Vm Go.Sc
set_option maxHeartbeats 6000000 in
set_option maxRecDepth 10000 in
theorem rMinimize42 {m : Nat} {nd od : DV} {nx ou : List (List Int)} (hn : Mat nd nx) (ho : Mat od ou) (hv : VM m nx ou) : DeepCall Tryd.prog 42 [.agg [DI (m : Nat), nd, od]] (.agg [DI (m : Nat), matV (minN m nx.length (nxF nx) (ouF ou)), outR m nx ou od]) := by
  have hm8 : m ≤ 8 := by have := hv.a8; omega
  have n16 := hv.n16
  have n1 := hv.n1
  obtain ⟨hSl, hS0, hScl, hSre⟩ := stL_ok hv
  have hSz := wZ_len (stL m nx)
  have hSL := stL_len hv
  have cR := reached73 (od := od) hn (vmV1 hv)
  rw [show (bfs (nxF nx) m nx.length 0 [(0, [])]).map Prod.fst = stL m nx from rfl] at cR
  have cP := fun (s t : Nat) (hs : s < nx.length) (ht : t < nx.length) => parting74 hn ho (vmV2 hv) hs ht
  refine deepCall_K 9 Tryd.func42 rfl (Nat.le_of_ble_eq_true rfl) fun M W0 => ?_
  refine KC.seq ?_
  refine KC.region ?_
  refine KT.step rfl rfl (K.box rfl) ?_
  refine KT.step rfl rfl (K.alloc Tryd.zero63) ?_
  refine KT.nil ?_
  refine thenK_n ?_
  refine KC.seq ?_
  refine KC.region ?_
  refine KT.step rfl rfl (K.loadOA [DI (m : Nat), nd, od] rfl rfl (by decide) Tryd.agg63 Tryd.size63 rfl) ?_
  refine KT.step rfl rfl (K.call1 rfl plainTryd_73 (cR)) ?_
  refine KT.step rfl rfl (K.move rfl) ?_
  refine KT.step rfl rfl (K.extract rfl rfl) ?_
  refine KT.step rfl rfl (K.extract rfl rfl) ?_
  refine KT.step rfl rfl (K.assign rfl) ?_
  refine KT.step rfl rfl (K.assign rfl) ?_
  refine KT.nil ?_
  refine thenK_n ?_
  refine KC.seq ?_
  refine KC.region ?_
  refine KT.step rfl rfl (K.assign rfl) ?_
  refine KT.nil ?_
  refine thenK_n ?_
  refine KC.seq ?_
  refine KC.region ?_
  refine KT.step rfl rfl (K.fieldAddrO rfl Tryd.fld63_1 Tryd.size56) ?_
  refine KT.step rfl rfl (K.loadO rfl rfl (by simp) rfl Tryd.agg56) ?_
  refine KT.step rfl rfl (K.len rfl hn Tryd.underlying56) ?_
  refine KT.step rfl rfl (K.make (m := nx.length) (c := nx.length) rfl rfl (Nat.le_refl _) (by omega) Tryd.underlying38 Tryd.one3) ?_
  refine KT.step rfl rfl (K.assign rfl) ?_
  refine KT.nil ?_
  refine thenK_n ?_
  refine KC.seq ?_
  refine KC.seq ?_
  refine KC.region ?_
  refine KT.step rfl rfl (K.move rfl) ?_
  refine KT.step rfl rfl (K.len rfl rowV_ints Tryd.underlying38) ?_
  refine KT.step rfl rfl (K.move rfl) ?_
  refine KT.nil ?_
  refine thenK_n ?_
  refine KC.block ?_
  refine KC.loop (fun p : List VObj × XV × List Nat × (Nat → Nat) × Nat => p.1) (fun p => [(1, .optr 0 0), (2, .optr 1 0), (4, .d (rowV (wZ (stL m nx)))), (6, .osl 2 0 nx.length 1 nx.length true), (38, .d (rowV (wZ (stL m nx)))), (39, .d (DI ((wZ (stL m nx)).length : Nat))), (5, p.2.1), (40, .d (DI (p.2.2.2.2 : Nat)))]) (fun p => (p.1[0]? = some ⟨[.d (DI (m : Nat)), .d nd, .d od], 0⟩ ∧ (∃ z, p.1[1]? = some ⟨z, 0⟩ ∧ z.length = 3) ∧ p.1[2]? = some ⟨((List.range nx.length).map fun s => XV.d (DI (p.2.2.2.1 s : Nat))), 0⟩) ∧ OwnK 1 p.1 p.2.1 (((wZ p.2.2.1).map DI).map .d) ∧ (∀ q, idX p.2.1 = some q → 3 ≤ q) ∧ Kept m (nxF nx) (ouF ou) ((stL m nx).take p.2.2.2.2) p.2.2.1 p.2.2.2.1 ∧ p.2.2.1 = keepK m (nxF nx) (ouF ou) ((stL m nx).take p.2.2.2.2) ∧ p.2.2.2.2 ≤ (stL m nx).length) (fun p => (stL m nx).length - p.2.2.2.2) (_, .d Dnil, [], fun _ => 0, 0) ⟨⟨rfl, ⟨_, rfl, rfl⟩, by rw [← rng_zero]; rfl⟩, .nil, fun q h => absurd h (by simp [idX]), .nil _, rfl, Nat.zero_le _⟩ rfl (by simp [Go.Vm.look, extK, enterK]) ?_
  intro p hp'
  obtain ⟨σ0, x5, Ks, C, j⟩ := p
  obtain ⟨⟨f0, ⟨zz, f1, zl⟩, f2⟩, f5, f6, hKp, hKe, hjL⟩ := hp'
  simp only at f0 f1 f2 f5 f6 hKp hKe hjL ⊢
  refine KC.seq ?_
  refine KC.region ?_
  refine KT.step rfl rfl (K.lss rfl rfl) ?_
  refine KT.nil ?_
  refine thenK_n ?_
  refine KC.seq ?_
  refine KC.cond rfl (fun hc41 => ?_) (fun hc41 => ?_)
  · skip
    replace hc41 := of_decide_eq_true hc41
    have hjl : j < (stL m nx).length := by omega
    obtain ⟨s, hsj⟩ : ∃ s, (stL m nx)[j]? = some s := ⟨_, List.getElem?_eq_getElem hjl⟩
    have hsS := List.mem_of_getElem? hsj
    have hsN := hSl s hsS
    have eS : (wZ (stL m nx))[j]'(by omega) = ((s : Nat) : Int) := by simp [wZ, (List.getElem?_eq_some_iff.1 hsj).2]
    have hKl : Ks.length ≤ 1000 := by have := kept_len hKp (n := nx.length) fun s hs => hSl s (List.mem_of_mem_take hs); omega
    have etk : (stL m nx).take (j + 1) = (stL m nx).take j ++ [s] := by rw [List.take_succ_eq_append_getElem hjl, (List.getElem?_eq_some_iff.1 hsj).2]
    refine KC.skip ?_
    refine thenK_n ?_
    refine KC.seq ?_
    refine KC.block ?_
    refine KC.seq ?_
    refine KC.region ?_
    refine KT.idxI (m := j) rfl rfl rfl rowV_ints rfl (by omega) Tryd.underlying38 Tryd.size3 fun cs42 => ?_
    rw [eS]
    refine KT.step rfl rfl (K.load rfl Tryd.agg3) ?_
    refine KT.step rfl rfl (K.assign rfl) ?_
    refine KT.nil ?_
    refine thenK_n ?_
    refine KC.seq ?_
    refine KC.region ?_
    refine KT.step rfl rfl (K.assign rfl) ?_
    refine KT.nil ?_
    refine thenK_n ?_
    refine KC.seq ?_
    refine KC.seq ?_
    refine KC.region ?_
    refine KT.step rfl rfl (K.move rfl) ?_
    refine KT.step rfl rfl (K.lenOK (m := Ks.length) rfl f5 (by simp [wZ]) (by decide) Tryd.underlying38) ?_
    refine KT.step rfl rfl (K.move rfl) ?_
    refine KT.nil ?_
    refine thenK_n ?_
    refine KC.block ?_
    refine KC.loop (fun _ : Int × Nat => σ0) (fun p => [(1, .optr 0 0), (2, .optr 1 0), (4, .d (rowV (wZ (stL m nx)))), (6, .osl 2 0 nx.length 1 nx.length true), (38, .d (rowV (wZ (stL m nx)))), (39, .d (DI ((wZ (stL m nx)).length : Nat))), (5, x5), (40, .d (DI (j : Nat))), (8, .d (DI (s : Nat))), (9, .d (DI p.1)), (44, x5), (45, .d (DI (Ks.length : Nat))), (46, .d (DI (p.2 : Nat)))]) (fun p => p.2 ≤ Ks.length ∧ ((p.1 = -1 ∧ ∀ (b x : Nat), b < p.2 → Ks[b]? = some x → ¬ Eqv m (nxF nx) (ouF ou) s x) ∨ ∃ b x : Nat, b < p.2 ∧ p.1 = b ∧ Ks[b]? = some x ∧ Eqv m (nxF nx) (ouF ou) s x)) (fun p => Ks.length - p.2) (-1, 0) ⟨Nat.zero_le _, .inl ⟨rfl, fun b x h => by simp at h⟩⟩ rfl (by simp [Go.Vm.look, extK]) ?_
    intro p hp'
    obtain ⟨c, a⟩ := p
    obtain ⟨haL, hc⟩ := hp'
    simp only at haL hc ⊢
    refine KC.seq ?_
    refine KC.region ?_
    refine KT.step rfl rfl (K.lss rfl rfl) ?_
    refine KT.nil ?_
    refine thenK_n ?_
    refine KC.seq ?_
    refine KC.cond rfl (fun hc47 => ?_) (fun hc47 => ?_)
    · skip
      replace hc47 := of_decide_eq_true hc47
      have haK : a < Ks.length := by omega
      obtain ⟨id5, rfl, h5⟩ := f5.is (n := Ks.length) (by simp [wZ]) (by decide) (by omega)
      refine KC.skip ?_
      refine thenK_n ?_
      refine KC.seq ?_
      refine KC.block ?_
      refine KC.seq ?_
      refine KC.region ?_
      refine KT.step rfl rfl (K.move rfl) ?_
      refine KT.step rfl rfl (K.idxO (m := a) rfl rfl (by omega) Tryd.underlying38 Tryd.size3) ?_
      refine KT.step rfl rfl (K.loadO rfl h5 (by simp) (y := .d (DI (Ks[a] : Nat))) (by rw [Nat.zero_add]; simp [wZ, haK]) Tryd.agg3) ?_
      refine KT.step rfl rfl (K.assign rfl) ?_
      refine KT.step rfl rfl (K.assign rfl) ?_
      refine KT.nil ?_
      refine thenK_n ?_
      refine KC.seq ?_
      refine KC.region ?_
      refine KT.step rfl rfl (K.loadOA ([DI (m : Nat), nd, od]) rfl f0 (by decide) Tryd.agg63 Tryd.size63 rfl) ?_
      refine KT.step rfl rfl (K.move rfl) ?_
      refine KT.step rfl rfl (K.move rfl) ?_
      refine KT.step rfl rfl (K.call3 rfl rfl rfl plainTryd_74 (cP s Ks[a] hsN (hSl _ (List.mem_of_mem_take (hKp.sub _ (List.getElem_mem haK)))))) ?_
      refine KT.step rfl rfl (K.move rfl) ?_
      refine KT.step rfl rfl (K.extract rfl rfl) ?_
      refine KT.step rfl rfl (K.extract rfl rfl) ?_
      refine KT.step rfl rfl (K.assign rfl) ?_
      refine KT.step rfl rfl (K.assign rfl) ?_
      refine KT.nil ?_
      refine thenK_n ?_
      refine KC.seq ?_
      refine KC.region ?_
      refine KT.step rfl rfl (K.move rfl) ?_
      refine KT.step rfl rfl (K.not rfl) ?_
      refine KT.nil ?_
      refine thenK_n ?_
      refine KC.cond rfl (fun hc59 => ?_) (fun hc59 => ?_)
      · skip
        refine KC.region ?_
        refine KT.step rfl rfl (K.move rfl) ?_
        refine KT.step rfl rfl (K.assign rfl) ?_
        refine KT.nil ?_
        refine blockK_n ?_
        refine thenK_n ?_
        refine KC.region ?_
        refine KT.step rfl rfl (K.add rfl rfl (wrap_id (by omega))) ?_
        refine KT.step rfl rfl (K.move rfl) ?_
        refine KT.nil ?_
        refine thenK_n ?_
        refine ⟨((a : Nat), a + 1), ⟨by simp only; omega, .inr ⟨a, Ks[a], by simp only; omega, rfl, List.getElem?_eq_getElem haK, part_eqv.1 (by simpa using hc59)⟩⟩, by simp only; omega, rfl, by simp [Go.Vm.look, extK]⟩
      · skip
        refine KC.skip ?_
        refine blockK_n ?_
        refine thenK_n ?_
        refine KC.region ?_
        refine KT.step rfl rfl (K.add rfl rfl (wrap_id (by omega))) ?_
        refine KT.step rfl rfl (K.move rfl) ?_
        refine KT.nil ?_
        refine thenK_n ?_
        refine ⟨(c, a + 1), ⟨by simp only; omega, ?_⟩, by simp only; omega, rfl, by simp [Go.Vm.look, extK]⟩
        rcases hc with ⟨h1, h2⟩ | ⟨b, x, h1, h2, h3, h4⟩
        · refine .inl ⟨h1, fun b x hb hx he => ?_⟩
          by_cases e : b = a
          · subst e
            rw [List.getElem?_eq_getElem haK] at hx; cases hx
            have := part_eqv.2 he
            rw [this] at hc59; cases hc59
          · exact h2 b x (by simp only at hb; omega) hx he
        · exact .inr ⟨b, x, by simp only; omega, h2, h3, h4⟩
    · skip
      replace hc47 := of_decide_eq_false hc47
      refine KC.exit ?_
      refine thenK_x ?_
      refine thenK_x ?_
      refine blockK_e ?_
      refine thenK_n ?_
      refine KC.seq ?_
      refine KC.seq ?_
      refine KC.region ?_
      refine KT.step rfl rfl (K.move rfl) ?_
      refine KT.step rfl rfl (K.lss rfl rfl) ?_
      refine KT.nil ?_
      refine thenK_n ?_
      refine KC.cond rfl (fun hc63 => ?_) (fun hc63 => ?_)
      · skip
        replace hc63 := of_decide_eq_true hc63
        have hno : ∀ x ∈ Ks, ¬ Eqv m (nxF nx) (ouF ou) s x := fun x hx => by
          rcases hc with ⟨_, h⟩ | ⟨b, y, h1, h2, h3, h4⟩
          · obtain ⟨b, hb⟩ := List.getElem?_of_mem hx
            exact h b x (by have := obj_ltF hb; omega) hb
          · omega
        refine KC.seq ?_
        refine KC.region ?_
        refine KT.step rfl rfl (K.move rfl) ?_
        refine KT.step rfl rfl (K.lenOK (m := Ks.length) rfl f5 (by simp [wZ]) (by decide) Tryd.underlying38) ?_
        refine KT.step rfl rfl (K.assign rfl) ?_
        refine KT.nil ?_
        refine thenK_n ?_
        refine KC.region ?_
        refine KT.step rfl rfl (K.move rfl) ?_
        refine KT.step rfl rfl (K.move rfl) ?_
        refine KT.step rfl rfl (K.build1' (v := .d (DI (s : Nat))) rfl rfl Tryd.underlying38 Tryd.one3) ?_
        refine KT.appK (k := 1) (vs := [.d (DI (s : Nat))]) rfl rfl rfl rfl (f5.pushed _) (List.getElem?_concat_length ..) rfl rfl (by simp [wZ]; omega) Tryd.underlying38 Tryd.size3 (of_decide_eq_true (by kernel_rfl)) (by kernel_rfl) (by decide) fun σ1 x1 o1 k1 w1 => ?_
        obtain ⟨j1, w1a, w1b⟩ := w1
        rw [List.length_append] at w1b k1
        have l2 := obj_lt f2
        have g1 : ∀ q, q < 3 → σ1[q]? = σ0[q]? := fun q hq => (k1 q (fun h => by have := f6 q h; omega) (by omega)).trans (List.getElem?_append_left (by omega))
        have b0 := (g1 0 (by decide)).trans f0
        have b1 := (g1 1 (by decide)).trans f1
        have b2 := (g1 2 (by decide)).trans f2
        refine KT.step rfl rfl (K.assign rfl) ?_
        refine KT.nil ?_
        refine thenK_n ?_
        refine KC.region ?_
        refine KT.step rfl rfl (K.move rfl) ?_
        refine KT.step rfl rfl (K.move rfl) ?_
        refine KT.step rfl rfl (K.move rfl) ?_
        refine KT.step rfl rfl (K.idxO (m := s) rfl rfl hsN Tryd.underlying38 Tryd.size3) ?_
        refine KT.storeG rfl rfl rfl rfl b2 (by simp; omega) rfl rfl Tryd.size3 fun σ9 l9 u9 v9 => ?_
        rw [Nat.zero_add, rng_set hsN] at u9
        refine KT.nil ?_
        refine blockK_n ?_
        refine thenK_n ?_
        refine KC.region ?_
        refine KT.step rfl rfl (K.add rfl rfl (wrap_id (by omega))) ?_
        refine KT.step rfl rfl (K.move rfl) ?_
        refine KT.nil ?_
        refine thenK_n ?_
        refine ⟨(σ9, x1, Ks ++ [s], fun t => if t = s then Ks.length else C t, j + 1), ⟨⟨(v9 0 (by decide)).trans b0, ⟨zz, (v9 1 (by decide)).trans b1, zl⟩, u9⟩, ?_, fun q hq => ?_, ?_, ?_, by simp only; omega⟩, by simp only; omega, rfl, by simp [Go.Vm.look, extK]⟩
        · rw [show ((wZ (Ks ++ [s])).map DI).map XV.d = ((wZ Ks).map DI).map XV.d ++ [.d (DI (s : Nat))] by simp [wZ]]
          exact o1.keep fun q hq => v9 q (by rw [w1a] at hq; cases hq; omega)
        · simp only at hq; rw [w1a] at hq; cases hq; omega
        · simp only; rw [etk]; exact hKp.new hno
        · simp only; rw [etk, keepK_snoc, ← hKe, keepS_new hno]
      · skip
        replace hc63 := of_decide_eq_false hc63
        obtain ⟨b, y, hb1, rfl, hb3, hb4⟩ := hc.resolve_left fun h => by omega
        have b0 := f0
        have b1 := f1
        have b2 := f2
        refine KC.skip ?_
        refine thenK_n ?_
        refine KC.region ?_
        refine KT.step rfl rfl (K.move rfl) ?_
        refine KT.step rfl rfl (K.move rfl) ?_
        refine KT.step rfl rfl (K.move rfl) ?_
        refine KT.step rfl rfl (K.idxO (m := s) rfl rfl hsN Tryd.underlying38 Tryd.size3) ?_
        refine KT.storeG rfl rfl rfl rfl b2 (by simp; omega) rfl rfl Tryd.size3 fun σ9 l9 u9 v9 => ?_
        rw [Nat.zero_add, rng_set hsN] at u9
        refine KT.nil ?_
        refine blockK_n ?_
        refine thenK_n ?_
        refine KC.region ?_
        refine KT.step rfl rfl (K.add rfl rfl (wrap_id (by omega))) ?_
        refine KT.step rfl rfl (K.move rfl) ?_
        refine KT.nil ?_
        refine thenK_n ?_
        refine ⟨(σ9, x5, Ks, fun t => if t = s then b else C t, j + 1), ⟨⟨(v9 0 (by decide)).trans b0, ⟨zz, (v9 1 (by decide)).trans b1, zl⟩, u9⟩, ?_, f6, ?_, ?_, by simp only; omega⟩, by simp only; omega, rfl, by simp [Go.Vm.look, extK]⟩
        · exact f5.keep fun q hq => v9 q (by have := f6 q hq; omega)
        · simp only; rw [etk]; exact hKp.old hb3 hb4
        · simp only; rw [etk, keepK_snoc, ← hKe, keepS_old hb3 hb4]
  · skip
    replace hc41 := of_decide_eq_false hc41
    refine KC.exit ?_
    refine thenK_x ?_
    refine thenK_x ?_
    refine blockK_e ?_
    refine thenK_n ?_
    refine KC.seq ?_
    obtain rfl : j = (stL m nx).length := by omega
    rw [List.take_of_length_le (Nat.le_refl _)] at hKp hKe
    obtain ⟨hc0, hk0⟩ := hKp.start hS0
    obtain ⟨id5, rfl, h5⟩ := f5.is (n := Ks.length) (by simp [wZ]) (by decide) hk0
    have i5 : 3 ≤ id5 := f6 id5 rfl
    have hKn := kept_len hKp hSl
    refine KC.region ?_
    refine KT.step rfl rfl (K.fieldAddrO rfl Tryd.fld63_0 Tryd.size3) ?_
    refine KT.step rfl rfl (K.loadO rfl f0 (by simp) rfl Tryd.agg3) ?_
    refine KT.step rfl rfl (K.buildS rfl (build63_1 _)) ?_
    refine KT.step rfl rfl (K.alloc Tryd.zero63) ?_
    refine KT.storeL (cs := ([DI (m : Nat), Dnil, Dnil]).map .d) rfl rfl rfl rfl rfl rfl rfl Tryd.size63 ?_
    refine KT.nil ?_
    refine thenK_n ?_
    refine KC.seq ?_
    refine KC.seq ?_
    refine KC.region ?_
    refine KT.step rfl rfl (K.move rfl) ?_
    refine KT.step rfl rfl (K.lenO rfl Tryd.underlying38) ?_
    refine KT.step rfl rfl (K.move rfl) ?_
    refine KT.nil ?_
    refine thenK_n ?_
    refine KC.block ?_
    have f0' := obj_left (τ := [(⟨[.d (DI (m : Nat)), .d Dnil, .d Dnil], 0⟩ : VObj)]) f0
    have f1' := obj_left (τ := [(⟨[.d (DI (m : Nat)), .d Dnil, .d Dnil], 0⟩ : VObj)]) f1
    have f2' := obj_left (τ := [(⟨[.d (DI (m : Nat)), .d Dnil, .d Dnil], 0⟩ : VObj)]) f2
    have h5' := obj_left (τ := [(⟨[.d (DI (m : Nat)), .d Dnil, .d Dnil], 0⟩ : VObj)]) h5
    have fe' : (σ0 ++ [(⟨[.d (DI (m : Nat)), .d Dnil, .d Dnil], 0⟩ : VObj)])[σ0.length]? = some ⟨[.d (DI (m : Nat)), .d Dnil, .d Dnil], 0⟩ := (List.getElem?_concat_length ..)
    have l5e := obj_lt h5
    generalize hE : σ0.length = e at *
    refine KC.loop (fun p : List VObj × XV × XV × Nat => p.1) (fun p => [(1, .optr 0 0), (2, .optr 1 0), (5, .osl id5 0 Ks.length 1 Ks.length false), (6, .osl 2 0 nx.length 1 nx.length true), (14, .optr e 0), (78, .osl id5 0 Ks.length 1 Ks.length false), (79, .d (DI (Ks.length : Nat))), (80, .d (DI (p.2.2.2 : Nat)))]) (fun p => p.2.2.2 ≤ Ks.length ∧ (p.1[0]? = some ⟨[.d (DI (m : Nat)), .d nd, .d od], 0⟩ ∧ (∃ z, p.1[1]? = some ⟨z, 0⟩ ∧ z.length = 3) ∧ p.1[2]? = some ⟨((List.range nx.length).map fun s => XV.d (DI (C s : Nat))), 0⟩) ∧ p.1[id5]? = some ⟨((wZ Ks).map DI).map .d, 0⟩ ∧ p.1[e]? = some ⟨[.d (DI (m : Nat)), p.2.1, p.2.2.1], 0⟩ ∧ OwnK 1 p.1 p.2.1 ((((numQ m (nxF nx) Ks C).take p.2.2.2).map rowV).map .d) ∧ OwnK 1 p.1 p.2.2.1 (((Ks.map fun s => getV od s).take p.2.2.2).map .d) ∧ (∀ j, idX p.2.1 = some j → e < j) ∧ (∀ j, idX p.2.2.1 = some j → e < j) ∧ (∀ j, idX p.2.1 = some j → idX p.2.2.1 ≠ some j)) (fun p => Ks.length - p.2.2.2) (_, .d Dnil, .d Dnil, 0) ⟨Nat.zero_le _, ⟨f0', ⟨zz, f1', zl⟩, f2'⟩, h5', fe', .nil, .nil, fun j h => absurd h (by simp [idX]), fun j h => absurd h (by simp [idX]), fun j h => absurd h (by simp [idX])⟩ (by rfl) (by simp [Go.Vm.look, extK]) ?_
    clear f0 f1 f2 f0' f1' f2' fe' zl hE h5 h5' f5 f6
    intro p hp'
    obtain ⟨σ0, xN, xO, a⟩ := p
    obtain ⟨haL, ⟨f0, ⟨zz, f1, zl⟩, f2⟩, f5, fe, o1, o2, d1, d2, d12⟩ := hp'
    simp only at haL f0 f1 f2 f5 fe o1 o2 d1 d2 d12 ⊢
    have le := obj_lt fe
    refine KC.seq ?_
    refine KC.region ?_
    refine KT.step rfl rfl (K.lss rfl rfl) ?_
    refine KT.nil ?_
    refine thenK_n ?_
    refine KC.seq ?_
    refine KC.cond rfl (fun hc81 => ?_) (fun hc81 => ?_)
    · skip
      replace hc81 := of_decide_eq_true hc81
      have haK : a < Ks.length := by omega
      obtain ⟨s, hsa⟩ : ∃ s, Ks[a]? = some s := ⟨_, List.getElem?_eq_getElem haK⟩
      have hsS := hKp.sub s (List.mem_of_getElem? hsa)
      have hsN := hSl s hsS
      have hnz := (hv.next (i := 0) hsN (by have := hv.a1; omega)).2.2
      have y1 : nx.getD s [] = nx[s] := by simp [hsN]
      rw [y1] at hnz
      have hol := hv.oul
      have hgi := getV_vec ho (m := s) (by omega)
      have hgc : cellsX (.d (getV od s)) = [.d (getV od s)] := (SlD.of hgi).cells
      have hgo : oneX (.d (getV od s)) = true := (SlD.of hgi).one
      refine KC.skip ?_
      refine thenK_n ?_
      refine KC.seq ?_
      refine KC.block ?_
      refine KC.seq ?_
      refine KC.region ?_
      refine KT.step rfl rfl (K.idxO (m := a) rfl rfl (by omega) Tryd.underlying38 Tryd.size3) ?_
      refine KT.step rfl rfl (K.loadO rfl f5 (by simp) (y := .d (DI (s : Nat))) (by rw [Nat.zero_add]; simp [wZ, hsa]) Tryd.agg3) ?_
      refine KT.step rfl rfl (K.assign rfl) ?_
      refine KT.nil ?_
      refine thenK_n ?_
      refine KC.seq ?_
      refine KC.region ?_
      refine KT.step rfl rfl (K.assign rfl) ?_
      refine KT.nil ?_
      refine thenK_n ?_
      refine KC.seq ?_
      refine KC.seq ?_
      refine KC.region ?_
      refine KT.step rfl rfl (K.fieldAddrO rfl Tryd.fld63_1 Tryd.size56) ?_
      refine KT.step rfl rfl (K.loadO rfl f0 (by simp) rfl Tryd.agg56) ?_
      refine KT.step rfl rfl (K.move rfl) ?_
      refine KT.idx (m := s) rfl rfl rfl hn rfl (by omega) Tryd.underlying56 Tryd.size38 fun c87 cs87 hq87 => ?_
      refine KT.step rfl rfl (K.load rfl Tryd.agg38) ?_
      refine KT.step rfl rfl (K.len rfl hq87 Tryd.underlying38) ?_
      refine KT.step rfl rfl (K.move rfl) ?_
      refine KT.nil ?_
      refine thenK_n ?_
      refine KC.block ?_
      refine KC.loop (fun p : List VObj × XV × Nat => p.1) (fun p => [(1, .optr 0 0), (2, .optr 1 0), (5, .osl id5 0 Ks.length 1 Ks.length false), (6, .osl 2 0 nx.length 1 nx.length true), (14, .optr e 0), (16, .d (DI (s : Nat))), (17, p.2.1), (78, .osl id5 0 Ks.length 1 Ks.length false), (79, .d (DI (Ks.length : Nat))), (80, .d (DI (a : Nat))), (88, .d c87), (89, .d (DI (nx[s].length : Nat))), (90, .d (DI (p.2.2 : Nat)))]) (fun p => p.2.2 ≤ m ∧ (∀ j, j < σ0.length → p.1[j]? = σ0[j]?) ∧ OwnK 1 p.1 p.2.1 ((((List.range p.2.2).map fun r => ((C (nxF nx s r) : Nat) : Int)).map DI).map .d) ∧ (∀ j, idX p.2.1 = some j → σ0.length ≤ j) ∧ σ0.length ≤ p.1.length) (fun p => m - p.2.2) (_, .d Dnil, 0) ⟨Nat.zero_le _, fun _ _ => rfl, .nil, fun j h => absurd h (by simp [idX]), Nat.le_refl _⟩ (by rfl) (by simp [Go.Vm.look, extK]) ?_
      intro p hp'
      obtain ⟨σ1, y1', i⟩ := p
      obtain ⟨hi0, kp, q1, h1, hL⟩ := hp'
      simp only at hi0 kp q1 h1 hL ⊢
      have b2 := (kp 2 (by omega)).trans f2
      refine KC.seq ?_
      refine KC.region ?_
      refine KT.step rfl rfl (K.lss rfl rfl) ?_
      refine KT.nil ?_
      refine thenK_n ?_
      refine KC.seq ?_
      refine KC.cond rfl (fun hc91 => ?_) (fun hc91 => ?_)
      · skip
        replace hc91 := of_decide_eq_true hc91
        have him : i < m := by omega
        have hkN := vmClo hv s i hsN him
        have eN : nx[s][i]'(by omega) = (nxF nx s i : Int) := by rw [get_D, ← y1]; exact (hv.next hsN (by omega)).2.1
        refine KC.skip ?_
        refine thenK_n ?_
        refine KC.seq ?_
        refine KC.block ?_
        refine KC.seq ?_
        refine KC.region ?_
        refine KT.idxI (m := i) rfl rfl rfl hq87 rfl (by omega) Tryd.underlying38 Tryd.size3 fun cs92 => ?_
        rw [eN]
        refine KT.step rfl rfl (K.load rfl Tryd.agg3) ?_
        refine KT.step rfl rfl (K.assign rfl) ?_
        refine KT.nil ?_
        refine thenK_n ?_
        refine KC.region ?_
        refine KT.step rfl rfl (K.move rfl) ?_
        refine KT.step rfl rfl (K.move rfl) ?_
        refine KT.step rfl rfl (K.move rfl) ?_
        refine KT.step rfl rfl (K.idxO (m := nxF nx s i) rfl rfl hkN Tryd.underlying38 Tryd.size3) ?_
        refine KT.step rfl rfl (K.loadO rfl b2 (by simp) (y := .d (DI (C (nxF nx s i) : Nat))) (by rw [Nat.zero_add]; simp [hkN]) Tryd.agg3) ?_
        refine KT.step rfl rfl (K.build1' (v := .d (DI (C (nxF nx s i) : Nat))) rfl rfl Tryd.underlying38 Tryd.one3) ?_
        refine KT.appK (k := 1) (vs := [.d (DI (C (nxF nx s i) : Nat))]) rfl rfl rfl rfl (q1.pushed _) (List.getElem?_concat_length ..) rfl rfl (by simp; omega) Tryd.underlying38 Tryd.size3 (of_decide_eq_true (by kernel_rfl)) (by kernel_rfl) (by decide) fun σ3 y3 o3 k3 w3 => ?_
        obtain ⟨j3, w3a, w3b⟩ := w3
        rw [List.length_append] at w3b k3
        refine KT.step rfl rfl (K.assign rfl) ?_
        refine KT.nil ?_
        refine blockK_n ?_
        refine thenK_n ?_
        refine KC.region ?_
        refine KT.step rfl rfl (K.add rfl rfl (wrap_id (by omega))) ?_
        refine KT.step rfl rfl (K.move rfl) ?_
        refine KT.nil ?_
        refine thenK_n ?_
        refine ⟨(σ3, y3, i + 1), ⟨by simp only; omega, fun j hj => ?_, ?_, fun j hj => ?_, ?_⟩, by simp only; omega, rfl, by simp [Go.Vm.look, extK]⟩
        · exact ((k3 j (fun h => by have := h1 j h; omega) (by omega)).trans (List.getElem?_append_left (by omega))).trans (kp j hj)
        · simp only
          rw [List.range_succ, List.map_append, List.map_append, List.map_append]
          exact o3
        · simp only at hj; rw [w3a] at hj; cases hj; omega
        · simp only
          have := o3.lt w3a
          omega
      · skip
        replace hc91 := of_decide_eq_false hc91
        refine KC.exit ?_
        refine thenK_x ?_
        refine thenK_x ?_
        refine blockK_e ?_
        refine thenK_n ?_
        refine KC.seq ?_
        obtain rfl : m = i := by omega
        obtain ⟨id1, rfl, hid1⟩ := q1.is (n := m) (by simp) (by decide) (by have := hv.a1; omega)
        have hi1 := h1 id1 rfl
        generalize hσ3 : freezeIds σ1 [id1] = σ3
        have g1 : ∀ j, j < σ0.length → σ3[j]? = σ0[j]? := fun j hj => by rw [← hσ3, fz_ne (by omega)]; exact kp j hj
        have l3 : σ3.length = σ1.length := by rw [← hσ3, fz_len]
        have a0 := (g1 0 (by omega)).trans f0
        have a1 := (g1 1 (by omega)).trans f1
        have a2 := (g1 2 (by omega)).trans f2
        have a5 := (g1 id5 (by omega)).trans f5
        have ae := (g1 e (by omega)).trans fe
        have p1 : OwnK 1 σ3 xN _ := o1.keep fun j hj => g1 j (o1.lt hj)
        have p2 : OwnK 1 σ3 xO _ := o2.keep fun j hj => g1 j (o2.lt hj)
        have eR : ((rowQ m (nxF nx) C s).map DI).length = m := by simp [rowQ]
        refine KC.ghost [id1] 3 (t := 17) (d := rowV (rowQ m (nxF nx) C s)) rfl (by have := deepen_row (l := rowQ m (nxF nx) C s) (k := 1) (lo := m) (fz_one hid1); rw [show (rowQ m (nxF nx) C s).length = m by simp [rowQ]] at this; exact this) ?_
        rw [hσ3]
        refine KC.region ?_
        refine KT.step rfl rfl (K.fieldAddrO rfl Tryd.fld63_1 Tryd.size56) ?_
        refine KT.step rfl rfl (K.loadO rfl ae (by simp) rfl Tryd.agg56) ?_
        refine KT.step rfl rfl (K.move rfl) ?_
        refine KT.step rfl rfl (K.build1' (v := .d (rowV (rowQ m (nxF nx) C s))) rfl rfl Tryd.underlying56 Tryd.one38) ?_
        refine KT.appK (k := 1) (vs := [.d (rowV (rowQ m (nxF nx) C s))]) rfl rfl rfl rfl (p1.pushed _) (List.getElem?_concat_length ..) rfl rfl (by simp; omega) Tryd.underlying56 Tryd.size38 (of_decide_eq_true (by kernel_rfl)) (by kernel_rfl) (by decide) fun σ4 x4 o4 k4 w4 => ?_
        obtain ⟨j4, w4a, w4b⟩ := w4
        rw [List.length_append] at w4b k4
        have r4 : ∀ (j : Nat) (o : VObj), idX xN ≠ some j → σ3[j]? = some o → σ4[j]? = some o := fun j o h1 h2 => (k4 j h1 (by have := obj_lt h2; omega)).trans (obj_left h2)
        have c0 := r4 0 _ (fun h => by have := d1 0 h; omega) a0
        have c1 := r4 1 _ (fun h => by have := d1 1 h; omega) a1
        have c2 := r4 2 _ (fun h => by have := d1 2 h; omega) a2
        have c5 := r4 id5 _ (fun h => by have := d1 id5 h; omega) a5
        have ce := r4 e _ (fun h => by have := d1 e h; omega) ae
        have p2b : OwnK 1 σ4 xO _ := p2.keep fun j hj => (k4 j (fun h => d12 j h hj) (by have := p2.lt hj; omega)).trans (List.getElem?_append_left (p2.lt hj))
        have l4 : j4 < σ4.length := o4.lt w4a
        refine KT.step rfl rfl (K.fieldAddrO rfl Tryd.fld63_1 Tryd.size56) ?_
        refine KT.storeG rfl rfl rfl rfl ce (by simp) o4.cells.1 o4.cells.2 Tryd.size56 fun σ5 l5 u5 v5 => ?_
        have e0 := (v5 0 (by omega)).trans c0
        have e1 := (v5 1 (by omega)).trans c1
        have e2 := (v5 2 (by omega)).trans c2
        have e5 := (v5 id5 (by omega)).trans c5
        have o4c : OwnK 1 σ5 x4 _ := o4.keep fun j hj => v5 j (by rw [w4a] at hj; cases hj; omega)
        have p2c : OwnK 1 σ5 xO _ := p2b.keep fun j hj => v5 j (by have := d2 j hj; omega)
        have d2' : ∀ j, idX xO = some j → j < σ3.length := fun j hj => p2.lt hj
        refine KT.nil ?_
        refine thenK_n ?_
        refine KC.draw Tryd.mixed ?_
        refine KT.step rfl rfl (K.fieldAddrO rfl Tryd.fld63_2 Tryd.size56) ?_
        refine KT.step rfl rfl (K.loadO rfl u5 (by simp) rfl Tryd.agg56) ?_
        refine KT.step rfl rfl (K.fieldAddrO rfl Tryd.fld63_2 Tryd.size56) ?_
        refine KT.step rfl rfl (K.loadO rfl e0 (by simp) rfl Tryd.agg56) ?_
        refine KT.step rfl rfl (K.move rfl) ?_
        refine KT.step rfl rfl (K.idxV rfl ho rfl (by omega) Tryd.underlying56 Tryd.size38) ?_
        refine KT.step rfl rfl (K.load rfl Tryd.agg38) ?_
        refine KT.step rfl rfl (K.build1' (v := .d (getV od s)) rfl hgc Tryd.underlying56 Tryd.one38) ?_
        refine KT.appK (k := 1) (vs := [.d (getV od s)]) rfl rfl rfl rfl (p2c.pushed _) (List.getElem?_concat_length ..) rfl (by simp [hgo]) (by simp; omega) Tryd.underlying56 Tryd.size38 (of_decide_eq_true (by kernel_rfl)) (by kernel_rfl) (by decide) fun σ6 x6 o6 k6 w6 => ?_
        obtain ⟨j6, w6a, w6b⟩ := w6
        rw [List.length_append] at w6b k6
        have r6 : ∀ (j : Nat) (o : VObj), idX xO ≠ some j → σ5[j]? = some o → σ6[j]? = some o := fun j o h1 h2 => (k6 j h1 (by have := obj_lt h2; omega)).trans (obj_left h2)
        have z0 := r6 0 _ (fun h => by have := d2 0 h; omega) e0
        have z1' := r6 1 _ (fun h => by have := d2 1 h; omega) e1
        have z2 := r6 2 _ (fun h => by have := d2 2 h; omega) e2
        have z5 := r6 id5 _ (fun h => by have := d2 id5 h; omega) e5
        have ze := r6 e _ (fun h => by have := d2 e h; omega) u5
        have o4d : OwnK 1 σ6 x4 _ := o4c.keep fun j hj => (k6 j (fun h => by have := d2' j h; rw [w4a] at hj; cases hj; omega) (by have := o4c.lt hj; omega)).trans (List.getElem?_append_left (o4c.lt hj))
        refine KT.step rfl rfl (K.fieldAddrO rfl Tryd.fld63_2 Tryd.size56) ?_
        refine KT.storeG rfl rfl rfl rfl ze (by simp) o6.cells.1 o6.cells.2 Tryd.size56 fun σ7 l7 u7 v7 => ?_
        refine KT.nil ?_
        refine ⟨by kernel_rfl, ?_⟩
        refine blockK_n ?_
        refine thenK_n ?_
        refine KC.region ?_
        refine KT.step rfl rfl (K.add rfl rfl (wrap_id (by omega))) ?_
        refine KT.step rfl rfl (K.move rfl) ?_
        refine KT.nil ?_
        refine thenK_n ?_
        refine ⟨(σ7, x4, x6, a + 1), ⟨by simp only; omega, ⟨(v7 0 (by omega)).trans z0, ⟨zz, (v7 1 (by omega)).trans z1', zl⟩, (v7 2 (by omega)).trans z2⟩, (v7 id5 (by omega)).trans z5, u7, ?_, ?_, fun j hj => ?_, fun j hj => ?_, fun j hj hj2 => ?_⟩, by simp only; omega, rfl, by simp [Go.Vm.look, extK]⟩
        · simp only
          rw [List.take_succ_eq_append_getElem (by rw [numQ_len]; exact haK), List.map_append, List.map_append, show (numQ m (nxF nx) Ks C)[a]'(by rw [numQ_len]; exact haK) = rowQ m (nxF nx) C s by simp [numQ, rowQ, (List.getElem?_eq_some_iff.1 hsa).2]]
          exact o4d.keep fun j hj => v7 j (by rw [w4a] at hj; cases hj; omega)
        · simp only
          rw [List.take_succ_eq_append_getElem (by simpa using haK), List.map_append, show (Ks.map fun s => getV od s)[a]'(by simpa using haK) = getV od s by simp [(List.getElem?_eq_some_iff.1 hsa).2]]
          exact o6.keep fun j hj => v7 j (by rw [w6a] at hj; cases hj; omega)
        · simp only at hj; rw [w4a] at hj; cases hj; omega
        · simp only at hj; rw [w6a] at hj; cases hj; omega
        · simp only at hj hj2; rw [w4a] at hj; rw [w6a] at hj2; cases hj; cases hj2; omega
    · skip
      replace hc81 := of_decide_eq_false hc81
      refine KC.exit ?_
      refine thenK_x ?_
      refine thenK_x ?_
      refine blockK_e ?_
      refine thenK_n ?_
      refine KC.seq ?_
      obtain rfl : a = Ks.length := by omega
      rw [List.take_of_length_le (by rw [numQ_len]; omega)] at o1
      rw [List.take_of_length_le (by simp)] at o2
      obtain ⟨iN, rfl, hN⟩ := o1.is (n := Ks.length) (by simp [numQ_len]) (by decide) hk0
      obtain ⟨iO, rfl, hO⟩ := o2.is (n := Ks.length) (by simp) (by decide) hk0
      have hNe := d1 iN rfl
      have hOe := d2 iO rfl
      have hNO : iO ≠ iN := fun h => d12 iN rfl (by rw [h]; rfl)
      obtain rfl : Ks = kfL m nx ou := hKe
      obtain ⟨hQ, hV1, hbe, hGF, hGl, hGn, hclo, hm1, hm2⟩ := clsM hv hKp
      rw [hQ] at hN
      have hGz : (wZ ((gsL m nx ou).map Prod.fst)).length = (gsL m nx ou).length := by rw [wZ_len, List.length_map]
      have cR2 := reached73 (od := .sl ((kfL m nx ou).map fun s => getV od s) (kfL m nx ou).length none) matV_mat hV1
      rw [hbe] at cR2
      have hfN := fz_in (σ := σ0) (a := iN) (b := iO) (.inl rfl) hN
      have hfO := fz_in (σ := σ0) (a := iN) (b := iO) (.inr rfl) hO
      have hdz : ([XV.agg [.d (DI (m : Nat)), .osl iN 0 (kfL m nx ou).length 1 (kfL m nx ou).length false, .osl iO 0 (kfL m nx ou).length 1 (kfL m nx ou).length false]]).mapM (deepen (freezeIds σ0 [iN, iO]) 7) = some [.agg [DI (m : Nat), matV (numQ m (nxF nx) (kfL m nx ou) (kcL m nx ou)), .sl ((kfL m nx ou).map fun s => getV od s) (kfL m nx ou).length none]] := by
        have q1 := deepen_frz (k := 4) hfN (n := (kfL m nx ou).length) (by simp [numQ_len])
        have q2 := deepen_frz (k := 4) hfO (n := (kfL m nx ou).length) (by simp)
        have q3 : deepen (freezeIds σ0 [iN, iO]) 7 (XV.agg [.d (DI (m : Nat)), .osl iN 0 (kfL m nx ou).length 1 (kfL m nx ou).length false, .osl iO 0 (kfL m nx ou).length 1 (kfL m nx ou).length false]) = some (.agg [DI (m : Nat), matV (numQ m (nxF nx) (kfL m nx ou) (kcL m nx ou)), .sl ((kfL m nx ou).map fun s => getV od s) (kfL m nx ou).length none]) := by
          show (([.d (DI (m : Nat)), .osl iN 0 (kfL m nx ou).length 1 (kfL m nx ou).length false, .osl iO 0 (kfL m nx ou).length 1 (kfL m nx ou).length false] : List XV).mapM (deepen (freezeIds σ0 [iN, iO]) 6)).map DV.agg = _
          rw [List.mapM_cons, List.mapM_cons, List.mapM_cons, q1, q2]
          simp only [matV, numQ_len]
          rfl
        rw [List.mapM_cons, q3]; rfl
      refine KC.region ?_
      refine KT.step rfl rfl (K.loadOX (m := 3) [.d (DI (m : Nat)), .osl iN 0 (kfL m nx ou).length 1 (kfL m nx ou).length false, .osl iO 0 (kfL m nx ou).length 1 (kfL m nx ou).length false] rfl fe (by simp) Tryd.agg63 Tryd.size63 rfl rfl) ?_
      refine KT.step rfl rfl (K.callZ (ds := [.agg [DI (m : Nat), matV (numQ m (nxF nx) (kfL m nx ou) (kcL m nx ou)), .sl ((kfL m nx ou).map fun s => getV od s) (kfL m nx ou).length none]]) [iN, iO] 7 rfl plainTryd_73 hdz cR2) ?_
      refine KT.step rfl rfl (K.move rfl) ?_
      refine KT.step rfl rfl (K.extract rfl rfl) ?_
      refine KT.step rfl rfl (K.extract rfl rfl) ?_
      refine KT.step rfl rfl (K.assign rfl) ?_
      refine KT.nil ?_
      refine thenK_n ?_
      refine KC.seq ?_
      have F0 := (fz_out (σ := σ0) (a := iN) (b := iO) (j := 0) (by omega) (by omega)).trans f0
      have F1 := (fz_out (σ := σ0) (a := iN) (b := iO) (j := 1) (by omega) (by omega)).trans f1
      have FE := (fz_out (σ := σ0) (a := iN) (b := iO) (j := e) (by omega) (by omega)).trans fe
      have lF := fz_len (σ := σ0) (ids := [iN, iO])
      generalize hσF : freezeIds σ0 [iN, iO] = σF at *
      have lN := obj_lt hfN
      have lO := obj_lt hfO
      have lE := obj_lt FE
      refine KC.region ?_
      refine KT.step rfl rfl (K.move rfl) ?_
      refine KT.step rfl rfl (K.len rfl rowV_ints Tryd.underlying38) ?_
      refine KT.step rfl rfl (K.make (m := (wZ ((gsL m nx ou).map Prod.fst)).length) (c := (wZ ((gsL m nx ou).map Prod.fst)).length) rfl rfl (Nat.le_refl _) (by omega) Tryd.underlying38 Tryd.one3) ?_
      refine KT.step rfl rfl (K.assign rfl) ?_
      refine KT.nil ?_
      refine thenK_n ?_
      refine KC.seq ?_
      refine KC.seq ?_
      refine KC.region ?_
      refine KT.step rfl rfl (K.move rfl) ?_
      refine KT.step rfl rfl (K.len rfl rowV_ints Tryd.underlying38) ?_
      refine KT.step rfl rfl (K.move rfl) ?_
      refine KT.nil ?_
      refine thenK_n ?_
      refine KC.block ?_
      have hz0 := rng_zero ((wZ ((gsL m nx ou).map Prod.fst)).length)
      have t0 : (σF ++ [(⟨List.replicate ((wZ ((gsL m nx ou).map Prod.fst)).length) (XV.d (.lit (.int .i64 0))), 0⟩ : VObj)])[σF.length]? = some ⟨((List.range ((wZ ((gsL m nx ou).map Prod.fst)).length)).map fun s => XV.d (DI (((fun _ => 0 : Nat → Nat) s : Nat) : Int))), 0⟩ := by rw [hz0]; exact (List.getElem?_concat_length ..)
      have kk : ∀ j, j < σF.length → (σF ++ [(⟨List.replicate ((wZ ((gsL m nx ou).map Prod.fst)).length) (XV.d (.lit (.int .i64 0))), 0⟩ : VObj)])[j]? = σF[j]? := fun j hj => List.getElem?_append_left hj
      generalize hE2 : σF.length = e2 at *
      refine KC.loop (fun p : List VObj × (Nat → Nat) × Nat => p.1) (fun p => [(1, .optr 0 0), (2, .optr 1 0), (4, .d (rowV (wZ ((gsL m nx ou).map Prod.fst)))), (14, .optr e 0), (20, .osl e2 0 (wZ ((gsL m nx ou).map Prod.fst)).length 1 (wZ ((gsL m nx ou).map Prod.fst)).length true), (127, .d (rowV (wZ ((gsL m nx ou).map Prod.fst)))), (128, .d (DI ((wZ ((gsL m nx ou).map Prod.fst)).length : Nat))), (129, .d (DI (p.2.2 : Nat)))]) (fun p => p.2.2 ≤ (gsL m nx ou).length ∧ (∀ j, j < e2 → p.1[j]? = σF[j]?) ∧ p.1[e2]? = some ⟨((List.range ((wZ ((gsL m nx ou).map Prod.fst)).length)).map fun s => XV.d (DI (p.2.1 s : Nat))), 0⟩ ∧ ∀ (j : Nat) (q : Nat × List Nat), j < p.2.2 → (gsL m nx ou)[j]? = some q → p.2.1 q.1 = j) (fun p => (gsL m nx ou).length - p.2.2) (_, fun _ => 0, 0) ⟨Nat.zero_le _, kk, t0, fun j q h => by simp at h⟩ (by rfl) (by simp [Go.Vm.look, extK]) ?_
      intro p hp'
      obtain ⟨σ1, G, k⟩ := p
      obtain ⟨hkL, kp, t20, hG⟩ := hp'
      simp only at hkL kp t20 hG ⊢
      have F0 := (kp 0 (by omega)).trans F0
      refine KC.seq ?_
      refine KC.region ?_
      refine KT.step rfl rfl (K.lss rfl rfl) ?_
      refine KT.nil ?_
      refine thenK_n ?_
      refine KC.seq ?_
      refine KC.cond rfl (fun hc130 => ?_) (fun hc130 => ?_)
      · skip
        replace hc130 := of_decide_eq_true hc130
        have hkl : k < (gsL m nx ou).length := by omega
        obtain ⟨c, wc, hk⟩ : ∃ (q1 : Nat) (q2 : List Nat), (gsL m nx ou)[k]? = some (q1, q2) := ⟨_, _, List.getElem?_eq_getElem hkl⟩
        have hcL : c < (kfL m nx ou).length := hGl _ (List.mem_of_getElem? hk)
        have hcZ : c < (wZ ((gsL m nx ou).map Prod.fst)).length := by omega
        have eG : (wZ ((gsL m nx ou).map Prod.fst))[k]'(by omega) = ((c : Nat) : Int) := by simp [wZ, (List.getElem?_eq_some_iff.1 hk).2]
        refine KC.skip ?_
        refine thenK_n ?_
        refine KC.seq ?_
        refine KC.block ?_
        refine KC.seq ?_
        refine KC.region ?_
        refine KT.step rfl rfl (K.move rfl) ?_
        refine KT.idxI (m := k) rfl rfl rfl rowV_ints rfl (by omega) Tryd.underlying38 Tryd.size3 fun cs132 => ?_
        rw [eG]
        refine KT.step rfl rfl (K.load rfl Tryd.agg3) ?_
        refine KT.step rfl rfl (K.assign rfl) ?_
        refine KT.step rfl rfl (K.assign rfl) ?_
        refine KT.nil ?_
        refine thenK_n ?_
        refine KC.region ?_
        refine KT.step rfl rfl (K.move rfl) ?_
        refine KT.step rfl rfl (K.move rfl) ?_
        refine KT.step rfl rfl (K.move rfl) ?_
        refine KT.step rfl rfl (K.idxO (m := c) rfl rfl hcZ Tryd.underlying38 Tryd.size3) ?_
        refine KT.storeG rfl rfl rfl rfl t20 (by simp; omega) rfl rfl Tryd.size3 fun σ9 l9 u9 v9 => ?_
        rw [Nat.zero_add, rng_set hcZ] at u9
        refine KT.nil ?_
        refine blockK_n ?_
        refine thenK_n ?_
        refine KC.region ?_
        refine KT.step rfl rfl (K.add rfl rfl (wrap_id (by omega))) ?_
        refine KT.step rfl rfl (K.move rfl) ?_
        refine KT.nil ?_
        refine thenK_n ?_
        refine ⟨(σ9, fun t => if t = c then k else G t, k + 1), ⟨by simp only; omega, fun j hj => (v9 j (by omega)).trans (kp j hj), u9, fun j q hj hq => ?_⟩, by simp only; omega, rfl, by simp [Go.Vm.look, extK]⟩
        by_cases e9 : j = k
        · subst e9; rw [hk] at hq; cases hq; simp
        · have hjk : j < k := by simp only at hj; omega
          have hne : q.1 ≠ c := fun h => e9 ((List.getElem?_inj (by rw [List.length_map]; exact obj_ltF hq) hGF.nd).1 (by rw [List.getElem?_map, List.getElem?_map, hq, hk, Option.map_some, Option.map_some, h]))
          simp only [if_neg hne]
          exact hG j q hjk hq
      · skip
        replace hc130 := of_decide_eq_false hc130
        refine KC.exit ?_
        refine thenK_x ?_
        refine thenK_x ?_
        refine blockK_e ?_
        refine thenK_n ?_
        refine KC.seq ?_
        refine KC.region ?_
        refine KT.step rfl rfl (K.fieldAddrO rfl Tryd.fld63_0 Tryd.size3) ?_
        refine KT.step rfl rfl (K.loadO rfl F0 (by simp) rfl Tryd.agg3) ?_
        refine KT.step rfl rfl (K.buildS rfl (build63_1 _)) ?_
        refine KT.step rfl rfl (K.alloc Tryd.zero63) ?_
        refine KT.storeL (cs := ([DI (m : Nat), Dnil, Dnil]).map .d) rfl rfl rfl rfl rfl rfl rfl Tryd.size63 ?_
        refine KT.nil ?_
        refine thenK_n ?_
        refine KC.seq ?_
        refine KC.seq ?_
        refine KC.region ?_
        refine KT.step rfl rfl (K.move rfl) ?_
        refine KT.step rfl rfl (K.len rfl rowV_ints Tryd.underlying38) ?_
        refine KT.step rfl rfl (K.move rfl) ?_
        refine KT.nil ?_
        refine thenK_n ?_
        refine KC.block ?_
        obtain rfl : k = (gsL m nx ou).length := by omega
        replace hG : ∀ (j : Nat) (q : Nat × List Nat), (gsL m nx ou)[j]? = some q → G q.1 = j := fun j q hq => hG j q (obj_ltF hq) hq
        have F1' := obj_left (τ := [(⟨[.d (DI (m : Nat)), .d Dnil, .d Dnil], 0⟩ : VObj)]) ((kp 1 (by omega)).trans F1)
        have FE' := obj_left (τ := [(⟨[.d (DI (m : Nat)), .d Dnil, .d Dnil], 0⟩ : VObj)]) ((kp e (by omega)).trans FE)
        have FN' := obj_left (τ := [(⟨[.d (DI (m : Nat)), .d Dnil, .d Dnil], 0⟩ : VObj)]) ((kp iN (by omega)).trans hfN)
        have FO' := obj_left (τ := [(⟨[.d (DI (m : Nat)), .d Dnil, .d Dnil], 0⟩ : VObj)]) ((kp iO (by omega)).trans hfO)
        have F2' := obj_left (τ := [(⟨[.d (DI (m : Nat)), .d Dnil, .d Dnil], 0⟩ : VObj)]) t20
        have fe' : (σ1 ++ [(⟨[.d (DI (m : Nat)), .d Dnil, .d Dnil], 0⟩ : VObj)])[σ1.length]? = some ⟨[.d (DI (m : Nat)), .d Dnil, .d Dnil], 0⟩ := (List.getElem?_concat_length ..)
        have l2e := obj_lt t20
        generalize hE3 : σ1.length = e3 at *
        refine KC.loop (fun p : List VObj × XV × XV × Nat => p.1) (fun p => [(1, .optr 0 0), (2, .optr 1 0), (4, .d (rowV (wZ ((gsL m nx ou).map Prod.fst)))), (14, .optr e 0), (20, .osl e2 0 (wZ ((gsL m nx ou).map Prod.fst)).length 1 (wZ ((gsL m nx ou).map Prod.fst)).length true), (23, .optr e3 0), (142, .d (rowV (wZ ((gsL m nx ou).map Prod.fst)))), (143, .d (DI ((wZ ((gsL m nx ou).map Prod.fst)).length : Nat))), (144, .d (DI (p.2.2.2 : Nat)))]) (fun p => p.2.2.2 ≤ (gsL m nx ou).length ∧ p.1[1]? = some ⟨zz, 0⟩ ∧ p.1[e]? = some ⟨[.d (DI (m : Nat)), .osl iN 0 (kfL m nx ou).length 1 (kfL m nx ou).length false, .osl iO 0 (kfL m nx ou).length 1 (kfL m nx ou).length false], 0⟩ ∧ p.1[iN]? = some ⟨((numQ m (nxF nx) (kfL m nx ou) (kcL m nx ou)).map rowV).map .d, 1⟩ ∧ p.1[iO]? = some ⟨((kfL m nx ou).map fun s => getV od s).map .d, 1⟩ ∧ p.1[e2]? = some ⟨((List.range ((wZ ((gsL m nx ou).map Prod.fst)).length)).map fun s => XV.d (DI (G s : Nat))), 0⟩ ∧ p.1[e3]? = some ⟨[.d (DI (m : Nat)), p.2.1, p.2.2.1], 0⟩ ∧ OwnK 1 p.1 p.2.1 (((((gsL m nx ou).map fun q => rowG m nx ou q.1).take p.2.2.2).map rowV).map .d) ∧ OwnK 1 p.1 p.2.2.1 ((((gsL m nx ou).map fun q => getV od ((kfL m nx ou).getD q.1 0)).take p.2.2.2).map .d) ∧ (∀ j, idX p.2.1 = some j → e3 < j) ∧ (∀ j, idX p.2.2.1 = some j → e3 < j) ∧ (∀ j, idX p.2.1 = some j → idX p.2.2.1 ≠ some j)) (fun p => (gsL m nx ou).length - p.2.2.2) (_, .d Dnil, .d Dnil, 0) ⟨Nat.zero_le _, F1', FE', FN', FO', F2', fe', .nil, .nil, fun j h => absurd h (by simp [idX]), fun j h => absurd h (by simp [idX]), fun j h => absurd h (by simp [idX])⟩ (by rfl) (by simp [Go.Vm.look, extK]) ?_
        clear F1' FE' FN' FO' F2' fe' hE3 kp t20 hkL
        intro p hp'
        obtain ⟨σ0, xN, xO, k⟩ := p
        obtain ⟨hkL, f1, fR, fN, fO, f20, fe, o1, o2, d1, d2, d12⟩ := hp'
        simp only at hkL f1 fR fN fO f20 fe o1 o2 d1 d2 d12 ⊢
        have le3 := obj_lt fe
        refine KC.seq ?_
        refine KC.region ?_
        refine KT.step rfl rfl (K.lss rfl rfl) ?_
        refine KT.nil ?_
        refine thenK_n ?_
        refine KC.seq ?_
        refine KC.cond rfl (fun hc145 => ?_) (fun hc145 => ?_)
        · skip
          replace hc145 := of_decide_eq_true hc145
          have hkl : k < (gsL m nx ou).length := by omega
          obtain ⟨c, wc, hk⟩ : ∃ (q1 : Nat) (q2 : List Nat), (gsL m nx ou)[k]? = some (q1, q2) := ⟨_, _, List.getElem?_eq_getElem hkl⟩
          have hcL : c < (kfL m nx ou).length := hGl _ (List.mem_of_getElem? hk)
          have eG : (wZ ((gsL m nx ou).map Prod.fst))[k]'(by omega) = ((c : Nat) : Int) := by simp [wZ, (List.getElem?_eq_some_iff.1 hk).2]
          have hrow : (numQ m (nxF nx) (kfL m nx ou) (kcL m nx ou))[c]? = some (rowX m nx ou c) := by simp [numQ, hcL, rowX, qx]
          have hol := hv.oul
          have hkm : (kfL m nx ou).getD c 0 < nx.length := hSl _ (hKp.mem hcL)
          have hgi := getV_vec ho (m := (kfL m nx ou).getD c 0) (by omega)
          have hgc : cellsX (.d (getV od ((kfL m nx ou).getD c 0))) = [.d (getV od ((kfL m nx ou).getD c 0))] := (SlD.of hgi).cells
          have hgo : oneX (.d (getV od ((kfL m nx ou).getD c 0))) = true := (SlD.of hgi).one
          refine KC.skip ?_
          refine thenK_n ?_
          refine KC.seq ?_
          refine KC.block ?_
          refine KC.seq ?_
          refine KC.region ?_
          refine KT.idxI (m := k) rfl rfl rfl rowV_ints rfl (by omega) Tryd.underlying38 Tryd.size3 fun cs146 => ?_
          rw [eG]
          refine KT.step rfl rfl (K.load rfl Tryd.agg3) ?_
          refine KT.step rfl rfl (K.assign rfl) ?_
          refine KT.nil ?_
          refine thenK_n ?_
          refine KC.seq ?_
          refine KC.region ?_
          refine KT.step rfl rfl (K.assign rfl) ?_
          refine KT.nil ?_
          refine thenK_n ?_
          refine KC.seq ?_
          refine KC.seq ?_
          refine KC.region ?_
          refine KT.step rfl rfl (K.fieldAddrO rfl Tryd.fld63_1 Tryd.size56) ?_
          refine KT.step rfl rfl (K.loadO rfl fR (by simp) rfl Tryd.agg56) ?_
          refine KT.step rfl rfl (K.move rfl) ?_
          refine KT.step rfl rfl (K.idxO (m := c) rfl rfl hcL Tryd.underlying56 Tryd.size38) ?_
          refine KT.step rfl rfl (K.loadO rfl fN (by simp) (y := .d (rowV (rowX m nx ou c))) (by rw [Nat.zero_add, List.getElem?_map, List.getElem?_map, hrow]; rfl) Tryd.agg38) ?_
          refine KT.step rfl rfl (K.len rfl rowV_ints Tryd.underlying38) ?_
          refine KT.step rfl rfl (K.move rfl) ?_
          refine KT.nil ?_
          refine thenK_n ?_
          refine KC.block ?_
          refine KC.loop (fun p : List VObj × XV × Nat => p.1) (fun p => [(1, .optr 0 0), (2, .optr 1 0), (4, .d (rowV (wZ ((gsL m nx ou).map Prod.fst)))), (14, .optr e 0), (20, .osl e2 0 (wZ ((gsL m nx ou).map Prod.fst)).length 1 (wZ ((gsL m nx ou).map Prod.fst)).length true), (23, .optr e3 0), (25, .d (DI (c : Nat))), (26, p.2.1), (142, .d (rowV (wZ ((gsL m nx ou).map Prod.fst)))), (143, .d (DI ((wZ ((gsL m nx ou).map Prod.fst)).length : Nat))), (144, .d (DI (k : Nat))), (152, .d (rowV (rowX m nx ou c))), (153, .d (DI ((rowX m nx ou c).length : Nat))), (154, .d (DI (p.2.2 : Nat)))]) (fun p => p.2.2 ≤ m ∧ (∀ j, j < σ0.length → p.1[j]? = σ0[j]?) ∧ OwnK 1 p.1 p.2.1 ((((List.range p.2.2).map fun r => ((idxF (gsL m nx ou) (qx (nxF nx) (kfL m nx ou) (kcL m nx ou) c r) : Nat) : Int)).map DI).map .d) ∧ (∀ j, idX p.2.1 = some j → σ0.length ≤ j) ∧ σ0.length ≤ p.1.length) (fun p => m - p.2.2) (_, .d Dnil, 0) ⟨Nat.zero_le _, fun _ _ => rfl, .nil, fun j h => absurd h (by simp [idX]), Nat.le_refl _⟩ (by rfl) (by simp [Go.Vm.look, extK]) ?_
          intro p hp'
          obtain ⟨σ1, y1', i⟩ := p
          obtain ⟨hi0, kp, q1, h1, hL⟩ := hp'
          simp only at hi0 kp q1 h1 hL ⊢
          have b20 := (kp e2 (by omega)).trans f20
          refine KC.seq ?_
          refine KC.region ?_
          refine KT.step rfl rfl (K.lss rfl rfl) ?_
          refine KT.nil ?_
          refine thenK_n ?_
          refine KC.seq ?_
          refine KC.cond rfl (fun hc155 => ?_) (fun hc155 => ?_)
          · skip
            replace hc155 := of_decide_eq_true hc155
            have him : i < m := by rw [rowX_len] at hc155; omega
            have eX : (rowX m nx ou c)[i]'(by rw [rowX_len]; omega) = (((qx (nxF nx) (kfL m nx ou) (kcL m nx ou)) c i : Nat) : Int) := by simp [rowX]
            have hqL := hclo c i hcL him
            have hqZ : (qx (nxF nx) (kfL m nx ou) (kcL m nx ou)) c i < (wZ ((gsL m nx ou).map Prod.fst)).length := by omega
            have hGq : G ((qx (nxF nx) (kfL m nx ou) (kcL m nx ou)) c i) = idxF (gsL m nx ou) ((qx (nxF nx) (kfL m nx ou) (kcL m nx ou)) c i) := by
              have hlt := hGF.closed (List.mem_of_getElem? hk) him
              have hlt2 : idxF (gsL m nx ou) ((qx (nxF nx) (kfL m nx ou) (kcL m nx ou)) c i) < ((gsL m nx ou).map Prod.fst).length := by simpa using hlt
              have hg : ((gsL m nx ou)[idxF (gsL m nx ou) ((qx (nxF nx) (kfL m nx ou) (kcL m nx ou)) c i)]'hlt).1 = (qx (nxF nx) (kfL m nx ou) (kcL m nx ou)) c i := by
                exact (List.getElem_map (h := hlt2) Prod.fst).symm.trans (List.getElem_idxOf hlt2)
              have := hG _ _ (List.getElem?_eq_getElem hlt)
              rw [hg] at this
              exact this
            refine KC.skip ?_
            refine thenK_n ?_
            refine KC.seq ?_
            refine KC.block ?_
            refine KC.seq ?_
            refine KC.region ?_
            refine KT.idxI (m := i) rfl rfl rfl rowV_ints rfl (by omega) Tryd.underlying38 Tryd.size3 fun cs156 => ?_
            rw [eX]
            refine KT.step rfl rfl (K.load rfl Tryd.agg3) ?_
            refine KT.step rfl rfl (K.assign rfl) ?_
            refine KT.nil ?_
            refine thenK_n ?_
            refine KC.region ?_
            refine KT.step rfl rfl (K.move rfl) ?_
            refine KT.step rfl rfl (K.move rfl) ?_
            refine KT.step rfl rfl (K.move rfl) ?_
            refine KT.step rfl rfl (K.idxO (m := qx (nxF nx) (kfL m nx ou) (kcL m nx ou) c i) rfl rfl hqZ Tryd.underlying38 Tryd.size3) ?_
            refine KT.step rfl rfl (K.loadO rfl b20 (by simp) (y := .d (DI (idxF (gsL m nx ou) (qx (nxF nx) (kfL m nx ou) (kcL m nx ou) c i) : Nat))) (by rw [Nat.zero_add]; simp [hqZ, hGq]) Tryd.agg3) ?_
            refine KT.step rfl rfl (K.build1' (v := .d (DI (idxF (gsL m nx ou) (qx (nxF nx) (kfL m nx ou) (kcL m nx ou) c i) : Nat))) rfl rfl Tryd.underlying38 Tryd.one3) ?_
            refine KT.appK (k := 1) (vs := [.d (DI (idxF (gsL m nx ou) (qx (nxF nx) (kfL m nx ou) (kcL m nx ou) c i) : Nat))]) rfl rfl rfl rfl (q1.pushed _) (List.getElem?_concat_length ..) rfl rfl (by simp; omega) Tryd.underlying38 Tryd.size3 (of_decide_eq_true (by kernel_rfl)) (by kernel_rfl) (by decide) fun σ3 y3 o3 k3 w3 => ?_
            obtain ⟨j3, w3a, w3b⟩ := w3
            rw [List.length_append] at w3b k3
            refine KT.step rfl rfl (K.assign rfl) ?_
            refine KT.nil ?_
            refine blockK_n ?_
            refine thenK_n ?_
            refine KC.region ?_
            refine KT.step rfl rfl (K.add rfl rfl (wrap_id (by omega))) ?_
            refine KT.step rfl rfl (K.move rfl) ?_
            refine KT.nil ?_
            refine thenK_n ?_
            refine ⟨(σ3, y3, i + 1), ⟨by simp only; omega, fun j hj => ?_, ?_, fun j hj => ?_, ?_⟩, by simp only; rw [rowX_len] at hc155; omega, rfl, by simp [Go.Vm.look, extK]⟩
            · exact ((k3 j (fun h => by have := h1 j h; omega) (by omega)).trans (List.getElem?_append_left (by omega))).trans (kp j hj)
            · simp only
              rw [List.range_succ, List.map_append, List.map_append, List.map_append]
              exact o3
            · simp only at hj; rw [w3a] at hj; cases hj; omega
            · simp only
              have := o3.lt w3a
              omega
          · skip
            replace hc155 := of_decide_eq_false hc155
            refine KC.exit ?_
            refine thenK_x ?_
            refine thenK_x ?_
            refine blockK_e ?_
            refine thenK_n ?_
            refine KC.seq ?_
            obtain rfl : m = i := by rw [rowX_len] at hc155; omega
            obtain ⟨id1, rfl, hid1⟩ := q1.is (n := m) (by simp) (by decide) (by have := hv.a1; omega)
            have hi1 := h1 id1 rfl
            generalize hσ3 : freezeIds σ1 [id1] = σ3
            have g1 : ∀ j, j < σ0.length → σ3[j]? = σ0[j]? := fun j hj => by rw [← hσ3, fz_ne (by omega)]; exact kp j hj
            have l3 : σ3.length = σ1.length := by rw [← hσ3, fz_len]
            have ae := (g1 e3 (by omega)).trans fe
            have aR := (g1 e (by omega)).trans fR
            have aO := (g1 iO (by omega)).trans fO
            have p1 : OwnK 1 σ3 xN _ := o1.keep fun j hj => g1 j (o1.lt hj)
            have p2 : OwnK 1 σ3 xO _ := o2.keep fun j hj => g1 j (o2.lt hj)
            refine KC.ghost [id1] 3 (t := 26) (d := rowV (rowG m nx ou c)) rfl (by have := deepen_row (l := rowG m nx ou c) (k := 1) (lo := m) (fz_one hid1); rw [show (rowG m nx ou c).length = m by simp [rowG]] at this; exact this) ?_
            rw [hσ3]
            refine KC.region ?_
            refine KT.step rfl rfl (K.fieldAddrO rfl Tryd.fld63_1 Tryd.size56) ?_
            refine KT.step rfl rfl (K.loadO rfl ae (by simp) rfl Tryd.agg56) ?_
            refine KT.step rfl rfl (K.move rfl) ?_
            refine KT.step rfl rfl (K.build1' (v := .d (rowV (rowG m nx ou c))) rfl rfl Tryd.underlying56 Tryd.one38) ?_
            refine KT.appK (k := 1) (vs := [.d (rowV (rowG m nx ou c))]) rfl rfl rfl rfl (p1.pushed _) (List.getElem?_concat_length ..) rfl rfl (by simp; omega) Tryd.underlying56 Tryd.size38 (of_decide_eq_true (by kernel_rfl)) (by kernel_rfl) (by decide) fun σ4 x4 o4 k4 w4 => ?_
            obtain ⟨j4, w4a, w4b⟩ := w4
            rw [List.length_append] at w4b k4
            have r4 : ∀ (j : Nat), j < e3 → σ4[j]? = σ3[j]? := fun j h => (k4 j (fun h2 => by have := d1 j h2; omega) (by omega)).trans (List.getElem?_append_left (by omega))
            have ce := (k4 e3 (fun h => by have := d1 e3 h; omega) (by omega)).trans (obj_left ae)
            have p2b : OwnK 1 σ4 xO _ := p2.keep fun j hj => (k4 j (fun h => d12 j h hj) (by have := p2.lt hj; omega)).trans (List.getElem?_append_left (p2.lt hj))
            have l4 : j4 < σ4.length := o4.lt w4a
            refine KT.step rfl rfl (K.fieldAddrO rfl Tryd.fld63_1 Tryd.size56) ?_
            refine KT.storeG rfl rfl rfl rfl ce (by simp) o4.cells.1 o4.cells.2 Tryd.size56 fun σ5 l5 u5 v5 => ?_
            have r5 : ∀ (j : Nat), j < e3 → σ5[j]? = σ4[j]? := fun j h => v5 j (by omega)
            have eR := (r5 e (by omega)).trans ((r4 e (by omega)).trans aR)
            have eO := (r5 iO (by omega)).trans ((r4 iO (by omega)).trans aO)
            have o4c : OwnK 1 σ5 x4 _ := o4.keep fun j hj => v5 j (by rw [w4a] at hj; cases hj; omega)
            have p2c : OwnK 1 σ5 xO _ := p2b.keep fun j hj => v5 j (by have := d2 j hj; omega)
            have d2' : ∀ j, idX xO = some j → j < σ3.length := fun j hj => p2.lt hj
            refine KT.nil ?_
            refine thenK_n ?_
            refine KC.draw Tryd.mixed ?_
            refine KT.step rfl rfl (K.fieldAddrO rfl Tryd.fld63_2 Tryd.size56) ?_
            refine KT.step rfl rfl (K.loadO rfl u5 (by simp) rfl Tryd.agg56) ?_
            refine KT.step rfl rfl (K.fieldAddrO rfl Tryd.fld63_2 Tryd.size56) ?_
            refine KT.step rfl rfl (K.loadO rfl eR (by simp) rfl Tryd.agg56) ?_
            refine KT.step rfl rfl (K.move rfl) ?_
            refine KT.step rfl rfl (K.idxO (m := c) rfl rfl hcL Tryd.underlying56 Tryd.size38) ?_
            refine KT.step rfl rfl (K.loadO rfl eO (by simp) (y := .d (getV od ((kfL m nx ou).getD c 0))) (by rw [Nat.zero_add]; simp [hcL]) Tryd.agg38) ?_
            refine KT.step rfl rfl (K.build1' (v := .d (getV od ((kfL m nx ou).getD c 0))) rfl hgc Tryd.underlying56 Tryd.one38) ?_
            refine KT.appK (k := 1) (vs := [.d (getV od ((kfL m nx ou).getD c 0))]) rfl rfl rfl rfl (p2c.pushed _) (List.getElem?_concat_length ..) rfl (by simp only [List.all_cons, hgo]; rfl) (by simp; omega) Tryd.underlying56 Tryd.size38 (of_decide_eq_true (by kernel_rfl)) (by kernel_rfl) (by decide) fun σ6 x6 o6 k6 w6 => ?_
            obtain ⟨j6, w6a, w6b⟩ := w6
            rw [List.length_append] at w6b k6
            have r6 : ∀ (j : Nat), j < e3 → σ6[j]? = σ5[j]? := fun j h => (k6 j (fun h2 => by have := d2 j h2; omega) (by omega)).trans (List.getElem?_append_left (by omega))
            have ze := (k6 e3 (fun h => by have := d2 e3 h; omega) (by omega)).trans (obj_left u5)
            have o4d : OwnK 1 σ6 x4 _ := o4c.keep fun j hj => (k6 j (fun h => by have := d2' j h; rw [w4a] at hj; cases hj; omega) (by have := o4c.lt hj; omega)).trans (List.getElem?_append_left (o4c.lt hj))
            refine KT.step rfl rfl (K.fieldAddrO rfl Tryd.fld63_2 Tryd.size56) ?_
            refine KT.storeG rfl rfl rfl rfl ze (by simp) o6.cells.1 o6.cells.2 Tryd.size56 fun σ7 l7 u7 v7 => ?_
            refine KT.nil ?_
            refine ⟨by kernel_rfl, ?_⟩
            refine blockK_n ?_
            refine thenK_n ?_
            refine KC.region ?_
            refine KT.step rfl rfl (K.add rfl rfl (wrap_id (by omega))) ?_
            refine KT.step rfl rfl (K.move rfl) ?_
            refine KT.nil ?_
            refine thenK_n ?_
            refine ⟨(σ7, x4, x6, k + 1), ⟨by simp only; omega, ?_, ?_, ?_, ?_, ?_, u7, ?_, ?_, fun j hj => ?_, fun j hj => ?_, fun j hj hj2 => ?_⟩, by simp only; omega, rfl, by simp [Go.Vm.look, extK]⟩
            · exact (v7 1 (by omega)).trans ((r6 1 (by omega)).trans ((r5 1 (by omega)).trans ((r4 1 (by omega)).trans ((g1 1 (by omega)).trans f1))))
            · exact (v7 e (by omega)).trans ((r6 e (by omega)).trans eR)
            · exact (v7 iN (by omega)).trans ((r6 iN (by omega)).trans ((r5 iN (by omega)).trans ((r4 iN (by omega)).trans ((g1 iN (by omega)).trans fN))))
            · exact (v7 iO (by omega)).trans ((r6 iO (by omega)).trans eO)
            · exact (v7 e2 (by omega)).trans ((r6 e2 (by omega)).trans ((r5 e2 (by omega)).trans ((r4 e2 (by omega)).trans ((g1 e2 (by omega)).trans f20))))
            · simp only
              rw [List.take_succ_eq_append_getElem (by simpa using hkl), List.map_append, List.map_append, show ((gsL m nx ou).map fun q => rowG m nx ou q.1)[k]'(by simpa using hkl) = rowG m nx ou c by simp [(List.getElem?_eq_some_iff.1 hk).2]]
              exact o4d.keep fun j hj => v7 j (by rw [w4a] at hj; cases hj; omega)
            · simp only
              rw [List.take_succ_eq_append_getElem (by simpa using hkl), List.map_append, show ((gsL m nx ou).map fun q => getV od ((kfL m nx ou).getD q.1 0))[k]'(by simpa using hkl) = getV od ((kfL m nx ou).getD c 0) by simp [(List.getElem?_eq_some_iff.1 hk).2]]
              exact o6.keep fun j hj => v7 j (by rw [w6a] at hj; cases hj; omega)
            · simp only at hj; rw [w4a] at hj; cases hj; omega
            · simp only at hj; rw [w6a] at hj; cases hj; omega
            · simp only at hj hj2; rw [w4a] at hj; rw [w6a] at hj2; cases hj; cases hj2; omega
        · skip
          replace hc145 := of_decide_eq_false hc145
          refine KC.exit ?_
          refine thenK_x ?_
          refine thenK_x ?_
          refine blockK_e ?_
          refine thenK_n ?_
          refine KC.seq ?_
          refine KC.region ?_
          refine KT.step rfl rfl (K.loadOX (m := 3) [.d (DI (m : Nat)), xN, xO] rfl fe (by simp) Tryd.agg63 Tryd.size63 rfl rfl) ?_
          refine KT.putAll (cs := [.d (DI (m : Nat)), xN, xO]) rfl rfl rfl rfl f1 (cellsX_aggX _) zl (by simp only [List.all_cons, o1.cells.2, o2.cells.2]; rfl) Tryd.size63 ?_
          refine KT.nil ?_
          refine thenK_n ?_
          refine KC.ret ?_
          rw [List.take_of_length_le (by simp; omega)] at o1 o2
          have hg0 : 0 < (gsL m nx ou).length := by omega
          generalize hLz : (gsL m nx ou).length = L at *
          obtain ⟨i1, rfl, a1⟩ := o1.is (n := L) (by simp [hLz]) (by decide) hg0
          obtain ⟨i2, rfl, a2⟩ := o2.is (n := L) (by simp [hLz]) (by decide) hg0
          have h1e := d1 i1 rfl
          have h2e := d2 i2 rfl
          generalize hCS : ([.d (DI (m : Nat)), .osl i1 0 L 1 L false, .osl i2 0 L 1 L false] : List XV) = CS
          have e1 : (σ0.set 1 ⟨CS, 0⟩)[1]? = some ⟨CS, 0⟩ := by rw [List.getElem?_set, if_pos rfl, if_pos (obj_lt f1)]
          have b1 := a1
          rw [← List.getElem?_set_ne (i := 1) (a := (⟨CS, 0⟩ : VObj)) (by omega)] at b1
          have b2 := a2
          rw [← List.getElem?_set_ne (i := 1) (a := (⟨CS, 0⟩ : VObj)) (by omega)] at b2
          refine ⟨.inl rfl, _, resK_agg (m := 3) rfl rfl e1 (by simp) Tryd.agg63 Tryd.size63 (by rw [← hCS]; simp), ?_⟩
          have g1 := deepen_all (k := 6) b1 (n := L) (by simp [hLz])
          have g2' := deepen_all (k := 6) b2 (n := L) (by simp [hLz])
          generalize σ0.set 1 ⟨CS, 0⟩ = σZ at g1 g2' ⊢
          rw [← hCS]
          show (([.d (DI (m : Nat)), .osl i1 0 L 1 L false, .osl i2 0 L 1 L false] : List XV).mapM (deepen (freezeAll σZ) 8)).map DV.agg = _
          rw [List.mapM_cons, List.mapM_cons, List.mapM_cons, g1, g2', ← hm1]
          simp only [matV, numN_len, outR, hLz]
          rfl
end Go.Proofs.YteednkolfnjdoaaDoor

