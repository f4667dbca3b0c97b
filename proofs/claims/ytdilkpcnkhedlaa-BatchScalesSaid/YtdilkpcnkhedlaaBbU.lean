import Derived.Test.YtdilkpcnkhedlaaBbA
import Derived.Test.YtdilkpcnkhedlaaBbP
import Derived.Test.YtdilkpcnkhedlaaBbS
import Derived.Test.YtdilkpcnkhedlaaBbT
/-
  Batch: the law of doubled times.
-/
namespace Go.Proofs.Ytdilkpcnkhedlaa
open Go.Vm Go.Ht Go.Ba
theorem plainTry_15 : plainFn Try.prog 15 = true := by kernel_rfl
set_option maxHeartbeats 2000000 in
set_option maxRecDepth 10000 in
theorem ofX17 {M : Nat → Prop} {W0 : World} {o0 : VObj} {N : Int} {jd : DV} {J : List (List (Int × Int))} (hd : JbD jd J) (h3 : J.length ≤ 3) (hr : ∀ j ∈ J, 1 ≤ j.length ∧ j.length ≤ 4) :
    InCall Try.prog M W0 17 [o0] [.d (.agg [DI N, jd])] (fun σ2 x2 => σ2[0]? = some o0 ∧ ∃ x ys, x2 = aggX [.d (DI N), x] ∧ ShX 4 σ2 x ys J) := by
  refine inCall_K Try.func17 rfl (Nat.le_of_ble_eq_true rfl) ?_
  refine KC.seq ?_
  refine KC.region ?_
  refine KT.step rfl rfl (K.box rfl) ?_
  refine KT.step rfl rfl (K.alloc Try.zero32) ?_
  refine KT.nil ?_
  refine thenK_n ?_
  refine KC.seq ?_
  refine KC.region ?_
  refine KT.step rfl rfl (K.fieldAddrO rfl Try.fld24_0 Try.size3) ?_
  refine KT.step rfl rfl (K.loadO rfl rfl (by simp) rfl Try.agg3) ?_
  refine KT.step rfl rfl (K.buildS rfl (build32_p _)) ?_
  refine KT.step rfl rfl (K.alloc Try.zero32) ?_
  refine KT.putAll (cs := [.d (DI N), .d Dnil]) rfl rfl rfl rfl rfl rfl rfl rfl Try.size32 ?_
  refine KT.nil ?_
  refine thenK_n ?_
  refine KC.seq ?_
  refine KC.seq ?_
  refine KC.region ?_
  refine KT.step rfl rfl (K.fieldAddrO rfl Try.fld24_1 Try.size22) ?_
  refine KT.step rfl rfl (K.loadO (y := .d jd) rfl rfl (by simp) rfl Try.agg22) ?_
  refine KT.step rfl rfl (K.len rfl hd Try.underlying22) ?_
  refine KT.step rfl rfl (K.move rfl) ?_
  refine KT.nil ?_
  refine thenK_n ?_
  refine KC.block ?_
  refine KC.loop (fun p : List VObj × XV × List XV × Nat => p.1) (fun p => [(2, .optr 2 0), (3, .optr 3 0), (13, .d jd), (14, .d (DI (J.length : Nat))), (15, .d (DI (p.2.2.2 : Nat)))]) (fun p => p.2.2.2 ≤ J.length ∧ p.1[0]? = some o0 ∧ p.1[2]? = some ⟨[.d (DI 0), .d Dnil], 0⟩ ∧ p.1[3]? = some ⟨[.d (DI N), p.2.1], 0⟩ ∧ ShX 4 p.1 p.2.1 p.2.2.1 (J.take p.2.2.2)) (fun p => J.length - p.2.2.2) (_, .d Dnil, [], 0) ⟨Nat.zero_le _, rfl, rfl, rfl, .nil⟩ rfl (by simp [Go.Vm.look, extK, enterK]) ?_
  intro p hp
  obtain ⟨σ0, x0, ys, i⟩ := p
  obtain ⟨hi, y0, yz, y2, hX⟩ := hp
  simp only at hi y0 yz y2 hX ⊢
  refine KC.seq ?_
  refine KC.region ?_
  refine KT.step rfl rfl (K.lss rfl rfl) ?_
  refine KT.nil ?_
  refine thenK_n ?_
  refine KC.seq ?_
  refine KC.cond rfl (fun hc16 => ?_) (fun hc16 => ?_)
  · skip
    replace hc16 := of_decide_eq_true hc16
    have hil : i < J.length := by omega
    have hri := hr _ (List.getElem_mem hil)
    refine KC.skip ?_
    refine thenK_n ?_
    refine KC.seq ?_
    refine KC.block ?_
    refine KC.seq ?_
    refine KC.region ?_
    refine KT.step rfl rfl (K.move rfl) ?_
    refine KT.idx rfl rfl rfl hd rfl (by omega) Try.underlying22 Try.size70 fun c18 cs18 hj => ?_
    refine KT.step rfl rfl (K.load rfl Try.agg70) ?_
    refine KT.step rfl rfl (K.assign rfl) ?_
    refine KT.step rfl rfl (K.assign rfl) ?_
    refine KT.nil ?_
    refine thenK_n ?_
    refine KC.seq ?_
    refine KC.seq ?_
    refine KC.region ?_
    refine KT.step rfl rfl (K.move rfl) ?_
    refine KT.step rfl rfl (K.gtr rfl rfl) ?_
    refine KT.nil ?_
    refine thenK_n ?_
    refine KC.cond rfl (fun hc21 => ?_) (fun hc21 => ?_)
    · skip
      exact absurd (of_decide_eq_true hc21) (by omega)
    · skip
      replace hc21 := of_decide_eq_false hc21
      refine KC.skip ?_
      refine thenK_n ?_
      refine KC.seq ?_
      refine KC.region ?_
      refine KT.step rfl rfl (K.assign rfl) ?_
      refine KT.nil ?_
      refine thenK_n ?_
      refine KC.seq ?_
      refine KC.seq ?_
      refine KC.region ?_
      refine KT.step rfl rfl (K.move rfl) ?_
      refine KT.step rfl rfl (K.lenF rfl hj Try.underlying70) ?_
      refine KT.step rfl rfl (K.move rfl) ?_
      refine KT.nil ?_
      refine thenK_n ?_
      refine KC.block ?_
      refine KC.loop (fun p : List VObj × XV × Nat => p.1) (fun p => [(2, .optr 2 0), (3, .optr 3 0), (13, .d jd), (14, .d (DI (J.length : Nat))), (15, .d (DI (i : Nat))), (22, .d c18), (23, .d (DI (J[i].length : Nat))), (24, .d (DI (p.2.2 : Nat))), (6, p.2.1)]) (fun p => p.2.2 ≤ J[i].length ∧ (∀ j, j < σ0.length → p.1[j]? = σ0[j]?) ∧ σ0.length ≤ p.1.length ∧ OwnK 2 p.1 p.2.1 (((J[i].take p.2.2).flatMap c2).map .d) ∧ (∀ j, idX p.2.1 = some j → σ0.length ≤ j) ∧ (J[i].take p.2.2 = [] → p.2.1 = .d Dnil)) (fun p => J[i].length - p.2.2) (_, .d Dnil, 0) ⟨Nat.zero_le _, fun j hj => rfl, Nat.le_refl _, .nil, fun j hj => (by cases hj), fun _ => rfl⟩ rfl (by simp [Go.Vm.look, extK]) ?_
      intro p hp
      obtain ⟨σ1, y1, k⟩ := p
      obtain ⟨hk, kp, hle1, o1, d1, n1⟩ := hp
      simp only at hk kp hle1 o1 d1 n1 ⊢
      refine KC.seq ?_
      refine KC.region ?_
      refine KT.step rfl rfl (K.lss rfl rfl) ?_
      refine KT.nil ?_
      refine thenK_n ?_
      refine KC.seq ?_
      refine KC.cond rfl (fun hc25 => ?_) (fun hc25 => ?_)
      · skip
        replace hc25 := of_decide_eq_true hc25
        have hkl : k < J[i].length := by omega
        refine KC.skip ?_
        refine thenK_n ?_
        refine KC.seq ?_
        refine KC.block ?_
        refine KC.seq ?_
        refine KC.region ?_
        refine KT.step rfl rfl (K.move rfl) ?_
        refine KT.step rfl rfl (K.idxF c2_len (m := k) rfl hj rfl (by omega) Try.underlying70 Try.size73) ?_
        refine KT.step rfl rfl (K.loadFl (cs := c2 J[i][k]) rfl rfl Try.agg73 Try.size73) ?_
        refine KT.step rfl rfl (K.alloc Try.zero73) ?_
        refine KT.step rfl rfl (K.assign rfl) ?_
        refine KT.storeL (cs := (c2 J[i][k]).map .d) rfl rfl rfl rfl rfl rfl rfl Try.size73 ?_
        refine KT.nil ?_
        refine thenK_n ?_
        refine KC.seq ?_
        refine KC.region ?_
        refine KT.step rfl rfl (K.move rfl) ?_
        refine KT.step rfl rfl (K.lss rfl rfl) ?_
        refine KT.nil ?_
        refine thenK_n ?_
        refine KC.cond rfl (fun hc30 => ?_) (fun hc30 => ?_)
        · skip
          replace hc30 := of_decide_eq_true hc30
          refine KC.region ?_
          refine KT.step rfl rfl (K.move rfl) ?_
          refine KT.step rfl rfl (K.fieldAddrO rfl Try.fld73_0 Try.size3) ?_
          refine KT.step rfl rfl (K.loadO rfl (List.getElem?_concat_length ..) (by simp) rfl Try.agg3) ?_
          refine KT.step rfl rfl (K.fieldAddrO rfl Try.fld73_1 Try.size3) ?_
          refine KT.step rfl rfl (K.loadO rfl (List.getElem?_concat_length ..) (by simp) rfl Try.agg3) ?_
          refine KT.step rfl rfl (K.buildS rfl (build79_2 _ _)) ?_
          refine KT.step rfl rfl (K.buildK (k := 2) (ds := c2 J[i][k]) rfl rfl Try.underlying78 Try.size79 Try.zero79 (by decide)) ?_
          refine KT.appK (k := 2) rfl rfl rfl rfl ((o1.pushed _).pushed _) (List.getElem?_concat_length ..) rfl rfl (by rw [cells_len, List.length_take]; omega) Try.underlying78 Try.size79 (of_decide_eq_true (by kernel_rfl)) (by kernel_rfl) (by decide) fun σ4 x4 ho4 k4 w4 => ?_
          obtain ⟨j4, w5, w6⟩ := w4
          rw [List.length_append, List.length_append] at w6
          rw [← flat_snoc] at ho4
          refine KT.step rfl rfl (K.assign rfl) ?_
          refine KT.nil ?_
          refine blockK_n ?_
          refine thenK_n ?_
          refine KC.region ?_
          refine KT.step rfl rfl (K.add rfl rfl (wrap_id (by omega))) ?_
          refine KT.step rfl rfl (K.move rfl) ?_
          refine KT.nil ?_
          refine thenK_n ?_
          have et : J[i].take (k + 1) = J[i].take k ++ [J[i][k]] := List.take_succ_eq_append_getElem hkl
          refine ⟨(σ4, x4, k + 1), ⟨by simp only; omega, fun j hj => ?_, ?_, by simp only [et]; exact ho4, fun j hj => ?_, fun h => ?_⟩, by simp only; omega, rfl, by simp [Go.Vm.look, extK]⟩
          · simp only
            rw [← kp j hj, k4 j (fun h => by have := d1 j h; omega) (by rw [List.length_append, List.length_append]; omega), List.getElem?_append_left (by rw [List.length_append]; omega), List.getElem?_append_left (by omega)]
          · simp only
            have := ho4.lt w5
            omega
          · simp only at hj; rw [w5] at hj; cases hj; omega
          · simp only [et] at h; exact absurd (List.append_eq_nil_iff.1 h).2 (by simp)
        · skip
          exact absurd (of_decide_eq_false hc30) (by omega)
      · skip
        replace hc25 := of_decide_eq_false hc25
        have u0 : σ1[0]? = some o0 := (kp 0 (by have := lt_of_get y2; omega)).trans y0
        have u1 : σ1[2]? = some ⟨[.d (DI 0), .d Dnil], 0⟩ := (kp 2 (by have := lt_of_get y2; omega)).trans yz
        have u2 : σ1[3]? = some ⟨[.d (DI N), x0], 0⟩ := (kp 3 (lt_of_get y2)).trans y2
        have ox := hX.ox.keep fun j hj => kp j (hX.ox.lt hj)
        have hmk : J[i].take k = J[i] := List.take_of_length_le (by omega)
        rw [hmk] at o1 n1
        obtain ⟨id1, e1, g1⟩ := own_row o1 hri.1
        have d2 := d1 id1 (by rw [e1]; rfl)
        refine KC.exit ?_
        refine thenK_x ?_
        refine thenK_x ?_
        refine blockK_e ?_
        refine thenK_n ?_
        refine KC.region ?_
        refine KT.step rfl rfl (K.fieldAddrO rfl Try.fld32_1 Try.size30) ?_
        refine KT.step rfl rfl (K.loadO rfl u2 (by simp) rfl Try.agg30) ?_
        refine KT.step rfl rfl (K.move rfl) ?_
        refine KT.step rfl rfl (K.buildC (k := 1) (cs := [y1]) rfl o1.cells.1 rfl Try.underlying30 Try.size78 Try.one78.zero (by decide)) ?_
        refine KT.appK (k := 1) rfl rfl rfl rfl (ox.pushed _) (List.getElem?_concat_length ..) rfl (by simp [o1.cells.2]) (by have := hX.len; rw [List.length_take] at this; omega) Try.underlying30 Try.size78 (of_decide_eq_true (by kernel_rfl)) (by kernel_rfl) (by decide) fun σ4 x4 ho4 k4 w4 => ?_
        obtain ⟨j4, w5, w6⟩ := w4
        rw [List.length_append] at w6
        have r4 : ∀ (j : Nat) (o : VObj), idX x0 ≠ some j → σ1[j]? = some o → σ4[j]? = some o := fun j o h1 h2 => (k4 j h1 (by have := lt_of_get h2; rw [List.length_append]; omega)).trans (get_left h2)
        refine KT.step rfl rfl (K.fieldAddrO rfl Try.fld32_1 Try.size30) ?_
        refine KT.storeG rfl rfl rfl rfl (r4 3 _ (fun h => by have := hX.lx 3 h; omega) u2) (by simp) ho4.cells.1 ho4.cells.2 Try.size30 fun σ5 l5 u5 v5 => ?_
        have hlen2 := lt_of_get u2
        have hlen3 := lt_of_get y2
        have hlen4 := lt_of_get g1
        have p0 := (v5 0 (by decide)).trans (r4 0 _ (fun h => by have := hX.lx 0 h; omega) u0)
        have p1 := (v5 2 (by decide)).trans (r4 2 _ (fun h => by have := hX.lx 2 h; omega) u1)
        have hX5 : ShX 4 σ5 x4 (ys ++ [y1]) (J.take (i + 1)) := by
          rw [List.take_succ_eq_append_getElem hil]
          have hle : 4 ≤ σ0.length ∨ σ0.length = 4 := by omega
          refine hX.step e1 ?_ (by omega) d2 (ho4.keep (σ' := σ5) fun j hj => v5 j (by rw [w5] at hj; cases hj; omega)) w5 (by omega) fun j a b c => ?_
          · exact (v5 id1 (by omega)).trans (r4 id1 _ (fun h => by have := hX.ox.lt h; omega) g1)
          · rw [v5 j (by omega), k4 j c (by rw [List.length_append]; have := kp j b; omega), List.getElem?_append_left (by omega), kp j b]
        refine KT.nil ?_
        refine blockK_n ?_
        refine thenK_n ?_
        refine KC.region ?_
        refine KT.step rfl rfl (K.add rfl rfl (wrap_id (by omega))) ?_
        refine KT.step rfl rfl (K.move rfl) ?_
        refine KT.nil ?_
        refine thenK_n ?_
        exact ⟨(σ5, x4, ys ++ [y1], i + 1), ⟨by simp only; omega, p0, p1, u5, hX5⟩, by simp only; omega, rfl, by simp [Go.Vm.look, extK]⟩
  · skip
    replace hc16 := of_decide_eq_false hc16
    refine KC.exit ?_
    refine thenK_x ?_
    refine thenK_x ?_
    refine blockK_e ?_
    refine thenK_n ?_
    refine KC.seq ?_
    refine KC.region ?_
    refine KT.step rfl rfl (K.loadOAgg (m := 2) (ob := ⟨[.d (DI N), x0], 0⟩) rfl y2 (by simp) Try.agg32 Try.size32 (by simp)) ?_
    have eex : J.take i = J := List.take_of_length_le (by omega)
    refine KT.putAll (cs := [.d (DI N), x0]) rfl rfl rfl rfl yz (cells_agg _) rfl (by simp [hX.ox.cells.2]; rfl) Try.size32 ?_
    have hF9 := hX.keep (σ' := σ0.set 2 ⟨[.d (DI N), x0], 0⟩) fun j hj _ => List.getElem?_set_ne (by omega)
    rw [eex] at hF9
    refine KT.nil ?_
    refine thenK_n ?_
    refine KC.ret ?_
    exact ⟨.inl rfl, _, resK_agg (m := 2) rfl rfl (List.getElem?_set_self (lt_of_get yz)) (by simp) Try.agg32 Try.size32 (by simp), (List.getElem?_set_ne (by decide)).trans y0, x0, ys, rfl, hF9⟩
set_option maxHeartbeats 2000000 in
set_option maxRecDepth 10000 in
theorem law15_ok {N : Int} {jd : DV} {J : List (List (Int × Int))} (hd : JbD jd J) (hl : J.length ≤ 9223372036854775807) (hr : ∀ j ∈ J, j.length ≤ 9223372036854775807) {ld : DV} {l : List (List Int)} (hm : Mat ld l) (hll : l.length ≤ 9223372036854775807) (hlr : ∀ r ∈ l, r.length ≤ 9223372036854775807) (hS : ShopOk N J) {bv : DV} {n e sp sf : Int} (bn : 0 ≤ bsN N J ∧ bsN N J ≤ 1000000000000) (bp : 0 ≤ spE N J l ∧ spE N J l ≤ 1000000000000) (hbest : DeepCall Try.prog 24 [.agg [DI N, shD (dblJ J)]] (.tup [bv, DI n, DI e]))
    (hmak : DeepCall Try.prog 20 [.agg [DI N, shD (dblJ J)], rows12 l ld] (.tup [DI sp, DI sf])) (he : e = 2 ∨ (e = 0 ∧ n = bsN N J * 2 ∧ sf = stE N J l ∧ sp = spE N J l * 2)) : DeepCall Try.prog 15 [.agg [DI N, jd], ld] (DB true) := by
  have h3 := hS.j3
  have hr4 : ∀ j ∈ J, 1 ≤ j.length ∧ j.length ≤ 4 := fun j hj => ⟨(hS.jb j hj).1, (hS.jb j hj).2.1⟩
  have hT : ∀ j ∈ J, ∀ o ∈ j, 1 ≤ o.2 ∧ o.2 ≤ 20 := fun j hj o ho => ((hS.jb j hj).2.2.1 o ho).2.2
  have hbest0 : DeepCall Try.prog 24 [.agg [DI N, jobsV (cutJ J)]] (.tup [bsV N J, DI (bsN N J), DI 0]) := by
    have h := best_cut (N := N) (J := J)
    rwa [show bsE N J = 0 from if_pos (shopB_iff.2 hS)] at h
  refine deepCall_K 5 Try.func15 rfl (Nat.le_of_ble_eq_true rfl) fun M W0 => ?_
  refine KC.seq ?_
  refine KC.region ?_
  refine KT.step rfl rfl (K.box rfl) ?_
  refine KT.step rfl rfl (K.assign rfl) ?_
  refine KT.nil ?_
  refine thenK_n ?_
  refine KC.seq ?_
  refine KC.region ?_
  refine KT.step rfl rfl (K.loadOA [DI N, jd] rfl rfl (by decide) Try.agg24 Try.size24 rfl) ?_
  refine KT.step rfl rfl (K.call1 rfl plainTry_17 (of17 hd hl hr)) ?_
  refine KT.step rfl rfl (K.call1 rfl plainTry_24 (hbest0)) ?_
  refine KT.step rfl rfl (K.move rfl) ?_
  refine KT.step rfl rfl (K.extract rfl rfl) ?_
  refine KT.step rfl rfl (K.extract rfl rfl) ?_
  refine KT.step rfl rfl (K.extract rfl rfl) ?_
  refine KT.step rfl rfl (K.assign rfl) ?_
  refine KT.step rfl rfl (K.assign rfl) ?_
  refine KT.step rfl rfl (K.assign rfl) ?_
  refine KT.nil ?_
  refine thenK_n ?_
  refine KC.seq ?_
  refine KC.region ?_
  refine KT.step rfl rfl (K.loadOA [DI N, jd] rfl rfl (by decide) Try.agg24 Try.size24 rfl) ?_
  refine KT.step rfl rfl (K.call1 rfl plainTry_17 (of17 hd hl hr)) ?_
  refine KT.step rfl rfl (K.move rfl) ?_
  refine KT.step rfl rfl (K.call1 rfl plainTry_18 (rows18 hm hll (getD_rows hlr))) ?_
  refine KT.step rfl rfl (K.call2 rfl rfl plainTry_20 (makespan_cut (N := N) hd hl hr hm hll hlr)) ?_
  refine KT.step rfl rfl (K.move rfl) ?_
  refine KT.step rfl rfl (K.extract rfl rfl) ?_
  refine KT.step rfl rfl (K.extract rfl rfl) ?_
  refine KT.step rfl rfl (K.assign rfl) ?_
  refine KT.step rfl rfl (K.assign rfl) ?_
  refine KT.nil ?_
  refine thenK_n ?_
  refine KC.seq ?_
  refine KC.seq ?_
  refine KC.region ?_
  refine KT.step rfl rfl (K.move rfl) ?_
  refine KT.step rfl rfl (K.neq rfl rfl) ?_
  refine KT.step rfl rfl (K.move rfl) ?_
  refine KT.bcase (fun hb35 => ?_) (fun hb35 => ?_)
  · skip
    exact absurd hb35 (by decide)
  · skip
    replace hb35 := of_decide_eq_false hb35
    refine KT.step rfl rfl (K.loadOA [DI N, jd] rfl rfl (by decide) Try.agg24 Try.size24 rfl) ?_
    refine KT.step rfl rfl (K.call1 rfl plainTry_25 ((by have h := rvalid25 (N := N) hd hl hr; rw [(shopB_iff.2 hS)] at h; exact h))) ?_
    refine KT.step rfl rfl (K.not rfl) ?_
    refine KT.step rfl rfl (K.pick rfl (fun h => by cases h) (fun _ => rfl)) ?_
    refine KT.nil ?_
    refine thenK_n ?_
    refine KC.cond rfl (fun hc39 => ?_) (fun hc39 => ?_)
    · skip
      exact absurd hc39 (by decide)
    · skip
      refine KC.skip ?_
      refine thenK_n ?_
      refine KC.seq ?_
      refine KC.regionL ?_
      refine KL.step rfl rfl (K.loadOA [DI N, jd] rfl rfl (by decide) Try.agg24 Try.size24 rfl) ?_
      refine KL.call rfl rfl rfl rfl rfl plainTry_17 (ofX17 hd h3 hr4) fun σ2 x2 hq => ?_
      obtain ⟨q0, x, ys, rfl, hX2⟩ := hq
      obtain ⟨T, hTd⟩ : ∃ T, σ2.length = T := ⟨_, rfl⟩
      have hJne : J ≠ [] := fun h => by have := hS.j1; rw [h] at this; simp at this
      obtain ⟨ix, rfl, hix, hixl⟩ := hX2.outer hJne
      refine KL.step rfl rfl (K.alloc Try.zero32) ?_
      refine KL.step rfl rfl (K.storeN (cells := [.d (DI 0), .d Dnil]) rfl rfl (List.getElem?_concat_length ..) (by exact Nat.le_refl 2) rfl Try.size32) ?_
      refine KL.nil ?_
      refine thenK_n ?_
      refine KC.seq ?_
      refine KC.seq ?_
      have eSt : ∀ (a b : VObj), (σ2 ++ [a]).set σ2.length b = σ2 ++ [b] := fun a b => by rw [List.set_append_right _ _ (Nat.le_refl _), Nat.sub_self]; rfl
      rw [eSt, hTd]
      have hixT := lt_of_get hix
      have hltT := hX2.lt
      rw [hTd] at hixT hltT
      have yT : (σ2 ++ [(⟨[.d (DI N), .osl ix 0 J.length 1 J.length false], 0⟩ : VObj)])[T]? = some ⟨[.d (DI N), .osl ix 0 J.length 1 J.length false], 0⟩ := by subst hTd; exact (List.getElem?_concat_length ..)
      have yx : (σ2 ++ [(⟨[.d (DI N), .osl ix 0 J.length 1 J.length false], 0⟩ : VObj)])[ix]? = some ⟨ys, 0⟩ := get_left hix
      have hX := hX2.keep (σ' := σ2 ++ [⟨[.d (DI N), .osl ix 0 J.length 1 J.length false], 0⟩]) fun j _ hj => List.getElem?_append_left hj
      refine KC.region ?_
      refine KT.step rfl rfl (K.fieldAddrO rfl Try.fld32_1 Try.size30) ?_
      refine KT.step rfl rfl (K.loadO (y := .osl ix 0 J.length 1 J.length false) rfl yT (by simp) rfl Try.agg30) ?_
      refine KT.step rfl rfl (K.lenO rfl Try.underlying30) ?_
      refine KT.step rfl rfl (K.move rfl) ?_
      refine KT.nil ?_
      refine thenK_n ?_
      refine KC.block ?_
      refine KC.loop (fun p : List VObj × Nat => p.1) (fun p => [(1, .d ld), (2, .optr 0 0), (5, .d (bsV N J)), (6, .d (DI (bsN N J))), (7, .d (DI 0)), (8, .d (DI (spE N J l))), (9, .d (DI (stE N J l))), (10, .optr T 0), (52, .osl ix 0 J.length 1 J.length false), (53, .d (DI (J.length : Nat))), (54, .d (DI (p.2 : Nat)))]) (fun p => p.2 ≤ J.length ∧ p.1[T]? = some ⟨[.d (DI N), .osl ix 0 J.length 1 J.length false], 0⟩ ∧ p.1[ix]? = some ⟨ys, 0⟩ ∧ ShX 4 p.1 (.osl ix 0 J.length 1 J.length false) ys (dblJ (J.take p.2) ++ J.drop p.2)) (fun p => J.length - p.2) (_, 0) ⟨Nat.zero_le _, yT, yx, hX⟩ rfl (by simp [Go.Vm.look, extK, enterK]) ?_
      intro p hp
      obtain ⟨σ0, i⟩ := p
      obtain ⟨hi, yT, yx, hX⟩ := hp
      simp only at hi yT yx hX ⊢
      refine KC.seq ?_
      refine KC.region ?_
      refine KT.step rfl rfl (K.lss rfl rfl) ?_
      refine KT.nil ?_
      refine thenK_n ?_
      refine KC.seq ?_
      refine KC.cond rfl (fun hc55 => ?_) (fun hc55 => ?_)
      · skip
        replace hc55 := of_decide_eq_true hc55
        have hil : i < J.length := by omega
        have hyl : ys.length = J.length := by have := hX.len; rw [dblJ, List.length_append, List.length_map, List.length_take, List.length_drop] at this; omega
        have hRl : i < (dblJ (J.take i) ++ J.drop i).length := by rw [dblJ, List.length_append, List.length_map, List.length_take, List.length_drop]; omega
        have eR : (dblJ (J.take i) ++ J.drop i)[i] = J[i] := by
          rw [List.getElem_append_right (by rw [dblJ, List.length_map, List.length_take]; omega)]
          simp [dblJ, List.length_take, Nat.min_eq_left (Nat.le_of_lt hil)]
        obtain ⟨id, ey, hyi, hlo, hne⟩ := hX.row i (by omega) hRl
        rw [eR] at ey hyi
        have hidT := hltT i (by omega) id (by rw [ey]; rfl)
        have hJi := List.getElem_mem hil
        refine KC.skip ?_
        refine thenK_n ?_
        refine KC.seq ?_
        refine KC.block ?_
        refine KC.seq ?_
        refine KC.region ?_
        refine KT.step rfl rfl (K.idxOK (m := i) (k := 1) rfl rfl (by omega) Try.underlying30 Try.size78) ?_
        refine KT.step rfl rfl (K.loadO (y := .osl id 0 J[i].length 2 J[i].length false) rfl yx (by simp) (by rw [← ey]; simp only [Nat.zero_add, Nat.mul_one]; exact List.getElem?_eq_getElem (by omega)) Try.agg78) ?_
        refine KT.step rfl rfl (K.assign rfl) ?_
        refine KT.nil ?_
        refine thenK_n ?_
        refine KC.seq ?_
        refine KC.region ?_
        refine KT.step rfl rfl (K.move rfl) ?_
        refine KT.step rfl rfl (K.lenO rfl Try.underlying78) ?_
        refine KT.step rfl rfl (K.move rfl) ?_
        refine KT.nil ?_
        refine thenK_n ?_
        refine KC.block ?_
        refine KC.loop (fun p : List VObj × List (Int × Int) × Nat => p.1) (fun p => [(1, .d ld), (2, .optr 0 0), (5, .d (bsV N J)), (6, .d (DI (bsN N J))), (7, .d (DI 0)), (8, .d (DI (spE N J l))), (9, .d (DI (stE N J l))), (10, .optr T 0), (52, .osl ix 0 J.length 1 J.length false), (53, .d (DI (J.length : Nat))), (54, .d (DI (i : Nat))), (12, .osl id 0 J[i].length 2 J[i].length false), (59, .d (DI (J[i].length : Nat))), (60, .d (DI (p.2.2 : Nat)))]) (fun p => p.2.2 ≤ J[i].length ∧ p.1[T]? = some ⟨[.d (DI N), .osl ix 0 J.length 1 J.length false], 0⟩ ∧ p.1[ix]? = some ⟨ys, 0⟩ ∧ p.1[id]? = some ⟨(p.2.1.flatMap c2).map .d, 0⟩ ∧ ShX 4 p.1 (.osl ix 0 J.length 1 J.length false) ys ((dblJ (J.take i) ++ J.drop i).set i p.2.1) ∧ p.2.1 = (J[i].take p.2.2).map dbl ++ J[i].drop p.2.2) (fun p => J[i].length - p.2.2) (_, J[i], 0) ⟨Nat.zero_le _, yT, yx, hyi, (by show ShX 4 _ _ _ ((dblJ (J.take i) ++ J.drop i).set i J[i]); rw [← eR, List.set_getElem_self]; exact hX), rfl⟩ rfl (by simp [Go.Vm.look, extK]) ?_
        intro p hp
        obtain ⟨σ1, r, m⟩ := p
        obtain ⟨hm, yT1, yx1, yr, hX1, hre⟩ := hp
        simp only at hm yT1 yx1 yr hX1 hre ⊢
        have hrl : r.length = J[i].length := by rw [hre, List.length_append, List.length_map, List.length_take, List.length_drop]; omega
        refine KC.seq ?_
        refine KC.region ?_
        refine KT.step rfl rfl (K.lss rfl rfl) ?_
        refine KT.nil ?_
        refine thenK_n ?_
        refine KC.seq ?_
        refine KC.cond rfl (fun hc61 => ?_) (fun hc61 => ?_)
        · skip
          replace hc61 := of_decide_eq_true hc61
          have hr4i := hr4 _ hJi
          have hml : m < J[i].length := by omega
          have hmr : m < r.length := by omega
          have hrg0 : r[m]? = some J[i][m] := by
            rw [hre, List.getElem?_append_right (by rw [List.length_map, List.length_take]; omega), List.length_map, List.length_take, Nat.min_eq_left (by omega), Nat.sub_self, List.getElem?_drop, Nat.add_zero, List.getElem?_eq_getElem hml]
          have hrg : r[m] = J[i][m] := by
            rw [List.getElem?_eq_getElem hmr] at hrg0
            exact Option.some.inj hrg0
          have hrm := hT _ hJi _ (List.getElem_mem hml)
          rw [← hrg] at hrm
          refine KC.skip ?_
          refine thenK_n ?_
          refine KC.seq ?_
          refine KC.block ?_
          refine KC.seq ?_
          refine KC.region ?_
          refine KT.step rfl rfl (K.move rfl) ?_
          refine KT.step rfl rfl (K.assign rfl) ?_
          refine KT.nil ?_
          refine thenK_n ?_
          refine KC.region ?_
          refine KT.step rfl rfl (K.move rfl) ?_
          refine KT.step rfl rfl (K.move rfl) ?_
          refine KT.step rfl rfl (K.idxOK (m := m) (k := 2) rfl rfl (by omega) Try.underlying78 Try.size79) ?_
          refine KT.step rfl rfl (K.fieldAddrO rfl Try.fld79_1 Try.size3) ?_
          refine KT.step rfl rfl (K.loadO (y := .d (DI r[m].2)) rfl yr (by simp) (get_snd hmr) Try.agg3) ?_
          refine KT.step rfl rfl (K.mul rfl rfl (wrap_id (by omega))) ?_
          refine KT.step rfl rfl (K.idxOK (m := m) (k := 2) rfl rfl (by omega) Try.underlying78 Try.size79) ?_
          refine KT.step rfl rfl (K.fieldAddrO rfl Try.fld79_1 Try.size3) ?_
          refine KT.step rfl rfl (K.storeSnd rfl rfl yr hmr Try.size3) ?_
          refine KT.nil ?_
          refine blockK_n ?_
          refine thenK_n ?_
          refine KC.region ?_
          refine KT.step rfl rfl (K.add rfl rfl (wrap_id (by omega))) ?_
          refine KT.step rfl rfl (K.move rfl) ?_
          refine KT.nil ?_
          refine thenK_n ?_
          refine ⟨(σ1.set id ⟨((r.set m (dbl r[m])).flatMap c2).map .d, 0⟩, r.set m (dbl r[m]), m + 1), ⟨by simp only; omega, (List.getElem?_set_ne (by omega)).trans yT1, (List.getElem?_set_ne (fun e => hne (by rw [e]; rfl))).trans yx1, List.getElem?_set_self (lt_of_get yr), ?_, ?_⟩, by simp only; omega, rfl, by simp [Go.Vm.look, extK]⟩
          · have h := hX1.wr (k := i) (id := id) (r := r.set m (dbl r[m])) (by omega) (by rw [List.length_set]; exact hRl) (by rw [ey]; rfl) (by rw [List.length_set, List.getElem_set_self])
            rw [List.set_set] at h
            exact h
          · have eA : ((J[i].take m).map dbl).length = m := by rw [List.length_map, List.length_take]; omega
            simp only
            rw [hrg, hre, List.set_append_right _ _ (by omega), eA, Nat.sub_self, List.drop_eq_getElem_cons hml, List.set_cons_zero, List.take_succ_eq_append_getElem hml, List.map_append, List.append_assoc]; rfl
        · skip
          replace hc61 := of_decide_eq_false hc61
          refine KC.exit ?_
          refine thenK_x ?_
          refine thenK_x ?_
          refine blockK_e ?_
          refine blockK_n ?_
          refine thenK_n ?_
          refine KC.region ?_
          refine KT.step rfl rfl (K.add rfl rfl (wrap_id (by omega))) ?_
          refine KT.step rfl rfl (K.move rfl) ?_
          refine KT.nil ?_
          refine thenK_n ?_
          have er : r = J[i].map dbl := by rw [hre, List.take_of_length_le (by omega), List.drop_eq_nil_of_le (by omega), List.append_nil]
          have eS : (dblJ (J.take i) ++ J.drop i).set i r = dblJ (J.take (i + 1)) ++ J.drop (i + 1) := by
            have eA : (dblJ (J.take i)).length = i := by rw [dblJ, List.length_map, List.length_take]; omega
            rw [er, List.set_append_right _ _ (by omega), eA, Nat.sub_self, List.drop_eq_getElem_cons hil, List.set_cons_zero, List.take_succ_eq_append_getElem hil]
            show _ = List.map (List.map dbl) (J.take i ++ [J[i]]) ++ _
            rw [List.map_append, List.append_assoc]; rfl
          refine ⟨(σ1, i + 1), ⟨by simp only; omega, yT1, yx1, ?_⟩, by simp only; omega, rfl, by simp [Go.Vm.look, extK]⟩
          simp only
          rw [← eS]; exact hX1
      · skip
        replace hc55 := of_decide_eq_false hc55
        have eF : dblJ (J.take i) ++ J.drop i = dblJ J := by rw [List.take_of_length_le (by omega), List.drop_eq_nil_of_le (by omega), List.append_nil]
        rw [eF] at hX
        have hdJ : dblJ J ≠ [] := fun h => hJne (by simpa [dblJ] using h)
        have hd1 := deepen_agg2 (k := 3) (a := DI N) (hX.deep (k := 2) hdJ)
        have hdeep : ([aggX [.d (DI N), .osl ix 0 J.length 1 J.length false]]).mapM (deepen (freezeAll σ0) 6) = some [.agg [DI N, shD (dblJ J)]] := by rw [List.mapM_cons, hd1]; rfl
        have hdeep2 : ([aggX [.d (DI N), .osl ix 0 J.length 1 J.length false], .d (rows12 l ld)]).mapM (deepen (freezeAll σ0) 6) = some [.agg [DI N, shD (dblJ J)], rows12 l ld] := by rw [List.mapM_cons, hd1, List.mapM_cons]; rfl
        have zT : (freezeIds σ0 (List.range σ0.length))[T]? = some ⟨[.d (DI N), .osl ix 0 J.length 1 J.length false], 1⟩ := by rw [freeze_range]; simp [freezeAll, yT]
        refine KC.exit ?_
        refine thenK_x ?_
        refine thenK_x ?_
        refine blockK_e ?_
        refine thenK_n ?_
        refine KC.seq ?_
        refine KC.region ?_
        refine KT.step rfl rfl (K.loadOAgg (m := 2) (ob := ⟨[.d (DI N), .osl ix 0 J.length 1 J.length false], 0⟩) rfl yT (by simp) Try.agg32 Try.size32 (by simp)) ?_
        refine KT.step rfl rfl (K.callZ (xs := [aggX [.d (DI N), .osl ix 0 J.length 1 J.length false]]) (ds := [.agg [DI N, shD (dblJ J)]]) (List.range σ0.length) 6 rfl plainTry_24 (by rw [freeze_range]; exact hdeep) hbest) ?_
        refine KT.step rfl rfl (K.move rfl) ?_
        refine KT.step rfl rfl (K.extract rfl rfl) ?_
        refine KT.step rfl rfl (K.extract rfl rfl) ?_
        refine KT.step rfl rfl (K.extract rfl rfl) ?_
        refine KT.step rfl rfl (K.assign rfl) ?_
        refine KT.step rfl rfl (K.assign rfl) ?_
        refine KT.step rfl rfl (K.assign rfl) ?_
        refine KT.nil ?_
        refine thenK_n ?_
        refine KC.seq ?_
        refine KC.draw Try.mixed ?_
        refine KT.step rfl rfl (K.loadOAgg (m := 2) (ob := ⟨[.d (DI N), .osl ix 0 J.length 1 J.length false], 1⟩) rfl zT (by simp) Try.agg32 Try.size32 (by simp)) ?_
        refine KT.step rfl rfl (K.move rfl) ?_
        refine KT.step rfl rfl (K.call1 rfl plainTry_18 (rows18 hm hll (getD_rows hlr))) ?_
        refine KT.step rfl rfl (K.callZ (xs := [aggX [.d (DI N), .osl ix 0 J.length 1 J.length false], .d (rows12 l ld)]) (ds := [.agg [DI N, shD (dblJ J)], rows12 l ld]) [] 6 rfl plainTry_20 (by rw [freezeIds_nil, freeze_range]; exact hdeep2) hmak) ?_
        refine KT.step rfl rfl (K.move rfl) ?_
        refine KT.step rfl rfl (K.extract rfl rfl) ?_
        refine KT.step rfl rfl (K.extract rfl rfl) ?_
        refine KT.step rfl rfl (K.assign rfl) ?_
        refine KT.step rfl rfl (K.assign rfl) ?_
        refine KT.nil ?_
        refine ⟨by kernel_rfl, ?_⟩
        refine thenK_n ?_
        refine KC.seq ?_
        refine KC.seq ?_
        refine KC.region ?_
        refine KT.step rfl rfl (K.move rfl) ?_
        refine KT.step rfl rfl (K.eql rfl rfl) ?_
        refine KT.nil ?_
        refine thenK_n ?_
        refine KC.cond rfl (fun hc87 => ?_) (fun hc87 => ?_)
        · skip
          replace hc87 := of_decide_eq_true hc87
          refine KC.seq ?_
          refine KC.region ?_
          refine KT.step rfl rfl (K.call0 plainTry_23 (awake23)) ?_
          refine KT.step rfl rfl (K.assign rfl) ?_
          refine KT.nil ?_
          refine thenK_n ?_
          refine KC.ret ?_
          refine thenK_r ?_
          exact ⟨.inl rfl, _, rfl, fin_d rfl⟩
        · skip
          replace hc87 := of_decide_eq_false hc87
          have he0 : e ≠ 2 := hc87
          obtain ⟨rfl, rfl, rfl, rfl⟩ := he.resolve_left he0
          refine KC.skip ?_
          refine thenK_n ?_
          refine KC.seq ?_
          refine KC.region ?_
          refine KT.step rfl rfl (K.move rfl) ?_
          refine KT.step rfl rfl (K.eql rfl rfl) ?_
          refine KT.step rfl rfl (K.move rfl) ?_
          refine KT.bcase (fun hb91 => ?_) (fun hb91 => ?_)
          · skip
            replace hb91 := of_decide_eq_true hb91
            refine KT.step rfl rfl (K.move rfl) ?_
            refine KT.step rfl rfl (K.move rfl) ?_
            refine KT.step rfl rfl (K.mul rfl rfl (wrap_id (by omega))) ?_
            refine KT.step rfl rfl (K.eql rfl rfl) ?_
            refine KT.step rfl rfl (K.pick rfl (fun _ => rfl) (fun h => by cases h)) ?_
            refine KT.step rfl rfl (K.move rfl) ?_
            refine KT.bcase (fun hb97 => ?_) (fun hb97 => ?_)
            · skip
              replace hb97 := of_decide_eq_true hb97
              refine KT.step rfl rfl (K.move rfl) ?_
              refine KT.step rfl rfl (K.move rfl) ?_
              refine KT.step rfl rfl (K.eql rfl rfl) ?_
              refine KT.step rfl rfl (K.pick rfl (fun _ => rfl) (fun h => by cases h)) ?_
              refine KT.step rfl rfl (K.move rfl) ?_
              refine KT.bcase (fun hb102 => ?_) (fun hb102 => ?_)
              · skip
                replace hb102 := of_decide_eq_true hb102
                refine KT.step rfl rfl (K.move rfl) ?_
                refine KT.step rfl rfl (K.move rfl) ?_
                refine KT.step rfl rfl (K.mul rfl rfl (wrap_id (by omega))) ?_
                refine KT.step rfl rfl (K.eql rfl rfl) ?_
                refine KT.step rfl rfl (K.pick rfl (fun _ => rfl) (fun h => by cases h)) ?_
                refine KT.step rfl rfl (K.move rfl) ?_
                refine KT.bcase (fun hb108 => ?_) (fun hb108 => ?_)
                · skip
                  replace hb108 := of_decide_eq_true hb108
                  refine KT.step rfl rfl (K.call0 plainTry_23 (awake23)) ?_
                  refine KT.step rfl rfl (K.pick rfl (fun _ => rfl) (fun h => by cases h)) ?_
                  refine KT.step rfl rfl (K.assign rfl) ?_
                  refine KT.nil ?_
                  refine thenK_n ?_
                  refine KC.ret ?_
                  exact ⟨.inl rfl, _, rfl, fin_d rfl⟩
                · skip
                  exact absurd (by omega) (of_decide_eq_false hb108)
              · skip
                exact absurd rfl (of_decide_eq_false hb102)
            · skip
              exact absurd (by omega) (of_decide_eq_false hb97)
          · skip
            exact absurd rfl (of_decide_eq_false hb91)
set_option maxRecDepth 10000 in
theorem law15_no {N : Int} {jd : DV} {J : List (List (Int × Int))} (hd : JbD jd J) (hl : J.length ≤ 9223372036854775807) (hr : ∀ j ∈ J, j.length ≤ 9223372036854775807) {ld : DV} {l : List (List Int)} (hm : Mat ld l) (hll : l.length ≤ 9223372036854775807) (hlr : ∀ r ∈ l, r.length ≤ 9223372036854775807) (hb : shopB N J = false) : DeepCall Try.prog 15 [.agg [DI N, jd], ld] (DB true) := by
  refine deepCall_K 5 Try.func15 rfl (Nat.le_of_ble_eq_true rfl) fun M W0 => ?_
  refine KC.seq ?_
  refine KC.region ?_
  refine KT.step rfl rfl (K.box rfl) ?_
  refine KT.step rfl rfl (K.assign rfl) ?_
  refine KT.nil ?_
  refine thenK_n ?_
  refine KC.seq ?_
  refine KC.region ?_
  refine KT.step rfl rfl (K.loadOA [DI N, jd] rfl rfl (by decide) Try.agg24 Try.size24 rfl) ?_
  refine KT.step rfl rfl (K.call1 rfl plainTry_17 (of17 hd hl hr)) ?_
  refine KT.step rfl rfl (K.call1 rfl plainTry_24 (best_cut_no hb)) ?_
  refine KT.step rfl rfl (K.move rfl) ?_
  refine KT.step rfl rfl (K.extract rfl rfl) ?_
  refine KT.step rfl rfl (K.extract rfl rfl) ?_
  refine KT.step rfl rfl (K.extract rfl rfl) ?_
  refine KT.step rfl rfl (K.assign rfl) ?_
  refine KT.step rfl rfl (K.assign rfl) ?_
  refine KT.step rfl rfl (K.assign rfl) ?_
  refine KT.nil ?_
  refine thenK_n ?_
  refine KC.seq ?_
  refine KC.region ?_
  refine KT.step rfl rfl (K.loadOA [DI N, jd] rfl rfl (by decide) Try.agg24 Try.size24 rfl) ?_
  refine KT.step rfl rfl (K.call1 rfl plainTry_17 (of17 hd hl hr)) ?_
  refine KT.step rfl rfl (K.move rfl) ?_
  refine KT.step rfl rfl (K.call1 rfl plainTry_18 (rows18 hm hll (getD_rows hlr))) ?_
  refine KT.step rfl rfl (K.call2 rfl rfl plainTry_20 ((by have h := makespan_cut (N := N) hd hl hr hm hll hlr; rw [stE_no hb] at h; exact h))) ?_
  refine KT.step rfl rfl (K.move rfl) ?_
  refine KT.step rfl rfl (K.extract rfl rfl) ?_
  refine KT.step rfl rfl (K.extract rfl rfl) ?_
  refine KT.step rfl rfl (K.assign rfl) ?_
  refine KT.step rfl rfl (K.assign rfl) ?_
  refine KT.nil ?_
  refine thenK_n ?_
  refine KC.seq ?_
  refine KC.seq ?_
  refine KC.region ?_
  refine KT.step rfl rfl (K.move rfl) ?_
  refine KT.step rfl rfl (K.neq rfl rfl) ?_
  refine KT.step rfl rfl (K.move rfl) ?_
  refine KT.bcase (fun hb35 => ?_) (fun hb35 => ?_)
  · skip
    replace hb35 := of_decide_eq_true hb35
    refine KT.skip rfl rfl ?_
    refine KT.skip rfl rfl ?_
    refine KT.skip rfl rfl ?_
    refine KT.step rfl rfl (K.pick rfl (fun _ => rfl) (fun h => by cases h)) ?_
    refine KT.nil ?_
    refine thenK_n ?_
    refine KC.cond rfl (fun hc39 => ?_) (fun hc39 => ?_)
    · skip
      refine KC.seq ?_
      refine KC.region ?_
      refine KT.step rfl rfl (K.move rfl) ?_
      refine KT.step rfl rfl (K.eql rfl rfl) ?_
      refine KT.step rfl rfl (K.move rfl) ?_
      refine KT.bcase (fun hb42 => ?_) (fun hb42 => ?_)
      · skip
        replace hb42 := of_decide_eq_true hb42
        refine KT.step rfl rfl (K.move rfl) ?_
        refine KT.step rfl rfl (K.eql rfl rfl) ?_
        refine KT.step rfl rfl (K.pick rfl (fun _ => rfl) (fun h => by cases h)) ?_
        refine KT.step rfl rfl (K.move rfl) ?_
        refine KT.bcase (fun hb46 => ?_) (fun hb46 => ?_)
        · skip
          replace hb46 := of_decide_eq_true hb46
          refine KT.step rfl rfl (K.call0 plainTry_23 (awake23)) ?_
          refine KT.step rfl rfl (K.pick rfl (fun _ => rfl) (fun h => by cases h)) ?_
          refine KT.step rfl rfl (K.assign rfl) ?_
          refine KT.nil ?_
          refine thenK_n ?_
          refine KC.ret ?_
          refine thenK_r ?_
          exact ⟨.inl rfl, _, rfl, fin_d rfl⟩
        · skip
          exact absurd hb46 (by decide)
      · skip
        exact absurd hb42 (by decide)
    · cases hc39
  · skip
    exact absurd hb35 (by decide)
theorem sp_small {N : Int} {J : List (List (Int × Int))} {l : List (List Int)} : 0 ≤ spE N J l ∧ spE N J l ≤ 1000000000000 := by
  unfold spE
  cases h : stH N J l with
  | none => exact ⟨Int.le_refl 0, by show (0 : Int) ≤ 1000000000000; decide⟩
  | some hs =>
    obtain ⟨a, b, hh⟩ := stH_some h
    have hK := stOk a b
    have hbd := hds_bd hK.tms hK.inn hh hK.n9 hK.len
    refine ⟨span_nn _ _, span_le.2 ⟨by decide, fun i h0 h1 => ?_⟩⟩
    have e1 := gt_bd hbd (by decide) i
    have e2 := tm_bd hK.tms h0 h1
    omega
theorem law15 {N : Int} {jd : DV} {J : List (List (Int × Int))} (hd : JbD jd J) (hl : J.length ≤ 9223372036854775807) (hr : ∀ j ∈ J, j.length ≤ 9223372036854775807) {ld : DV} {l : List (List Int)} (hm : Mat ld l) (hll : l.length ≤ 9223372036854775807) (hlr : ∀ r ∈ l, r.length ≤ 9223372036854775807) : DeepCall Try.prog 15 [.agg [DI N, jd], ld] (DB true) := by
  cases hb : shopB N J with
  | false => exact law15_no hd hl hr hm hll hlr hb
  | true =>
    have hS := shopB_iff.1 hb
    obtain ⟨hs, hB, _, hn, _⟩ := bs_ok hb
    have hdl : (dblJ J).length = J.length := by rw [dblJ, List.length_map]
    have hdr : ∀ j ∈ dblJ J, j.length ≤ 4 := fun j hj => by
      obtain ⟨q, hq, rfl⟩ := List.mem_map.1 hj
      rw [List.length_map]; exact (hS.jb q hq).2.1
    have h3 := hS.j3
    have hbest := bestT (N := N) (shD_ok (dblJ J)) (by omega) (fun j hj => by have := hdr j hj; omega)
    have hmak := makespan20 (N := N) (shD_ok (dblJ J)) (by omega) (fun j hj => by have := hdr j hj; omega) (rows12_mat hm) (by have := cutL_len l; unfold cutL at this; omega) (fun r hr => by have := cutL_row r hr; omega)
    rw [show (l.take 6).map (List.take 12) = cutL l from rfl] at hmak
    refine law15_ok hd hl hr hm hll hlr hS ⟨by rw [hn]; exact span_nn _ _, by rw [hn]; have := span_small hB; omega⟩ sp_small hbest hmak ?_
    cases hb2 : shopB N (dblJ J) with
    | false => exact .inl (by unfold bsE; rw [hb2]; rfl)
    | true =>
      have e1 := cut_spE (N := N) (J := dblJ J) (l := l)
      have e2 := (cut_st (N := N) (J := dblJ J) (l := l)).2
      rw [cutJ_ok hb2] at e1 e2
      exact .inr ⟨by unfold bsE; rw [hb2]; rfl, bsN_dbl hb hb2, e2.trans (stE_dbl hb hb2), e1.trans (spE_dbl hb hb2)⟩
end Go.Proofs.Ytdilkpcnkhedlaa

