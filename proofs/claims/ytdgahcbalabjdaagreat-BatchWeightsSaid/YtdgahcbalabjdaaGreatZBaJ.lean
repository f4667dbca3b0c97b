import Derived.Test.YtdgahcbalabjdaaGreatZBaI
import Derived.Test.YtdgahcbalabjdaaGreatCyN
/-
  Batch: the reference: shops, operations, arcs.
-/
namespace Go.Proofs.YtdgahcbalabjdaaGreat
open Go.Vm Go.Ht Go.Ba
theorem plainTryz_42 : plainFn Tryz.prog 42 = true := by kernel_rfl
theorem plainTryz_23 : plainFn Tryz.prog 23 = true := by kernel_rfl
theorem plainTryz_45 : plainFn Tryz.prog 45 = true := by kernel_rfl
theorem Tryz.agg24 : isAggT Tryz.prog 24 = some true := by kernel_rfl
theorem Tryz.size24 : sizeT Tryz.prog 24 = some 2 := by kernel_rfl
theorem Tryz.fld24_0 : fieldT Tryz.prog 24 0 = some { name := "Machines", type := 3, offset := 0, embedded := false, tag := "", pkgPath := "", byteOffset := 0 } := by kernel_rfl
theorem Tryz.fld24_1 : fieldT Tryz.prog 24 1 = some { name := "Jobs", type := 22, offset := 1, embedded := false, tag := "", pkgPath := "", byteOffset := 8 } := by kernel_rfl
theorem Tryz.agg59 : isAggT Tryz.prog 59 = some true := by kernel_rfl
theorem Tryz.size59 : sizeT Tryz.prog 59 = some 2 := by kernel_rfl
theorem Tryz.zero59 : zeroT Tryz.prog 59 = some (.agg #[.int .i64 0, .int .i64 0]) := by kernel_rfl
theorem Tryz.fld59_0 : fieldT Tryz.prog 59 0 = some { name := "Machine", type := 3, offset := 0, embedded := false, tag := "", pkgPath := "", byteOffset := 0 } := by kernel_rfl
theorem Tryz.fld59_1 : fieldT Tryz.prog 59 1 = some { name := "Time", type := 3, offset := 1, embedded := false, tag := "", pkgPath := "", byteOffset := 8 } := by kernel_rfl
theorem Tryz.agg57 : isAggT Tryz.prog 57 = some false := by kernel_rfl
theorem Tryz.size57 : sizeT Tryz.prog 57 = some 1 := by kernel_rfl
theorem Tryz.agg22 : isAggT Tryz.prog 22 = some false := by kernel_rfl
theorem Tryz.size22 : sizeT Tryz.prog 22 = some 1 := by kernel_rfl
theorem Tryz.agg65 : isAggT Tryz.prog 65 = some true := by kernel_rfl
theorem Tryz.size65 : sizeT Tryz.prog 65 = some 2 := by kernel_rfl
theorem Tryz.zero65 : zeroT Tryz.prog 65 = some (.agg #[.int .i64 0, .int .i64 0]) := by kernel_rfl
theorem build117_2 (x y : Int) : opBuild Tryz.prog 65 [(0, .d (DI x)), (1, .d (DI y))] = some (.d (.agg [DI x, DI y])) := by kernel_rfl
set_option maxHeartbeats 2000000 in
set_option maxRecDepth 10000 in
theorem rvalid24 {N : Int} {jd : DV} {J : List (List (Int × Int))} (hd : JbD jd J) (hl : J.length ≤ 9223372036854775807) (hr : ∀ j ∈ J, j.length ≤ 9223372036854775807) : DeepCall Tryz.prog 42 [.agg [DI N, jd]] (DB (shopB N J)) := by
  refine deepCall_K 5 Tryz.func42 rfl (Nat.le_of_ble_eq_true rfl) fun M W0 => ?_
  refine KC.seq ?_
  refine KC.region ?_
  refine KT.step rfl rfl (K.box rfl) ?_
  refine KT.step rfl rfl (K.assign rfl) ?_
  refine KT.nil ?_
  refine thenK_n ?_
  refine KC.seq ?_
  refine KC.region ?_
  refine KT.step rfl rfl (K.assign rfl) ?_
  refine KT.nil ?_
  refine thenK_n ?_
  refine KC.seq ?_
  refine KC.seq ?_
  refine KC.region ?_
  refine KT.step rfl rfl (K.fieldAddrO rfl Tryz.fld24_1 Tryz.size22) ?_
  refine KT.step rfl rfl (K.loadO rfl rfl (by simp) rfl Tryz.agg22) ?_
  refine KT.step rfl rfl (K.len rfl hd Tryz.underlying22) ?_
  refine KT.step rfl rfl (K.move rfl) ?_
  refine KT.nil ?_
  refine thenK_n ?_
  refine KC.block ?_
  refine KC.loop (fun p : List VObj × Int × Nat => p.1) (fun p => [(1, .optr 0 0), (11, .d jd), (12, .d (DI (J.length : Nat))), (3, .d (DI p.2.1)), (13, .d (DI (p.2.2 : Nat)))]) (fun p => p.2.2 ≤ J.length ∧ p.1[0]? = some ⟨[.d (DI N), .d jd], 0⟩ ∧ (J.length ≤ 1000 → p.2.1 = ((J.take p.2.2).flatten.length : Nat)) ∧ ∀ j ∈ J.take p.2.2, jobB N j = true) (fun p => J.length - p.2.2) (_, 0, 0) ⟨Nat.zero_le _, rfl, fun _ => rfl, fun j hj => by simp at hj⟩ rfl (by simp [Go.Vm.look, extK, enterK]) ?_
  intro p hp
  obtain ⟨σ0, z, i⟩ := p
  obtain ⟨hi, y0, hz, hall⟩ := hp
  simp only at hi y0 hz hall ⊢
  refine KC.seq ?_
  refine KC.region ?_
  refine KT.step rfl rfl (K.lss rfl rfl) ?_
  refine KT.nil ?_
  refine thenK_n ?_
  refine KC.seq ?_
  refine KC.cond rfl (fun hc14 => ?_) (fun hc14 => ?_)
  · skip
    replace hc14 := of_decide_eq_true hc14
    have hil : i < J.length := by omega
    refine KC.skip ?_
    refine thenK_n ?_
    refine KC.seq ?_
    refine KC.block ?_
    refine KC.seq ?_
    refine KC.region ?_
    refine KT.idx rfl rfl rfl hd rfl (by omega) Tryz.underlying22 Tryz.size57 fun c15 cs15 hj => ?_
    refine KT.step rfl rfl (K.load rfl Tryz.agg57) ?_
    refine KT.step rfl rfl (K.assign rfl) ?_
    refine KT.nil ?_
    refine thenK_n ?_
    refine KC.seq ?_
    refine KC.seq ?_
    refine KC.region ?_
    refine KT.step rfl rfl (K.move rfl) ?_
    refine KT.step rfl rfl (K.lenF rfl hj Tryz.underlying57) ?_
    refine KT.step rfl rfl (K.lss rfl rfl) ?_
    refine KT.step rfl rfl (K.move rfl) ?_
    refine KT.bcase (fun hb20 => ?_) (fun hb20 => ?_)
    · skip
      replace hb20 := of_decide_eq_true hb20
      refine KT.skip rfl rfl ?_
      refine KT.skip rfl rfl ?_
      refine KT.skip rfl rfl ?_
      refine KT.step rfl rfl (K.pick rfl (fun _ => rfl) (fun h => by cases h)) ?_
      refine KT.nil ?_
      refine thenK_n ?_
      refine KC.cond rfl (fun hc24 => ?_) (fun hc24 => ?_)
      · skip
        refine KC.seq ?_
        refine KC.region ?_
        refine KT.step rfl rfl (K.assign rfl) ?_
        refine KT.nil ?_
        refine thenK_n ?_
        refine KC.ret ?_
        refine thenK_r ?_
        refine blockK_r ?_
        refine thenK_r ?_
        refine thenK_r ?_
        refine blockK_r ?_
        refine thenK_r ?_
        exact ⟨.inl rfl, _, rfl, fin_b (shopB_no (List.getElem_mem hil) (jobB_len (by omega)))⟩
      · cases hc24
    · skip
      replace hb20 := of_decide_eq_false hb20
      refine KT.step rfl rfl (K.move rfl) ?_
      refine KT.step rfl rfl (K.lenF rfl hj Tryz.underlying57) ?_
      refine KT.step rfl rfl (K.gtr rfl rfl) ?_
      refine KT.step rfl rfl (K.pick rfl (fun h => by cases h) (fun _ => rfl)) ?_
      refine KT.nil ?_
      refine thenK_n ?_
      refine KC.cond rfl (fun hc24 => ?_) (fun hc24 => ?_)
      · skip
        replace hc24 := of_decide_eq_true hc24
        refine KC.seq ?_
        refine KC.region ?_
        refine KT.step rfl rfl (K.assign rfl) ?_
        refine KT.nil ?_
        refine thenK_n ?_
        refine KC.ret ?_
        refine thenK_r ?_
        refine blockK_r ?_
        refine thenK_r ?_
        refine thenK_r ?_
        refine blockK_r ?_
        refine thenK_r ?_
        exact ⟨.inl rfl, _, rfl, fin_b (shopB_no (List.getElem_mem hil) (jobB_len (by omega)))⟩
      · skip
        replace hc24 := of_decide_eq_false hc24
        have hj14 : 1 ≤ J[i].length ∧ J[i].length ≤ 4 := by omega
        refine KC.skip ?_
        refine thenK_n ?_
        refine KC.seq ?_
        refine KC.region ?_
        refine KT.step rfl rfl (K.move rfl) ?_
        refine KT.step rfl rfl (K.lenF rfl hj Tryz.underlying57) ?_
        refine KT.step rfl rfl (K.move rfl) ?_
        refine KT.nil ?_
        refine thenK_n ?_
        refine KC.block ?_
        refine KC.loop (fun p : List VObj × Int × Nat => p.1) (fun p => [(1, .optr 0 0), (11, .d jd), (12, .d (DI (J.length : Nat))), (3, .d (DI p.2.1)), (13, .d (DI (i : Nat))), (5, .d c15), (25, .d c15), (26, .d (DI (J[i].length : Nat))), (27, .d (DI (p.2.2 : Nat)))]) (fun p => p.2.2 ≤ J[i].length ∧ p.1[0]? = some ⟨[.d (DI N), .d jd], 0⟩ ∧ (J.length ≤ 1000 → p.2.1 = (((J.take i).flatten.length + p.2.2) : Nat)) ∧ (∀ o ∈ J[i].take p.2.2, opB N o = true) ∧ ((J[i].take p.2.2).map Prod.fst).Nodup) (fun p => J[i].length - p.2.2) (_, z, 0) ⟨Nat.zero_le _, y0, fun h => by simpa using hz h, fun o ho => by simp at ho, by simp⟩ rfl (by simp [Go.Vm.look, extK, enterK]) ?_
        intro p hp
        obtain ⟨σ1, z1, k⟩ := p
        obtain ⟨hk, w0, hz1, hop2, hnd⟩ := hp
        simp only at hk w0 hz1 hop2 hnd ⊢
        refine KC.seq ?_
        refine KC.region ?_
        refine KT.step rfl rfl (K.lss rfl rfl) ?_
        refine KT.nil ?_
        refine thenK_n ?_
        refine KC.seq ?_
        refine KC.cond rfl (fun hc28 => ?_) (fun hc28 => ?_)
        · skip
          replace hc28 := of_decide_eq_true hc28
          have hkl : k < J[i].length := by omega
          refine KC.skip ?_
          refine thenK_n ?_
          refine KC.seq ?_
          refine KC.block ?_
          refine KC.seq ?_
          refine KC.region ?_
          refine KT.step rfl rfl (K.move rfl) ?_
          refine KT.step rfl rfl (K.idxF c2_len (m := k) rfl hj rfl (by omega) Tryz.underlying57 Tryz.size59) ?_
          refine KT.step rfl rfl (K.loadFl (cs := c2 J[i][k]) rfl rfl Tryz.agg59 Tryz.size59) ?_
          refine KT.step rfl rfl (K.alloc Tryz.zero59) ?_
          refine KT.step rfl rfl (K.assign rfl) ?_
          refine KT.storeL (cs := (c2 J[i][k]).map .d) rfl rfl rfl rfl rfl rfl rfl Tryz.size59 ?_
          have u0 := w0
          refine KT.nil ?_
          refine thenK_n ?_
          refine KC.seq ?_
          refine KC.seq ?_
          refine KC.region ?_
          refine KT.step rfl rfl (K.fieldAddrO rfl Tryz.fld59_0 Tryz.size3) ?_
          refine KT.step rfl rfl (K.loadO rfl (List.getElem?_concat_length ..) (by simp) rfl Tryz.agg3) ?_
          refine KT.step rfl rfl (K.lss rfl rfl) ?_
          refine KT.step rfl rfl (K.move rfl) ?_
          refine KT.bcase (fun hb35 => ?_) (fun hb35 => ?_)
          · skip
            replace hb35 := of_decide_eq_true hb35
            refine KT.skip rfl rfl ?_
            refine KT.skip rfl rfl ?_
            refine KT.skip rfl rfl ?_
            refine KT.skip rfl rfl ?_
            refine KT.skip rfl rfl ?_
            refine KT.step rfl rfl (K.pick rfl (fun _ => rfl) (fun h => by cases h)) ?_
            refine KT.step rfl rfl (K.move rfl) ?_
            refine KT.skip rfl rfl ?_
            refine KT.skip rfl rfl ?_
            refine KT.skip rfl rfl ?_
            refine KT.step rfl rfl (K.pick rfl (fun _ => rfl) (fun h => by cases h)) ?_
            refine KT.step rfl rfl (K.move rfl) ?_
            refine KT.skip rfl rfl ?_
            refine KT.skip rfl rfl ?_
            refine KT.skip rfl rfl ?_
            refine KT.step rfl rfl (K.pick rfl (fun _ => rfl) (fun h => by cases h)) ?_
            refine KT.nil ?_
            refine thenK_n ?_
            refine KC.cond rfl (fun hc51 => ?_) (fun hc51 => ?_)
            · skip
              refine KC.seq ?_
              refine KC.region ?_
              refine KT.step rfl rfl (K.assign rfl) ?_
              refine KT.nil ?_
              refine thenK_n ?_
              refine KC.ret ?_
              refine thenK_r ?_
              refine blockK_r ?_
              refine thenK_r ?_
              refine thenK_r ?_
              refine blockK_r ?_
              refine blockK_r ?_
              refine thenK_r ?_
              refine thenK_r ?_
              refine blockK_r ?_
              refine thenK_r ?_
              exact ⟨.inl rfl, _, rfl, fin_b (shopB_no (List.getElem_mem hil) (jobB_no1 (List.getElem_mem hkl) (by rw [← Bool.not_eq_true]; simp only [opB, Bool.and_eq_true, decide_eq_true_eq]; omega)))⟩
            · cases hc51
          · skip
            replace hb35 := of_decide_eq_false hb35
            refine KT.step rfl rfl (K.fieldAddrO rfl Tryz.fld59_0 Tryz.size3) ?_
            refine KT.step rfl rfl (K.loadO rfl (List.getElem?_concat_length ..) (by simp) rfl Tryz.agg3) ?_
            refine KT.step rfl rfl (K.fieldAddrO rfl Tryz.fld24_0 Tryz.size3) ?_
            refine KT.step rfl rfl (K.loadO rfl (get_left u0) (by simp) rfl Tryz.agg3) ?_
            refine KT.step rfl rfl (K.geq rfl rfl) ?_
            refine KT.step rfl rfl (K.pick rfl (fun h => by cases h) (fun _ => rfl)) ?_
            refine KT.step rfl rfl (K.move rfl) ?_
            refine KT.bcase (fun hb42 => ?_) (fun hb42 => ?_)
            · skip
              replace hb42 := of_decide_eq_true hb42
              refine KT.skip rfl rfl ?_
              refine KT.skip rfl rfl ?_
              refine KT.skip rfl rfl ?_
              refine KT.step rfl rfl (K.pick rfl (fun _ => rfl) (fun h => by cases h)) ?_
              refine KT.step rfl rfl (K.move rfl) ?_
              refine KT.skip rfl rfl ?_
              refine KT.skip rfl rfl ?_
              refine KT.skip rfl rfl ?_
              refine KT.step rfl rfl (K.pick rfl (fun _ => rfl) (fun h => by cases h)) ?_
              refine KT.nil ?_
              refine thenK_n ?_
              refine KC.cond rfl (fun hc51 => ?_) (fun hc51 => ?_)
              · skip
                refine KC.seq ?_
                refine KC.region ?_
                refine KT.step rfl rfl (K.assign rfl) ?_
                refine KT.nil ?_
                refine thenK_n ?_
                refine KC.ret ?_
                refine thenK_r ?_
                refine blockK_r ?_
                refine thenK_r ?_
                refine thenK_r ?_
                refine blockK_r ?_
                refine blockK_r ?_
                refine thenK_r ?_
                refine thenK_r ?_
                refine blockK_r ?_
                refine thenK_r ?_
                exact ⟨.inl rfl, _, rfl, fin_b (shopB_no (List.getElem_mem hil) (jobB_no1 (List.getElem_mem hkl) (by rw [← Bool.not_eq_true]; simp only [opB, Bool.and_eq_true, decide_eq_true_eq]; omega)))⟩
              · cases hc51
            · skip
              replace hb42 := of_decide_eq_false hb42
              refine KT.step rfl rfl (K.fieldAddrO rfl Tryz.fld59_1 Tryz.size3) ?_
              refine KT.step rfl rfl (K.loadO rfl (List.getElem?_concat_length ..) (by simp) rfl Tryz.agg3) ?_
              refine KT.step rfl rfl (K.lss rfl rfl) ?_
              refine KT.step rfl rfl (K.pick rfl (fun h => by cases h) (fun _ => rfl)) ?_
              refine KT.step rfl rfl (K.move rfl) ?_
              refine KT.bcase (fun hb47 => ?_) (fun hb47 => ?_)
              · skip
                replace hb47 := of_decide_eq_true hb47
                refine KT.skip rfl rfl ?_
                refine KT.skip rfl rfl ?_
                refine KT.skip rfl rfl ?_
                refine KT.step rfl rfl (K.pick rfl (fun _ => rfl) (fun h => by cases h)) ?_
                refine KT.nil ?_
                refine thenK_n ?_
                refine KC.cond rfl (fun hc51 => ?_) (fun hc51 => ?_)
                · skip
                  refine KC.seq ?_
                  refine KC.region ?_
                  refine KT.step rfl rfl (K.assign rfl) ?_
                  refine KT.nil ?_
                  refine thenK_n ?_
                  refine KC.ret ?_
                  refine thenK_r ?_
                  refine blockK_r ?_
                  refine thenK_r ?_
                  refine thenK_r ?_
                  refine blockK_r ?_
                  refine blockK_r ?_
                  refine thenK_r ?_
                  refine thenK_r ?_
                  refine blockK_r ?_
                  refine thenK_r ?_
                  exact ⟨.inl rfl, _, rfl, fin_b (shopB_no (List.getElem_mem hil) (jobB_no1 (List.getElem_mem hkl) (by rw [← Bool.not_eq_true]; simp only [opB, Bool.and_eq_true, decide_eq_true_eq]; omega)))⟩
                · cases hc51
              · skip
                replace hb47 := of_decide_eq_false hb47
                refine KT.step rfl rfl (K.fieldAddrO rfl Tryz.fld59_1 Tryz.size3) ?_
                refine KT.step rfl rfl (K.loadO rfl (List.getElem?_concat_length ..) (by simp) rfl Tryz.agg3) ?_
                refine KT.step rfl rfl (K.gtr rfl rfl) ?_
                refine KT.step rfl rfl (K.pick rfl (fun h => by cases h) (fun _ => rfl)) ?_
                refine KT.nil ?_
                refine thenK_n ?_
                refine KC.cond rfl (fun hc51 => ?_) (fun hc51 => ?_)
                · skip
                  replace hc51 := of_decide_eq_true hc51
                  refine KC.seq ?_
                  refine KC.region ?_
                  refine KT.step rfl rfl (K.assign rfl) ?_
                  refine KT.nil ?_
                  refine thenK_n ?_
                  refine KC.ret ?_
                  refine thenK_r ?_
                  refine blockK_r ?_
                  refine thenK_r ?_
                  refine thenK_r ?_
                  refine blockK_r ?_
                  refine blockK_r ?_
                  refine thenK_r ?_
                  refine thenK_r ?_
                  refine blockK_r ?_
                  refine thenK_r ?_
                  exact ⟨.inl rfl, _, rfl, fin_b (shopB_no (List.getElem_mem hil) (jobB_no1 (List.getElem_mem hkl) (by rw [← Bool.not_eq_true]; simp only [opB, Bool.and_eq_true, decide_eq_true_eq]; omega)))⟩
                · skip
                  replace hc51 := of_decide_eq_false hc51
                  have hop : opB N J[i][k] = true := by simp only [opB, Bool.and_eq_true, decide_eq_true_eq]; omega
                  refine KC.skip ?_
                  refine thenK_n ?_
                  refine KC.seq ?_
                  refine KC.seq ?_
                  refine KC.region ?_
                  refine KT.step rfl rfl (K.move rfl) ?_
                  refine KT.step rfl rfl (K.move rfl) ?_
                  refine KT.takeP (m := k) rfl rfl rfl hj rfl (by omega) Tryz.underlying57 Tryz.size59 fun r54 hr54 => ?_
                  refine KT.step rfl rfl (K.lenF rfl hr54 Tryz.underlying57) ?_
                  refine KT.step rfl rfl (K.move rfl) ?_
                  refine KT.nil ?_
                  refine thenK_n ?_
                  refine KC.block ?_
                  have w1 : (σ1 ++ [(⟨(c2 J[i][k]).map .d, 0⟩ : VObj)])[σ1.length]? = some ⟨(c2 J[i][k]).map .d, 0⟩ := (List.getElem?_concat_length ..)
                  have v00 : (σ1 ++ [(⟨(c2 J[i][k]).map .d, 0⟩ : VObj)])[0]? = some ⟨[.d (DI N), .d jd], 0⟩ := get_left w0
                  refine KC.loop (fun p : List VObj × Nat => p.1) (fun p => [(1, .optr 0 0), (11, .d jd), (12, .d (DI (J.length : Nat))), (3, .d (DI z1)), (13, .d (DI (i : Nat))), (5, .d c15), (25, .d c15), (26, .d (DI (J[i].length : Nat))), (27, .d (DI (k : Nat))), (7, .optr σ1.length 0), (54, .d r54), (55, .d (DI ((J[i].take k).length : Nat))), (56, .d (DI (p.2 : Nat)))]) (fun p => p.2 ≤ (J[i].take k).length ∧ p.1[0]? = some ⟨[.d (DI N), .d jd], 0⟩ ∧ p.1[σ1.length]? = some ⟨(c2 J[i][k]).map .d, 0⟩ ∧ ∀ q (h : q < (J[i].take k).length), q < p.2 → (J[i].take k)[q].1 ≠ J[i][k].1) (fun p => (J[i].take k).length - p.2) (_, 0) ⟨Nat.zero_le _, v00, w1, fun q h hq => absurd hq (Nat.not_lt_zero _)⟩ rfl (by simp [Go.Vm.look, extK, enterK]) ?_
                  intro p hp
                  obtain ⟨σ2, q⟩ := p
                  obtain ⟨hq, v0, w1, hno⟩ := hp
                  simp only at hq v0 w1 hno ⊢
                  refine KC.seq ?_
                  refine KC.region ?_
                  refine KT.step rfl rfl (K.lss rfl rfl) ?_
                  refine KT.nil ?_
                  refine thenK_n ?_
                  refine KC.seq ?_
                  refine KC.cond rfl (fun hc57 => ?_) (fun hc57 => ?_)
                  · skip
                    replace hc57 := of_decide_eq_true hc57
                    have hql : q < (J[i].take k).length := by omega
                    have hqk : (J[i].take k).length ≤ 4 := by rw [List.length_take]; omega
                    refine KC.skip ?_
                    refine thenK_n ?_
                    refine KC.seq ?_
                    refine KC.block ?_
                    refine KC.seq ?_
                    refine KC.region ?_
                    refine KT.step rfl rfl (K.idxF c2_len (m := q) rfl hr54 rfl (by omega) Tryz.underlying57 Tryz.size59) ?_
                    refine KT.step rfl rfl (K.loadFl (cs := c2 (J[i].take k)[q]) rfl rfl Tryz.agg59 Tryz.size59) ?_
                    refine KT.step rfl rfl (K.alloc Tryz.zero59) ?_
                    refine KT.storeL (cs := (c2 (J[i].take k)[q]).map .d) rfl rfl rfl rfl rfl rfl rfl Tryz.size59 ?_
                    refine KT.nil ?_
                    refine thenK_n ?_
                    refine KC.seq ?_
                    refine KC.region ?_
                    refine KT.step rfl rfl (K.fieldAddrO rfl Tryz.fld59_0 Tryz.size3) ?_
                    refine KT.step rfl rfl (K.loadO rfl (List.getElem?_concat_length ..) (by simp) rfl Tryz.agg3) ?_
                    refine KT.step rfl rfl (K.fieldAddrO rfl Tryz.fld59_0 Tryz.size3) ?_
                    refine KT.step rfl rfl (K.loadO rfl (get_left w1) (by simp) rfl Tryz.agg3) ?_
                    refine KT.step rfl rfl (K.eql rfl rfl) ?_
                    refine KT.nil ?_
                    refine thenK_n ?_
                    refine KC.cond rfl (fun hc64 => ?_) (fun hc64 => ?_)
                    · skip
                      replace hc64 := of_decide_eq_true hc64
                      refine KC.seq ?_
                      refine KC.region ?_
                      refine KT.step rfl rfl (K.assign rfl) ?_
                      refine KT.nil ?_
                      refine thenK_n ?_
                      refine KC.ret ?_
                      refine blockK_r ?_
                      refine thenK_r ?_
                      refine thenK_r ?_
                      refine blockK_r ?_
                      refine thenK_r ?_
                      refine blockK_r ?_
                      refine thenK_r ?_
                      refine thenK_r ?_
                      refine blockK_r ?_
                      refine blockK_r ?_
                      refine thenK_r ?_
                      refine thenK_r ?_
                      refine blockK_r ?_
                      refine thenK_r ?_
                      exact ⟨.inl rfl, _, rfl, fin_b (shopB_no (List.getElem_mem hil) (jobB_no2 hkl (List.mem_map.2 ⟨_, List.getElem_mem hql, hc64⟩)))⟩
                    · skip
                      replace hc64 := of_decide_eq_false hc64
                      refine KC.skip ?_
                      refine blockK_n ?_
                      refine thenK_n ?_
                      refine KC.region ?_
                      refine KT.step rfl rfl (K.add rfl rfl (wrap_id (by omega))) ?_
                      refine KT.step rfl rfl (K.move rfl) ?_
                      refine KT.nil ?_
                      refine thenK_n ?_
                      refine ⟨(σ2 ++ [⟨(c2 (J[i].take k)[q]).map .d, 0⟩], q + 1), ⟨by simp only; omega, get_left v0, get_left w1, fun q2 h hq2 => ?_⟩, by simp only; omega, rfl, by simp [Go.Vm.look, extK]⟩
                      by_cases e : q2 = q
                      · subst e; exact hc64
                      · exact hno q2 h (by omega)
                  · skip
                    replace hc57 := of_decide_eq_false hc57
                    refine KC.exit ?_
                    refine thenK_x ?_
                    refine thenK_x ?_
                    refine blockK_e ?_
                    refine thenK_n ?_
                    refine KC.region ?_
                    refine KT.step rfl rfl (K.move rfl) ?_
                    refine KT.step rfl rfl (K.add rfl rfl rfl) ?_
                    refine KT.step rfl rfl (K.assign rfl) ?_
                    refine KT.nil ?_
                    refine blockK_n ?_
                    refine thenK_n ?_
                    refine KC.region ?_
                    refine KT.step rfl rfl (K.add rfl rfl (wrap_id (by omega))) ?_
                    refine KT.step rfl rfl (K.move rfl) ?_
                    refine KT.nil ?_
                    refine thenK_n ?_
                    refine ⟨(σ2, IntKind.i64.wrap (z1 + 1), k + 1), ⟨by simp only; omega, v0, fun h => ?_, fun o ho => ?_, ?_⟩, by simp only; omega, rfl, by simp [Go.Vm.look, extK]⟩
                    · simp only
                      have e := hz1 h
                      have e2 := flat_le4 hall
                      have e3 : (J.take i).length ≤ J.length := by simp; omega
                      rw [e, wrap_id (by omega)]; omega
                    · rw [List.take_succ_eq_append_getElem hkl, List.mem_append, List.mem_singleton] at ho
                      rcases ho with ho | rfl
                      · exact hop2 o ho
                      · exact hop
                    · refine nodup_take hkl hnd fun hm => ?_
                      obtain ⟨o, ho, he⟩ := List.mem_map.1 hm
                      obtain ⟨q2, hq2, rfl⟩ := List.getElem_of_mem ho
                      exact hno q2 hq2 (by omega) he
        · skip
          replace hc28 := of_decide_eq_false hc28
          refine KC.exit ?_
          refine thenK_x ?_
          refine thenK_x ?_
          refine blockK_e ?_
          refine blockK_n ?_
          refine thenK_n ?_
          refine KC.region ?_
          refine KT.step rfl rfl (K.add rfl rfl (wrap_id (by omega))) ?_
          refine KT.step rfl rfl (K.move rfl) ?_
          refine KT.nil ?_
          refine thenK_n ?_
          have hjob : jobB N J[i] = true := by
            have et : J[i].take k = J[i] := List.take_of_length_le (by omega)
            rw [et] at hop2 hnd
            exact jobB_iff.2 ⟨hj14.1, hj14.2, fun o ho => (by have := hop2 o ho; simp only [opB, Bool.and_eq_true, decide_eq_true_eq] at this; omega), hnd⟩
          refine ⟨(σ1, z1, i + 1), ⟨by simp only; omega, w0, fun h => ?_, fun j hj => ?_⟩, by simp only; omega, rfl, by simp [Go.Vm.look, extK]⟩
          · simp only
            rw [hz1 h, List.take_succ_eq_append_getElem hil, List.flatten_append, List.length_append]; simp; omega
          · rw [List.take_succ_eq_append_getElem hil, List.mem_append, List.mem_singleton] at hj
            rcases hj with hj | rfl
            · exact hall j hj
            · exact hjob
  · skip
    replace hc14 := of_decide_eq_false hc14
    refine KC.exit ?_
    refine thenK_x ?_
    refine thenK_x ?_
    refine blockK_e ?_
    refine thenK_n ?_
    refine KC.seq ?_
    refine KC.region ?_
    refine KT.step rfl rfl (K.fieldAddrO rfl Tryz.fld24_0 Tryz.size3) ?_
    refine KT.step rfl rfl (K.loadO rfl y0 (by simp) rfl Tryz.agg3) ?_
    refine KT.step rfl rfl (K.geq rfl rfl) ?_
    refine KT.step rfl rfl (K.move rfl) ?_
    refine KT.bcase (fun hb73 => ?_) (fun hb73 => ?_)
    · skip
      replace hb73 := of_decide_eq_true hb73
      refine KT.step rfl rfl (K.fieldAddrO rfl Tryz.fld24_0 Tryz.size3) ?_
      refine KT.step rfl rfl (K.loadO rfl y0 (by simp) rfl Tryz.agg3) ?_
      refine KT.step rfl rfl (K.leq rfl rfl) ?_
      refine KT.step rfl rfl (K.pick rfl (fun _ => rfl) (fun h => by cases h)) ?_
      refine KT.step rfl rfl (K.move rfl) ?_
      refine KT.bcase (fun hb78 => ?_) (fun hb78 => ?_)
      · skip
        replace hb78 := of_decide_eq_true hb78
        refine KT.step rfl rfl (K.fieldAddrO rfl Tryz.fld24_1 Tryz.size22) ?_
        refine KT.step rfl rfl (K.loadO rfl y0 (by simp) rfl Tryz.agg22) ?_
        refine KT.step rfl rfl (K.len rfl hd Tryz.underlying22) ?_
        refine KT.step rfl rfl (K.geq rfl rfl) ?_
        refine KT.step rfl rfl (K.pick rfl (fun _ => rfl) (fun h => by cases h)) ?_
        refine KT.step rfl rfl (K.move rfl) ?_
        refine KT.bcase (fun hb84 => ?_) (fun hb84 => ?_)
        · skip
          replace hb84 := of_decide_eq_true hb84
          refine KT.step rfl rfl (K.fieldAddrO rfl Tryz.fld24_1 Tryz.size22) ?_
          refine KT.step rfl rfl (K.loadO rfl y0 (by simp) rfl Tryz.agg22) ?_
          refine KT.step rfl rfl (K.len rfl hd Tryz.underlying22) ?_
          refine KT.step rfl rfl (K.leq rfl rfl) ?_
          refine KT.step rfl rfl (K.pick rfl (fun _ => rfl) (fun h => by cases h)) ?_
          refine KT.step rfl rfl (K.move rfl) ?_
          refine KT.bcase (fun hb90 => ?_) (fun hb90 => ?_)
          · skip
            replace hb90 := of_decide_eq_true hb90
            refine KT.step rfl rfl (K.move rfl) ?_
            refine KT.step rfl rfl (K.leq rfl rfl) ?_
            refine KT.step rfl rfl (K.pick rfl (fun _ => rfl) (fun h => by cases h)) ?_
            refine KT.step rfl rfl (K.assign rfl) ?_
            refine KT.nil ?_
            refine thenK_n ?_
            refine KC.ret ?_
            have et : J.take i = J := List.take_of_length_le (by omega)
            rw [et] at hall hz
            refine ⟨.inl rfl, _, rfl, fin_b ?_⟩
            rw [hz (by omega)]
            rw [shopB, List.all_eq_true.2 hall, decide_eq_true (show 1 ≤ N by omega), decide_eq_true (show N ≤ 4 by omega), decide_eq_true (show 1 ≤ J.length by omega), decide_eq_true (show J.length ≤ 3 by omega)]
            simp only [Bool.true_and]
            exact decide_eq_decide.2 (by omega)
          · skip
            replace hb90 := of_decide_eq_false hb90
            refine KT.skip rfl rfl ?_
            refine KT.skip rfl rfl ?_
            refine KT.step rfl rfl (K.pick rfl (fun h => by cases h) (fun _ => rfl)) ?_
            refine KT.step rfl rfl (K.assign rfl) ?_
            refine KT.nil ?_
            refine thenK_n ?_
            refine KC.ret ?_
            refine ⟨.inl rfl, _, rfl, fin_b ?_⟩
            rw [← Bool.not_eq_true, shopB_iff]
            intro h
            have h1 := h.m1
            have h2 := h.m4
            have h3 := h.j1
            have h4 := h.j3
            omega
        · skip
          replace hb84 := of_decide_eq_false hb84
          refine KT.skip rfl rfl ?_
          refine KT.skip rfl rfl ?_
          refine KT.skip rfl rfl ?_
          refine KT.skip rfl rfl ?_
          refine KT.step rfl rfl (K.pick rfl (fun h => by cases h) (fun _ => rfl)) ?_
          refine KT.step rfl rfl (K.move rfl) ?_
          refine KT.skip rfl rfl ?_
          refine KT.skip rfl rfl ?_
          refine KT.step rfl rfl (K.pick rfl (fun h => by cases h) (fun _ => rfl)) ?_
          refine KT.step rfl rfl (K.assign rfl) ?_
          refine KT.nil ?_
          refine thenK_n ?_
          refine KC.ret ?_
          refine ⟨.inl rfl, _, rfl, fin_b ?_⟩
          rw [← Bool.not_eq_true, shopB_iff]
          intro h
          have h1 := h.m1
          have h2 := h.m4
          have h3 := h.j1
          have h4 := h.j3
          omega
      · skip
        replace hb78 := of_decide_eq_false hb78
        refine KT.skip rfl rfl ?_
        refine KT.skip rfl rfl ?_
        refine KT.skip rfl rfl ?_
        refine KT.skip rfl rfl ?_
        refine KT.step rfl rfl (K.pick rfl (fun h => by cases h) (fun _ => rfl)) ?_
        refine KT.step rfl rfl (K.move rfl) ?_
        refine KT.skip rfl rfl ?_
        refine KT.skip rfl rfl ?_
        refine KT.skip rfl rfl ?_
        refine KT.skip rfl rfl ?_
        refine KT.step rfl rfl (K.pick rfl (fun h => by cases h) (fun _ => rfl)) ?_
        refine KT.step rfl rfl (K.move rfl) ?_
        refine KT.skip rfl rfl ?_
        refine KT.skip rfl rfl ?_
        refine KT.step rfl rfl (K.pick rfl (fun h => by cases h) (fun _ => rfl)) ?_
        refine KT.step rfl rfl (K.assign rfl) ?_
        refine KT.nil ?_
        refine thenK_n ?_
        refine KC.ret ?_
        refine ⟨.inl rfl, _, rfl, fin_b ?_⟩
        rw [← Bool.not_eq_true, shopB_iff]
        intro h
        have h1 := h.m1
        have h2 := h.m4
        have h3 := h.j1
        have h4 := h.j3
        omega
    · skip
      replace hb73 := of_decide_eq_false hb73
      refine KT.skip rfl rfl ?_
      refine KT.skip rfl rfl ?_
      refine KT.skip rfl rfl ?_
      refine KT.step rfl rfl (K.pick rfl (fun h => by cases h) (fun _ => rfl)) ?_
      refine KT.step rfl rfl (K.move rfl) ?_
      refine KT.skip rfl rfl ?_
      refine KT.skip rfl rfl ?_
      refine KT.skip rfl rfl ?_
      refine KT.skip rfl rfl ?_
      refine KT.step rfl rfl (K.pick rfl (fun h => by cases h) (fun _ => rfl)) ?_
      refine KT.step rfl rfl (K.move rfl) ?_
      refine KT.skip rfl rfl ?_
      refine KT.skip rfl rfl ?_
      refine KT.skip rfl rfl ?_
      refine KT.skip rfl rfl ?_
      refine KT.step rfl rfl (K.pick rfl (fun h => by cases h) (fun _ => rfl)) ?_
      refine KT.step rfl rfl (K.move rfl) ?_
      refine KT.skip rfl rfl ?_
      refine KT.skip rfl rfl ?_
      refine KT.step rfl rfl (K.pick rfl (fun h => by cases h) (fun _ => rfl)) ?_
      refine KT.step rfl rfl (K.assign rfl) ?_
      refine KT.nil ?_
      refine thenK_n ?_
      refine KC.ret ?_
      refine ⟨.inl rfl, _, rfl, fin_b ?_⟩
      rw [← Bool.not_eq_true, shopB_iff]
      intro h
      have h1 := h.m1
      have h2 := h.m4
      have h3 := h.j1
      have h4 := h.j3
      omega
end Go.Proofs.YtdgahcbalabjdaaGreat

