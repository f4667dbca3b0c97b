import Derived.Test.YtmfbakipfobaeaaHtD
/-
  Heat: the reference.
-/
namespace Go.Proofs.Ytmfbakipfobaeaa
open Go.Vm Go.Ht
theorem plainTry_50 : plainFn Try.prog 50 = true := by kernel_rfl
theorem plainTry_48 : plainFn Try.prog 48 = true := by kernel_rfl
theorem plainTry_49 : plainFn Try.prog 49 = true := by kernel_rfl
theorem plainTry_22 : plainFn Try.prog 22 = true := by kernel_rfl
theorem plainTry_24 : plainFn Try.prog 24 = true := by kernel_rfl
theorem plainTry_27 : plainFn Try.prog 27 = true := by kernel_rfl
theorem plainTry_28 : plainFn Try.prog 28 = true := by kernel_rfl
theorem plainTry_31 : plainFn Try.prog 31 = true := by kernel_rfl
theorem plainTry_30 : plainFn Try.prog 30 = true := by kernel_rfl
theorem plainTry_23 : plainFn Try.prog 23 = true := by kernel_rfl
theorem plainTry_19 : plainFn Try.prog 19 = true := by kernel_rfl
set_option maxRecDepth 10000 in
theorem rhot50 (s : Sm) : DeepCall Try.prog 50 [.agg (c3 s)] (DB (hot s)) := by
  refine deepCall_K 5 Try.func50 rfl (Nat.le_of_ble_eq_true rfl) fun M W0 => ?_
  refine KC.seq ?_
  refine KC.region ?_
  refine KT.step rfl rfl (K.box rfl) ?_
  refine KT.step rfl rfl (K.assign rfl) ?_
  refine KT.nil ?_
  refine thenK_n ?_
  refine KC.seq ?_
  refine KC.region ?_
  refine KT.step rfl rfl (K.fieldAddrO rfl Try.fld63_0 Try.size3) ?_
  refine KT.step rfl rfl (K.loadO rfl rfl (by simp) rfl Try.agg3) ?_
  refine KT.step rfl rfl (K.fieldAddrO rfl Try.fld63_1 Try.size3) ?_
  refine KT.step rfl rfl (K.loadO rfl rfl (by simp) rfl Try.agg3) ?_
  refine KT.step rfl rfl (K.gtr rfl rfl) ?_
  refine KT.step rfl rfl (K.assign rfl) ?_
  refine KT.nil ?_
  refine thenK_n ?_
  refine KC.ret ?_
  exact ⟨.inl rfl, _, rfl, fin_d rfl⟩
set_option maxRecDepth 10000 in
theorem rends48 {s : Sm} {gap : Int} (hok : s.ok = true) (h0 : 0 ≤ gap) (h1 : gap ≤ 20) : DeepCall Try.prog 48 [.agg (c3 s), DI gap] (.tup [DI (up gap s), DI (lo gap s)]) := by
  obtain ⟨q1, q2, q3, q4, q5, q6, q7⟩ := Sm.ok_iff.1 hok
  refine deepCall_K 5 Try.func48 rfl (Nat.le_of_ble_eq_true rfl) fun M W0 => ?_
  refine KC.seq ?_
  refine KC.region ?_
  refine KT.step rfl rfl (K.box rfl) ?_
  refine KT.step rfl rfl (K.assign rfl) ?_
  refine KT.step rfl rfl (K.assign rfl) ?_
  refine KT.nil ?_
  refine thenK_n ?_
  refine KC.seq ?_
  refine KC.seq ?_
  refine KC.region ?_
  refine KT.step rfl rfl (K.loadOA (c3 s) rfl rfl (by decide) Try.agg63 Try.size63 rfl) ?_
  refine KT.step rfl rfl (K.call1 rfl plainTry_50 (rhot50 s)) ?_
  refine KT.nil ?_
  refine thenK_n ?_
  refine KC.cond rfl (fun hc7 => ?_) (fun hc7 => ?_)
  · skip
    refine KC.seq ?_
    refine KC.draw Try.mixed ?_
    refine KT.step rfl rfl (K.fieldAddrO rfl Try.fld63_0 Try.size3) ?_
    refine KT.step rfl rfl (K.loadO rfl rfl (by simp) rfl Try.agg3) ?_
    refine KT.step rfl rfl (K.move rfl) ?_
    refine KT.step rfl rfl (K.sub rfl rfl (wrap_id (by omega))) ?_
    refine KT.step rfl rfl (K.fieldAddrO rfl Try.fld63_1 Try.size3) ?_
    refine KT.step rfl rfl (K.loadO rfl rfl (by simp) rfl Try.agg3) ?_
    refine KT.step rfl rfl (K.move rfl) ?_
    refine KT.step rfl rfl (K.sub rfl rfl (wrap_id (by omega))) ?_
    refine KT.step rfl rfl (K.assign rfl) ?_
    refine KT.step rfl rfl (K.assign rfl) ?_
    refine KT.nil ?_
    refine ⟨by kernel_rfl, ?_⟩
    refine thenK_n ?_
    refine KC.ret ?_
    refine thenK_r ?_
    refine ⟨.inl rfl, _, rfl, ?_⟩
    simp only [up, lo, hc7]
    rfl
  · skip
    refine KC.skip ?_
    refine thenK_n ?_
    refine KC.seq ?_
    refine KC.draw Try.mixed ?_
    refine KT.step rfl rfl (K.fieldAddrO rfl Try.fld63_1 Try.size3) ?_
    refine KT.step rfl rfl (K.loadO rfl rfl (by simp) rfl Try.agg3) ?_
    refine KT.step rfl rfl (K.fieldAddrO rfl Try.fld63_0 Try.size3) ?_
    refine KT.step rfl rfl (K.loadO rfl rfl (by simp) rfl Try.agg3) ?_
    refine KT.step rfl rfl (K.assign rfl) ?_
    refine KT.step rfl rfl (K.assign rfl) ?_
    refine KT.nil ?_
    refine ⟨by kernel_rfl, ?_⟩
    refine thenK_n ?_
    refine KC.ret ?_
    refine ⟨.inl rfl, _, rfl, ?_⟩
    simp only [up, lo, hc7]
    rfl
set_option maxRecDepth 10000 in
theorem rheat49 {s : Sm} {gap u d : Int} (hok : s.ok = true) (h0 : 0 ≤ gap) (h1 : gap ≤ 20) (hu : -2000 ≤ u ∧ u ≤ 2000) (hd : -2000 ≤ d ∧ d ≤ 2000) : DeepCall Try.prog 49 [.agg (c3 s), DI gap, DI u, DI d] (DI (ht gap s u d)) := by
  have hb := ht_bd (gap := gap) hok u d
  have he := ends_in hok h0 h1
  rw [← ht_comm] at hb ⊢
  refine deepCall_K 5 Try.func49 rfl (Nat.le_of_ble_eq_true rfl) fun M W0 => ?_
  refine KC.seq ?_
  refine KC.region ?_
  refine KT.step rfl rfl (K.box rfl) ?_
  refine KT.step rfl rfl (K.assign rfl) ?_
  refine KT.nil ?_
  refine thenK_n ?_
  refine KC.seq ?_
  refine KC.region ?_
  refine KT.step rfl rfl (K.loadOA (c3 s) rfl rfl (by decide) Try.agg63 Try.size63 rfl) ?_
  refine KT.step rfl rfl (K.move rfl) ?_
  refine KT.step rfl rfl (K.call2 rfl rfl plainTry_48 (rends48 hok h0 h1)) ?_
  refine KT.step rfl rfl (K.move rfl) ?_
  refine KT.step rfl rfl (K.extract rfl rfl) ?_
  refine KT.step rfl rfl (K.extract rfl rfl) ?_
  refine KT.step rfl rfl (K.assign rfl) ?_
  refine KT.step rfl rfl (K.assign rfl) ?_
  refine KT.nil ?_
  refine thenK_n ?_
  refine KC.seq ?_
  refine KC.region ?_
  refine KT.step rfl rfl (K.fieldAddrO rfl Try.fld63_2 Try.size3) ?_
  refine KT.step rfl rfl (K.loadO rfl rfl (by simp) rfl Try.agg3) ?_
  refine KT.step rfl rfl (K.move rfl) ?_
  refine KT.step rfl rfl (K.move rfl) ?_
  refine KT.step rfl rfl (K.min2 rfl rfl) ?_
  refine KT.step rfl rfl (K.move rfl) ?_
  refine KT.step rfl rfl (K.move rfl) ?_
  refine KT.step rfl rfl (K.max2 rfl rfl) ?_
  refine KT.step rfl rfl (K.sub rfl rfl (wrap_id (by omega))) ?_
  refine KT.step rfl rfl (K.max2 rfl rfl) ?_
  refine KT.step rfl rfl (K.mul rfl rfl (wrap_id (by omega))) ?_
  refine KT.step rfl rfl (K.assign rfl) ?_
  refine KT.nil ?_
  refine thenK_n ?_
  refine KC.ret ?_
  exact ⟨.inl rfl, _, rfl, fin_d rfl⟩
set_option maxRecDepth 10000 in
theorem near30 (t : Int) : DeepCall Try.prog 30 [DI t] (DB (decide (-20 ≤ t) && decide (t ≤ 200))) := by
  refine deepCall_K 5 Try.func30 rfl (Nat.le_of_ble_eq_true rfl) fun M W0 => ?_
  refine KC.seq ?_
  refine KC.region ?_
  refine KT.step rfl rfl (K.assign rfl) ?_
  refine KT.nil ?_
  refine thenK_n ?_
  refine KC.seq ?_
  refine KC.region ?_
  refine KT.step rfl rfl (K.move rfl) ?_
  refine KT.step rfl rfl (K.geq rfl rfl) ?_
  refine KT.step rfl rfl (K.move rfl) ?_
  refine KT.bcase (fun hb5 => ?_) (fun hb5 => ?_)
  · skip
    replace hb5 := of_decide_eq_true hb5
    refine KT.step rfl rfl (K.move rfl) ?_
    refine KT.step rfl rfl (K.leq rfl rfl) ?_
    refine KT.step rfl rfl (K.pick rfl (fun _ => rfl) (fun h => by cases h)) ?_
    refine KT.step rfl rfl (K.assign rfl) ?_
    refine KT.nil ?_
    refine thenK_n ?_
    refine KC.ret ?_
    exact ⟨.inl rfl, _, rfl, fin_b (by rw [decide_eq_true hb5, Bool.true_and])⟩
  · skip
    replace hb5 := of_decide_eq_false hb5
    refine KT.skip rfl rfl ?_
    refine KT.skip rfl rfl ?_
    refine KT.step rfl rfl (K.pick rfl (fun h => by cases h) (fun _ => rfl)) ?_
    refine KT.step rfl rfl (K.assign rfl) ?_
    refine KT.nil ?_
    refine thenK_n ?_
    refine KC.ret ?_
    exact ⟨.inl rfl, _, rfl, fin_b (by rw [decide_eq_false hb5]; rfl)⟩
set_option maxRecDepth 10000 in
theorem far23 (t : Int) : DeepCall Try.prog 23 [DI t] (DB (decide (0 ≤ t) && decide (t ≤ 1000000))) := by
  refine deepCall_K 5 Try.func23 rfl (Nat.le_of_ble_eq_true rfl) fun M W0 => ?_
  refine KC.seq ?_
  refine KC.region ?_
  refine KT.step rfl rfl (K.assign rfl) ?_
  refine KT.nil ?_
  refine thenK_n ?_
  refine KC.seq ?_
  refine KC.region ?_
  refine KT.step rfl rfl (K.move rfl) ?_
  refine KT.step rfl rfl (K.geq rfl rfl) ?_
  refine KT.step rfl rfl (K.move rfl) ?_
  refine KT.bcase (fun hb5 => ?_) (fun hb5 => ?_)
  · skip
    replace hb5 := of_decide_eq_true hb5
    refine KT.step rfl rfl (K.move rfl) ?_
    refine KT.step rfl rfl (K.leq rfl rfl) ?_
    refine KT.step rfl rfl (K.pick rfl (fun _ => rfl) (fun h => by cases h)) ?_
    refine KT.step rfl rfl (K.assign rfl) ?_
    refine KT.nil ?_
    refine thenK_n ?_
    refine KC.ret ?_
    exact ⟨.inl rfl, _, rfl, fin_b (by rw [decide_eq_true hb5, Bool.true_and])⟩
  · skip
    replace hb5 := of_decide_eq_false hb5
    refine KT.skip rfl rfl ?_
    refine KT.skip rfl rfl ?_
    refine KT.step rfl rfl (K.pick rfl (fun h => by cases h) (fun _ => rfl)) ?_
    refine KT.step rfl rfl (K.assign rfl) ?_
    refine KT.nil ?_
    refine thenK_n ?_
    refine KC.ret ?_
    exact ⟨.inl rfl, _, rfl, fin_b (by rw [decide_eq_false hb5]; rfl)⟩
set_option maxRecDepth 10000 in
theorem rvalid19 {d : DV} {l : List Sm} {gap : Int} (hd : StD d l) (hl : l.length ≤ 9223372036854775807) : DeepCall Try.prog 19 [d, DI gap] (DB (okH l gap)) := by
  refine deepCall_K 5 Try.func19 rfl (Nat.le_of_ble_eq_true rfl) fun M W0 => ?_
  refine KC.seq ?_
  refine KC.region ?_
  refine KT.step rfl rfl (K.assign rfl) ?_
  refine KT.nil ?_
  refine thenK_n ?_
  refine KC.seq ?_
  refine KC.seq ?_
  refine KC.region ?_
  refine KT.step rfl rfl (K.move rfl) ?_
  refine KT.step rfl rfl (K.lenF rfl hd Try.underlying22) ?_
  refine KT.step rfl rfl (K.move rfl) ?_
  refine KT.nil ?_
  refine thenK_n ?_
  refine KC.block ?_
  refine KC.loop (fun p : List VObj × Nat => p.1) (fun p => [(0, .d d), (1, .d (DI gap)), (7, .d d), (8, .d (DI (l.length : Nat))), (9, .d (DI (p.2 : Nat)))]) (fun p => p.2 ≤ l.length ∧ ∀ s ∈ l.take p.2, s.ok = true) (fun p => l.length - p.2) (_, 0) ⟨Nat.zero_le _, fun s hs => by simp at hs⟩ rfl (by simp [Go.Vm.look, extK, enterK]) ?_
  intro p hp
  refine KC.seq ?_
  refine KC.region ?_
  refine KT.step rfl rfl (K.lss rfl rfl) ?_
  refine KT.nil ?_
  refine thenK_n ?_
  refine KC.seq ?_
  refine KC.cond rfl (fun hc10 => ?_) (fun hc10 => ?_)
  · skip
    replace hc10 := of_decide_eq_true hc10
    have hil : p.2 < l.length := by omega
    refine KC.skip ?_
    refine thenK_n ?_
    refine KC.seq ?_
    refine KC.block ?_
    refine KC.seq ?_
    refine KC.region ?_
    refine KT.step rfl rfl (K.idxF c3_len (m := p.2) rfl hd rfl hil Try.underlying22 Try.size63) ?_
    refine KT.step rfl rfl (K.loadFl (cs := c3 l[p.2]) rfl rfl Try.agg63 Try.size63) ?_
    refine KT.step rfl rfl (K.alloc Try.zero63) ?_
    refine KT.storeL (cs := (c3 l[p.2]).map .d) rfl rfl rfl rfl rfl rfl rfl Try.size63 ?_
    refine KT.nil ?_
    refine thenK_n ?_
    refine KC.seq ?_
    refine KC.region ?_
    refine KT.step rfl rfl (K.fieldAddrO rfl Try.fld63_0 Try.size3) ?_
    refine KT.step rfl rfl (K.loadO rfl (List.getElem?_concat_length ..) (by simp) rfl Try.agg3) ?_
    refine KT.step rfl rfl (K.lss rfl rfl) ?_
    refine KT.step rfl rfl (K.move rfl) ?_
    refine KT.bcase (fun hb16 => ?_) (fun hb16 => ?_)
    · skip
      replace hb16 := of_decide_eq_true hb16
      refine KT.skip rfl rfl ?_
      refine KT.skip rfl rfl ?_
      refine KT.skip rfl rfl ?_
      refine KT.step rfl rfl (K.pick rfl (fun _ => rfl) (fun h => by cases h)) ?_
      refine KT.step rfl rfl (K.move rfl) ?_
      refine KT.skip rfl rfl ?_
      refine KT.skip rfl rfl ?_
      refine KT.skip rfl rfl ?_
      refine KT.step rfl rfl (K.pick rfl (fun _ => rfl) (fun h => by cases h)) ?_
      refine KT.step rfl rfl (K.move rfl) ?_
      refine KT.skip rfl rfl ?_
      refine KT.skip rfl rfl ?_
      refine KT.skip rfl rfl ?_
      refine KT.step rfl rfl (K.pick rfl (fun _ => rfl) (fun h => by cases h)) ?_
      refine KT.step rfl rfl (K.move rfl) ?_
      refine KT.skip rfl rfl ?_
      refine KT.skip rfl rfl ?_
      refine KT.skip rfl rfl ?_
      refine KT.skip rfl rfl ?_
      refine KT.skip rfl rfl ?_
      refine KT.step rfl rfl (K.pick rfl (fun _ => rfl) (fun h => by cases h)) ?_
      refine KT.step rfl rfl (K.move rfl) ?_
      refine KT.skip rfl rfl ?_
      refine KT.skip rfl rfl ?_
      refine KT.skip rfl rfl ?_
      refine KT.step rfl rfl (K.pick rfl (fun _ => rfl) (fun h => by cases h)) ?_
      refine KT.step rfl rfl (K.move rfl) ?_
      refine KT.skip rfl rfl ?_
      refine KT.skip rfl rfl ?_
      refine KT.skip rfl rfl ?_
      refine KT.step rfl rfl (K.pick rfl (fun _ => rfl) (fun h => by cases h)) ?_
      refine KT.nil ?_
      refine thenK_n ?_
      refine KC.cond rfl (fun hc47 => ?_) (fun hc47 => ?_)
      · skip
        refine KC.seq ?_
        refine KC.region ?_
        refine KT.step rfl rfl (K.assign rfl) ?_
        refine KT.nil ?_
        refine thenK_n ?_
        refine KC.ret ?_
        refine blockK_r ?_
        refine thenK_r ?_
        refine thenK_r ?_
        refine blockK_r ?_
        refine thenK_r ?_
        have hno : okH l gap = false := by
          rw [← Bool.not_eq_true, okH_iff]
          rintro ⟨_, _, _, _, h⟩
          have := Sm.ok_iff.1 (h _ (List.getElem_mem hil))
          omega
        rw [hno]
        exact ⟨.inl rfl, _, rfl, rfl⟩
      · cases hc47
    · skip
      replace hb16 := of_decide_eq_false hb16
      refine KT.step rfl rfl (K.fieldAddrO rfl Try.fld63_0 Try.size3) ?_
      refine KT.step rfl rfl (K.loadO rfl (List.getElem?_concat_length ..) (by simp) rfl Try.agg3) ?_
      refine KT.step rfl rfl (K.gtr rfl rfl) ?_
      refine KT.step rfl rfl (K.pick rfl (fun h => by cases h) (fun _ => rfl)) ?_
      refine KT.step rfl rfl (K.move rfl) ?_
      refine KT.bcase (fun hb21 => ?_) (fun hb21 => ?_)
      · skip
        replace hb21 := of_decide_eq_true hb21
        refine KT.skip rfl rfl ?_
        refine KT.skip rfl rfl ?_
        refine KT.skip rfl rfl ?_
        refine KT.step rfl rfl (K.pick rfl (fun _ => rfl) (fun h => by cases h)) ?_
        refine KT.step rfl rfl (K.move rfl) ?_
        refine KT.skip rfl rfl ?_
        refine KT.skip rfl rfl ?_
        refine KT.skip rfl rfl ?_
        refine KT.step rfl rfl (K.pick rfl (fun _ => rfl) (fun h => by cases h)) ?_
        refine KT.step rfl rfl (K.move rfl) ?_
        refine KT.skip rfl rfl ?_
        refine KT.skip rfl rfl ?_
        refine KT.skip rfl rfl ?_
        refine KT.skip rfl rfl ?_
        refine KT.skip rfl rfl ?_
        refine KT.step rfl rfl (K.pick rfl (fun _ => rfl) (fun h => by cases h)) ?_
        refine KT.step rfl rfl (K.move rfl) ?_
        refine KT.skip rfl rfl ?_
        refine KT.skip rfl rfl ?_
        refine KT.skip rfl rfl ?_
        refine KT.step rfl rfl (K.pick rfl (fun _ => rfl) (fun h => by cases h)) ?_
        refine KT.step rfl rfl (K.move rfl) ?_
        refine KT.skip rfl rfl ?_
        refine KT.skip rfl rfl ?_
        refine KT.skip rfl rfl ?_
        refine KT.step rfl rfl (K.pick rfl (fun _ => rfl) (fun h => by cases h)) ?_
        refine KT.nil ?_
        refine thenK_n ?_
        refine KC.cond rfl (fun hc47 => ?_) (fun hc47 => ?_)
        · skip
          refine KC.seq ?_
          refine KC.region ?_
          refine KT.step rfl rfl (K.assign rfl) ?_
          refine KT.nil ?_
          refine thenK_n ?_
          refine KC.ret ?_
          refine blockK_r ?_
          refine thenK_r ?_
          refine thenK_r ?_
          refine blockK_r ?_
          refine thenK_r ?_
          have hno : okH l gap = false := by
            rw [← Bool.not_eq_true, okH_iff]
            rintro ⟨_, _, _, _, h⟩
            have := Sm.ok_iff.1 (h _ (List.getElem_mem hil))
            omega
          rw [hno]
          exact ⟨.inl rfl, _, rfl, rfl⟩
        · cases hc47
      · skip
        replace hb21 := of_decide_eq_false hb21
        refine KT.step rfl rfl (K.fieldAddrO rfl Try.fld63_1 Try.size3) ?_
        refine KT.step rfl rfl (K.loadO rfl (List.getElem?_concat_length ..) (by simp) rfl Try.agg3) ?_
        refine KT.step rfl rfl (K.lss rfl rfl) ?_
        refine KT.step rfl rfl (K.pick rfl (fun h => by cases h) (fun _ => rfl)) ?_
        refine KT.step rfl rfl (K.move rfl) ?_
        refine KT.bcase (fun hb26 => ?_) (fun hb26 => ?_)
        · skip
          replace hb26 := of_decide_eq_true hb26
          refine KT.skip rfl rfl ?_
          refine KT.skip rfl rfl ?_
          refine KT.skip rfl rfl ?_
          refine KT.step rfl rfl (K.pick rfl (fun _ => rfl) (fun h => by cases h)) ?_
          refine KT.step rfl rfl (K.move rfl) ?_
          refine KT.skip rfl rfl ?_
          refine KT.skip rfl rfl ?_
          refine KT.skip rfl rfl ?_
          refine KT.skip rfl rfl ?_
          refine KT.skip rfl rfl ?_
          refine KT.step rfl rfl (K.pick rfl (fun _ => rfl) (fun h => by cases h)) ?_
          refine KT.step rfl rfl (K.move rfl) ?_
          refine KT.skip rfl rfl ?_
          refine KT.skip rfl rfl ?_
          refine KT.skip rfl rfl ?_
          refine KT.step rfl rfl (K.pick rfl (fun _ => rfl) (fun h => by cases h)) ?_
          refine KT.step rfl rfl (K.move rfl) ?_
          refine KT.skip rfl rfl ?_
          refine KT.skip rfl rfl ?_
          refine KT.skip rfl rfl ?_
          refine KT.step rfl rfl (K.pick rfl (fun _ => rfl) (fun h => by cases h)) ?_
          refine KT.nil ?_
          refine thenK_n ?_
          refine KC.cond rfl (fun hc47 => ?_) (fun hc47 => ?_)
          · skip
            refine KC.seq ?_
            refine KC.region ?_
            refine KT.step rfl rfl (K.assign rfl) ?_
            refine KT.nil ?_
            refine thenK_n ?_
            refine KC.ret ?_
            refine blockK_r ?_
            refine thenK_r ?_
            refine thenK_r ?_
            refine blockK_r ?_
            refine thenK_r ?_
            have hno : okH l gap = false := by
              rw [← Bool.not_eq_true, okH_iff]
              rintro ⟨_, _, _, _, h⟩
              have := Sm.ok_iff.1 (h _ (List.getElem_mem hil))
              omega
            rw [hno]
            exact ⟨.inl rfl, _, rfl, rfl⟩
          · cases hc47
        · skip
          replace hb26 := of_decide_eq_false hb26
          refine KT.step rfl rfl (K.fieldAddrO rfl Try.fld63_1 Try.size3) ?_
          refine KT.step rfl rfl (K.loadO rfl (List.getElem?_concat_length ..) (by simp) rfl Try.agg3) ?_
          refine KT.step rfl rfl (K.gtr rfl rfl) ?_
          refine KT.step rfl rfl (K.pick rfl (fun h => by cases h) (fun _ => rfl)) ?_
          refine KT.step rfl rfl (K.move rfl) ?_
          refine KT.bcase (fun hb31 => ?_) (fun hb31 => ?_)
          · skip
            replace hb31 := of_decide_eq_true hb31
            refine KT.skip rfl rfl ?_
            refine KT.skip rfl rfl ?_
            refine KT.skip rfl rfl ?_
            refine KT.skip rfl rfl ?_
            refine KT.skip rfl rfl ?_
            refine KT.step rfl rfl (K.pick rfl (fun _ => rfl) (fun h => by cases h)) ?_
            refine KT.step rfl rfl (K.move rfl) ?_
            refine KT.skip rfl rfl ?_
            refine KT.skip rfl rfl ?_
            refine KT.skip rfl rfl ?_
            refine KT.step rfl rfl (K.pick rfl (fun _ => rfl) (fun h => by cases h)) ?_
            refine KT.step rfl rfl (K.move rfl) ?_
            refine KT.skip rfl rfl ?_
            refine KT.skip rfl rfl ?_
            refine KT.skip rfl rfl ?_
            refine KT.step rfl rfl (K.pick rfl (fun _ => rfl) (fun h => by cases h)) ?_
            refine KT.nil ?_
            refine thenK_n ?_
            refine KC.cond rfl (fun hc47 => ?_) (fun hc47 => ?_)
            · skip
              refine KC.seq ?_
              refine KC.region ?_
              refine KT.step rfl rfl (K.assign rfl) ?_
              refine KT.nil ?_
              refine thenK_n ?_
              refine KC.ret ?_
              refine blockK_r ?_
              refine thenK_r ?_
              refine thenK_r ?_
              refine blockK_r ?_
              refine thenK_r ?_
              have hno : okH l gap = false := by
                rw [← Bool.not_eq_true, okH_iff]
                rintro ⟨_, _, _, _, h⟩
                have := Sm.ok_iff.1 (h _ (List.getElem_mem hil))
                omega
              rw [hno]
              exact ⟨.inl rfl, _, rfl, rfl⟩
            · cases hc47
          · skip
            replace hb31 := of_decide_eq_false hb31
            refine KT.step rfl rfl (K.fieldAddrO rfl Try.fld63_0 Try.size3) ?_
            refine KT.step rfl rfl (K.loadO rfl (List.getElem?_concat_length ..) (by simp) rfl Try.agg3) ?_
            refine KT.step rfl rfl (K.fieldAddrO rfl Try.fld63_1 Try.size3) ?_
            refine KT.step rfl rfl (K.loadO rfl (List.getElem?_concat_length ..) (by simp) rfl Try.agg3) ?_
            refine KT.step rfl rfl (K.eql rfl rfl) ?_
            refine KT.step rfl rfl (K.pick rfl (fun h => by cases h) (fun _ => rfl)) ?_
            refine KT.step rfl rfl (K.move rfl) ?_
            refine KT.bcase (fun hb38 => ?_) (fun hb38 => ?_)
            · skip
              replace hb38 := of_decide_eq_true hb38
              refine KT.skip rfl rfl ?_
              refine KT.skip rfl rfl ?_
              refine KT.skip rfl rfl ?_
              refine KT.step rfl rfl (K.pick rfl (fun _ => rfl) (fun h => by cases h)) ?_
              refine KT.step rfl rfl (K.move rfl) ?_
              refine KT.skip rfl rfl ?_
              refine KT.skip rfl rfl ?_
              refine KT.skip rfl rfl ?_
              refine KT.step rfl rfl (K.pick rfl (fun _ => rfl) (fun h => by cases h)) ?_
              refine KT.nil ?_
              refine thenK_n ?_
              refine KC.cond rfl (fun hc47 => ?_) (fun hc47 => ?_)
              · skip
                refine KC.seq ?_
                refine KC.region ?_
                refine KT.step rfl rfl (K.assign rfl) ?_
                refine KT.nil ?_
                refine thenK_n ?_
                refine KC.ret ?_
                refine blockK_r ?_
                refine thenK_r ?_
                refine thenK_r ?_
                refine blockK_r ?_
                refine thenK_r ?_
                have hno : okH l gap = false := by
                  rw [← Bool.not_eq_true, okH_iff]
                  rintro ⟨_, _, _, _, h⟩
                  have := Sm.ok_iff.1 (h _ (List.getElem_mem hil))
                  omega
                rw [hno]
                exact ⟨.inl rfl, _, rfl, rfl⟩
              · cases hc47
            · skip
              replace hb38 := of_decide_eq_false hb38
              refine KT.step rfl rfl (K.fieldAddrO rfl Try.fld63_2 Try.size3) ?_
              refine KT.step rfl rfl (K.loadO rfl (List.getElem?_concat_length ..) (by simp) rfl Try.agg3) ?_
              refine KT.step rfl rfl (K.lss rfl rfl) ?_
              refine KT.step rfl rfl (K.pick rfl (fun h => by cases h) (fun _ => rfl)) ?_
              refine KT.step rfl rfl (K.move rfl) ?_
              refine KT.bcase (fun hb43 => ?_) (fun hb43 => ?_)
              · skip
                replace hb43 := of_decide_eq_true hb43
                refine KT.skip rfl rfl ?_
                refine KT.skip rfl rfl ?_
                refine KT.skip rfl rfl ?_
                refine KT.step rfl rfl (K.pick rfl (fun _ => rfl) (fun h => by cases h)) ?_
                refine KT.nil ?_
                refine thenK_n ?_
                refine KC.cond rfl (fun hc47 => ?_) (fun hc47 => ?_)
                · skip
                  refine KC.seq ?_
                  refine KC.region ?_
                  refine KT.step rfl rfl (K.assign rfl) ?_
                  refine KT.nil ?_
                  refine thenK_n ?_
                  refine KC.ret ?_
                  refine blockK_r ?_
                  refine thenK_r ?_
                  refine thenK_r ?_
                  refine blockK_r ?_
                  refine thenK_r ?_
                  have hno : okH l gap = false := by
                    rw [← Bool.not_eq_true, okH_iff]
                    rintro ⟨_, _, _, _, h⟩
                    have := Sm.ok_iff.1 (h _ (List.getElem_mem hil))
                    omega
                  rw [hno]
                  exact ⟨.inl rfl, _, rfl, rfl⟩
                · cases hc47
              · skip
                replace hb43 := of_decide_eq_false hb43
                refine KT.step rfl rfl (K.fieldAddrO rfl Try.fld63_2 Try.size3) ?_
                refine KT.step rfl rfl (K.loadO rfl (List.getElem?_concat_length ..) (by simp) rfl Try.agg3) ?_
                refine KT.step rfl rfl (K.gtr rfl rfl) ?_
                refine KT.step rfl rfl (K.pick rfl (fun h => by cases h) (fun _ => rfl)) ?_
                refine KT.nil ?_
                refine thenK_n ?_
                refine KC.cond rfl (fun hc47 => ?_) (fun hc47 => ?_)
                · skip
                  replace hc47 := of_decide_eq_true hc47
                  refine KC.seq ?_
                  refine KC.region ?_
                  refine KT.step rfl rfl (K.assign rfl) ?_
                  refine KT.nil ?_
                  refine thenK_n ?_
                  refine KC.ret ?_
                  refine blockK_r ?_
                  refine thenK_r ?_
                  refine thenK_r ?_
                  refine blockK_r ?_
                  refine thenK_r ?_
                  have hno : okH l gap = false := by
                    rw [← Bool.not_eq_true, okH_iff]
                    rintro ⟨_, _, _, _, h⟩
                    have := Sm.ok_iff.1 (h _ (List.getElem_mem hil))
                    omega
                  rw [hno]
                  exact ⟨.inl rfl, _, rfl, rfl⟩
                · skip
                  replace hc47 := of_decide_eq_false hc47
                  have hsok : l[p.2].ok = true := Sm.ok_iff.2 (by simp only [Int.not_lt] at *; omega)
                  refine KC.skip ?_
                  refine blockK_n ?_
                  refine thenK_n ?_
                  refine KC.region ?_
                  refine KT.step rfl rfl (K.add rfl rfl (wrap_id (by omega))) ?_
                  refine KT.step rfl rfl (K.move rfl) ?_
                  refine KT.nil ?_
                  refine thenK_n ?_
                  refine ⟨(_, p.2 + 1), ⟨by simp only; omega, fun s hs => ?_⟩, by simp only; omega, rfl, by simp [Go.Vm.look, extK]⟩
                  simp only at hs
                  rw [List.take_succ_eq_append_getElem hil, List.mem_append, List.mem_singleton] at hs
                  rcases hs with hs | rfl
                  · exact hp.2 s hs
                  · exact hsok
  · skip
    replace hc10 := of_decide_eq_false hc10
    have hv : ∀ s ∈ l, s.ok = true := by
      rw [List.take_of_length_le (by omega)] at hp; exact hp.2
    refine KC.exit ?_
    refine thenK_x ?_
    refine thenK_x ?_
    refine blockK_e ?_
    refine thenK_n ?_
    refine KC.seq ?_
    refine KC.region ?_
    refine KT.step rfl rfl (K.move rfl) ?_
    refine KT.step rfl rfl (K.lenF rfl hd Try.underlying22) ?_
    refine KT.step rfl rfl (K.geq rfl rfl) ?_
    refine KT.step rfl rfl (K.move rfl) ?_
    refine KT.bcase (fun hb52 => ?_) (fun hb52 => ?_)
    · skip
      replace hb52 := of_decide_eq_true hb52
      refine KT.step rfl rfl (K.move rfl) ?_
      refine KT.step rfl rfl (K.lenF rfl hd Try.underlying22) ?_
      refine KT.step rfl rfl (K.leq rfl rfl) ?_
      refine KT.step rfl rfl (K.pick rfl (fun _ => rfl) (fun h => by cases h)) ?_
      refine KT.step rfl rfl (K.move rfl) ?_
      refine KT.bcase (fun hb57 => ?_) (fun hb57 => ?_)
      · skip
        replace hb57 := of_decide_eq_true hb57
        refine KT.step rfl rfl (K.move rfl) ?_
        refine KT.step rfl rfl (K.geq rfl rfl) ?_
        refine KT.step rfl rfl (K.pick rfl (fun _ => rfl) (fun h => by cases h)) ?_
        refine KT.step rfl rfl (K.move rfl) ?_
        refine KT.bcase (fun hb61 => ?_) (fun hb61 => ?_)
        · skip
          replace hb61 := of_decide_eq_true hb61
          refine KT.step rfl rfl (K.move rfl) ?_
          refine KT.step rfl rfl (K.leq rfl rfl) ?_
          refine KT.step rfl rfl (K.pick rfl (fun _ => rfl) (fun h => by cases h)) ?_
          refine KT.step rfl rfl (K.assign rfl) ?_
          refine KT.nil ?_
          refine thenK_n ?_
          refine KC.ret ?_
          by_cases hg : gap ≤ 20
          · rw [okH_iff.2 ⟨by omega, by omega, by omega, hg, hv⟩]
            rw [← decide_eq_true hg]
            exact ⟨.inl rfl, _, rfl, rfl⟩
          · have hno : okH l gap = false := by
              rw [← Bool.not_eq_true, okH_iff]
              rintro ⟨h1, h2, h3, h4, _⟩
              omega
            rw [hno, ← decide_eq_false hg]
            exact ⟨.inl rfl, _, rfl, rfl⟩
        · skip
          replace hb61 := of_decide_eq_false hb61
          refine KT.skip rfl rfl ?_
          refine KT.skip rfl rfl ?_
          refine KT.step rfl rfl (K.pick rfl (fun h => by cases h) (fun _ => rfl)) ?_
          refine KT.step rfl rfl (K.assign rfl) ?_
          refine KT.nil ?_
          refine thenK_n ?_
          refine KC.ret ?_
          have hno : okH l gap = false := by
            rw [← Bool.not_eq_true, okH_iff]
            rintro ⟨h1, h2, h3, h4, _⟩
            omega
          rw [hno]
          exact ⟨.inl rfl, _, rfl, rfl⟩
      · skip
        replace hb57 := of_decide_eq_false hb57
        refine KT.skip rfl rfl ?_
        refine KT.skip rfl rfl ?_
        refine KT.step rfl rfl (K.pick rfl (fun h => by cases h) (fun _ => rfl)) ?_
        refine KT.step rfl rfl (K.move rfl) ?_
        refine KT.skip rfl rfl ?_
        refine KT.skip rfl rfl ?_
        refine KT.step rfl rfl (K.pick rfl (fun h => by cases h) (fun _ => rfl)) ?_
        refine KT.step rfl rfl (K.assign rfl) ?_
        refine KT.nil ?_
        refine thenK_n ?_
        refine KC.ret ?_
        have hno : okH l gap = false := by
          rw [← Bool.not_eq_true, okH_iff]
          rintro ⟨h1, h2, h3, h4, _⟩
          omega
        rw [hno]
        exact ⟨.inl rfl, _, rfl, rfl⟩
    · skip
      replace hb52 := of_decide_eq_false hb52
      refine KT.skip rfl rfl ?_
      refine KT.skip rfl rfl ?_
      refine KT.skip rfl rfl ?_
      refine KT.step rfl rfl (K.pick rfl (fun h => by cases h) (fun _ => rfl)) ?_
      refine KT.step rfl rfl (K.move rfl) ?_
      refine KT.skip rfl rfl ?_
      refine KT.skip rfl rfl ?_
      refine KT.step rfl rfl (K.pick rfl (fun h => by cases h) (fun _ => rfl)) ?_
      refine KT.step rfl rfl (K.move rfl) ?_
      refine KT.skip rfl rfl ?_
      refine KT.skip rfl rfl ?_
      refine KT.step rfl rfl (K.pick rfl (fun h => by cases h) (fun _ => rfl)) ?_
      refine KT.step rfl rfl (K.assign rfl) ?_
      refine KT.nil ?_
      refine thenK_n ?_
      refine KC.ret ?_
      have hno : okH l gap = false := by
        rw [← Bool.not_eq_true, okH_iff]
        rintro ⟨h1, h2, h3, h4, _⟩
        omega
      rw [hno]
      exact ⟨.inl rfl, _, rfl, rfl⟩
set_option maxHeartbeats 1000000 in
set_option maxRecDepth 10000 in
theorem rlevels22 {d : DV} {l : List Sm} {gap : Int} (hd : StD d l) (hok : okH l gap = true) : DeepCall Try.prog 22 [d, DI gap] (.sl (ints (lvls gap l)) (lvls gap l).length none) := by
  obtain ⟨n1, n8, g0, g20, hall⟩ := okH_iff.1 hok
  refine deepCall_K 5 Try.func22 rfl (Nat.le_of_ble_eq_true rfl) fun M W0 => ?_
  refine KC.seq ?_
  refine KC.region ?_
  refine KT.step rfl rfl (K.assign rfl) ?_
  refine KT.nil ?_
  refine thenK_n ?_
  refine KC.seq ?_
  refine KC.region ?_
  refine KT.step rfl rfl (K.assign rfl) ?_
  refine KT.nil ?_
  refine thenK_n ?_
  refine KC.seq ?_
  refine KC.seq ?_
  refine KC.region ?_
  refine KT.step rfl rfl (K.assign rfl) ?_
  refine KT.nil ?_
  refine thenK_n ?_
  refine KC.block ?_
  refine KC.loop (fun p : List VObj × XV × Nat => p.1) (fun p => [(0, .d d), (1, .d (DI gap)), (5, p.2.1), (6, .d (DI ((200 : Int) - (p.2.2 : Nat))))]) (fun p => p.2.2 ≤ 221 ∧ OwnK 1 p.1 p.2.1 (xs (lvR gap l p.2.2)) ∧ (lvR gap l p.2.2 = [] → p.2.1 = .d Dnil)) (fun p => 221 - p.2.2) (_, .d Dnil, 0) ⟨Nat.zero_le _, .nil, fun _ => rfl⟩ rfl (by simp [Go.Vm.look, extK, enterK]) ?_
  intro p hp
  obtain ⟨σ0, x, k⟩ := p
  obtain ⟨hk, o, hn⟩ := hp
  simp only at hk o hn ⊢
  refine KC.seq ?_
  refine KC.seq ?_
  refine KC.region ?_
  refine KT.step rfl rfl (K.move rfl) ?_
  refine KT.step rfl rfl (K.geq rfl rfl) ?_
  refine KT.nil ?_
  refine thenK_n ?_
  refine KC.cond rfl (fun hc12 => ?_) (fun hc12 => ?_)
  · skip
    replace hc12 := of_decide_eq_true hc12
    refine KC.skip ?_
    refine thenK_n ?_
    refine KC.seq ?_
    refine KC.block ?_
    refine KC.seq ?_
    refine KC.region ?_
    refine KT.step rfl rfl (K.move rfl) ?_
    refine KT.step rfl rfl (K.lenF rfl hd Try.underlying22) ?_
    refine KT.step rfl rfl (K.move rfl) ?_
    refine KT.nil ?_
    refine thenK_n ?_
    refine KC.block ?_
    refine KC.loop (fun p : List VObj × Nat => p.1) (fun p => [(0, .d d), (1, .d (DI gap)), (5, x), (6, .d (DI ((200 : Int) - (k : Nat)))), (15, .d d), (16, .d (DI (l.length : Nat))), (17, .d (DI (p.2 : Nat)))]) (fun p => p.2 ≤ l.length ∧ OwnK 1 p.1 x (xs (lvR gap l k)) ∧ hasE gap (l.take p.2) ((200 : Int) - (k : Nat)) = false) (fun p => l.length - p.2) (σ0, 0) ⟨Nat.zero_le _, o, rfl⟩ rfl (by simp [Go.Vm.look, extK]) ?_
    intro p hp
    obtain ⟨σ2, i⟩ := p
    obtain ⟨hi, o2, hi2⟩ := hp
    simp only at hi o2 hi2 ⊢
    refine KC.seq ?_
    refine KC.region ?_
    refine KT.step rfl rfl (K.lss rfl rfl) ?_
    refine KT.nil ?_
    refine thenK_n ?_
    refine KC.seq ?_
    refine KC.cond rfl (fun hc18 => ?_) (fun hc18 => ?_)
    · skip
      replace hc18 := of_decide_eq_true hc18
      have hil : i < l.length := by omega
      refine KC.skip ?_
      refine thenK_n ?_
      refine KC.seq ?_
      refine KC.block ?_
      refine KC.seq ?_
      refine KC.region ?_
      refine KT.step rfl rfl (K.idxF c3_len (m := i) rfl hd rfl hil Try.underlying22 Try.size63) ?_
      refine KT.step rfl rfl (K.loadFl (cs := c3 l[i]) rfl rfl Try.agg63 Try.size63) ?_
      refine KT.step rfl rfl (K.alloc Try.zero63) ?_
      refine KT.storeL (cs := (c3 l[i]).map .d) rfl rfl rfl rfl rfl rfl rfl Try.size63 ?_
      refine KT.nil ?_
      refine thenK_n ?_
      refine KC.seq ?_
      refine KC.region ?_
      refine KT.step rfl rfl (K.loadOA (c3 l[i]) rfl (List.getElem?_concat_length ..) (by decide) Try.agg63 Try.size63 rfl) ?_
      refine KT.step rfl rfl (K.move rfl) ?_
      refine KT.step rfl rfl (K.call2 rfl rfl plainTry_48 (rends48 (hall _ (List.getElem_mem hil)) g0 g20)) ?_
      refine KT.step rfl rfl (K.move rfl) ?_
      refine KT.step rfl rfl (K.extract rfl rfl) ?_
      refine KT.step rfl rfl (K.extract rfl rfl) ?_
      refine KT.step rfl rfl (K.assign rfl) ?_
      refine KT.step rfl rfl (K.assign rfl) ?_
      refine KT.nil ?_
      refine thenK_n ?_
      refine KC.seq ?_
      refine KC.region ?_
      refine KT.step rfl rfl (K.move rfl) ?_
      refine KT.step rfl rfl (K.move rfl) ?_
      refine KT.step rfl rfl (K.eql rfl rfl) ?_
      refine KT.step rfl rfl (K.move rfl) ?_
      refine KT.bcase (fun hb30 => ?_) (fun hb30 => ?_)
      · skip
        replace hb30 := of_decide_eq_true hb30
        have hyes : hasE gap l ((200 : Int) - (k : Nat)) = true := hasE_mem hil (.inl hb30)
        refine KT.skip rfl rfl ?_
        refine KT.skip rfl rfl ?_
        refine KT.skip rfl rfl ?_
        refine KT.step rfl rfl (K.pick rfl (fun _ => rfl) (fun h => by cases h)) ?_
        refine KT.nil ?_
        refine thenK_n ?_
        refine KC.cond rfl (fun hc34 => ?_) (fun hc34 => ?_)
        · skip
          refine KC.seq ?_
          refine KC.region ?_
          refine KT.step rfl rfl (K.move rfl) ?_
          refine KT.step rfl rfl (K.move rfl) ?_
          refine KT.step rfl rfl (K.build1' rfl rfl Try.underlying23 Try.one3) ?_
          refine KT.appL (k := 1) (q := 1) rfl rfl rfl rfl ((OwnL.own (o2.pushed _)).pushed _) (List.getElem?_concat_length ..) rfl (by decide) (by decide) rfl (by rw [xs_len]; have := lvR_len gap l k; omega) Try.underlying23 Try.size3 (of_decide_eq_true (by kernel_rfl)) (by kernel_rfl) (by decide) fun σ1 x1 o1 k1 w1 => ?_
          obtain ⟨j1, w2, w3⟩ := w1
          refine KT.step rfl rfl (K.assign rfl) ?_
          refine KT.nil ?_
          refine thenK_n ?_
          refine KC.exit ?_
          refine blockK_x (by decide) ?_
          refine thenK_x ?_
          refine thenK_x ?_
          refine blockK_e ?_
          refine blockK_n ?_
          refine thenK_n ?_
          refine KC.region ?_
          refine KT.step rfl rfl (K.move rfl) ?_
          refine KT.step rfl rfl (K.sub rfl rfl (wrap_id (by omega))) ?_
          refine KT.step rfl rfl (K.assign rfl) ?_
          refine KT.nil ?_
          refine thenK_n ?_
          have hst := lvR_succ gap l k
          rw [hyes, if_pos rfl] at hst
          refine ⟨(σ1, x1, k + 1), ⟨by simp only; omega, by simp only; rw [hst, xs_app]; exact o1, fun h => ?_⟩, by simp only; omega, rfl, by simp [Go.Vm.look, extK]; omega⟩
          simp only at h; rw [hst] at h; simp at h
        · cases hc34
      · skip
        replace hb30 := of_decide_eq_false hb30
        refine KT.step rfl rfl (K.move rfl) ?_
        refine KT.step rfl rfl (K.move rfl) ?_
        refine KT.step rfl rfl (K.eql rfl rfl) ?_
        refine KT.step rfl rfl (K.pick rfl (fun h => by cases h) (fun _ => rfl)) ?_
        refine KT.nil ?_
        refine thenK_n ?_
        refine KC.cond rfl (fun hc34 => ?_) (fun hc34 => ?_)
        · skip
          replace hc34 := of_decide_eq_true hc34
          have hyes : hasE gap l ((200 : Int) - (k : Nat)) = true := hasE_mem hil (.inr hc34)
          refine KC.seq ?_
          refine KC.region ?_
          refine KT.step rfl rfl (K.move rfl) ?_
          refine KT.step rfl rfl (K.move rfl) ?_
          refine KT.step rfl rfl (K.build1' rfl rfl Try.underlying23 Try.one3) ?_
          refine KT.appL (k := 1) (q := 1) rfl rfl rfl rfl ((OwnL.own (o2.pushed _)).pushed _) (List.getElem?_concat_length ..) rfl (by decide) (by decide) rfl (by rw [xs_len]; have := lvR_len gap l k; omega) Try.underlying23 Try.size3 (of_decide_eq_true (by kernel_rfl)) (by kernel_rfl) (by decide) fun σ1 x1 o1 k1 w1 => ?_
          obtain ⟨j1, w2, w3⟩ := w1
          refine KT.step rfl rfl (K.assign rfl) ?_
          refine KT.nil ?_
          refine thenK_n ?_
          refine KC.exit ?_
          refine blockK_x (by decide) ?_
          refine thenK_x ?_
          refine thenK_x ?_
          refine blockK_e ?_
          refine blockK_n ?_
          refine thenK_n ?_
          refine KC.region ?_
          refine KT.step rfl rfl (K.move rfl) ?_
          refine KT.step rfl rfl (K.sub rfl rfl (wrap_id (by omega))) ?_
          refine KT.step rfl rfl (K.assign rfl) ?_
          refine KT.nil ?_
          refine thenK_n ?_
          have hst := lvR_succ gap l k
          rw [hyes, if_pos rfl] at hst
          refine ⟨(σ1, x1, k + 1), ⟨by simp only; omega, by simp only; rw [hst, xs_app]; exact o1, fun h => ?_⟩, by simp only; omega, rfl, by simp [Go.Vm.look, extK]; omega⟩
          simp only at h; rw [hst] at h; simp at h
        · skip
          replace hc34 := of_decide_eq_false hc34
          refine KC.skip ?_
          refine blockK_n ?_
          refine thenK_n ?_
          refine KC.region ?_
          refine KT.step rfl rfl (K.add rfl rfl (wrap_id (by omega))) ?_
          refine KT.step rfl rfl (K.move rfl) ?_
          refine KT.nil ?_
          refine thenK_n ?_
          refine ⟨(_, i + 1), ⟨by simp only; omega, o2.pushed _, ?_⟩, by simp only; omega, rfl, by simp [Go.Vm.look, extK]⟩
          simp only
          rw [hasE_snoc hil, hi2, decide_eq_false hb30, decide_eq_false hc34]; rfl
    · skip
      replace hc18 := of_decide_eq_false hc18
      have hno : hasE gap l ((200 : Int) - (k : Nat)) = false := by rw [List.take_of_length_le (by omega)] at hi2; exact hi2
      refine KC.exit ?_
      refine thenK_x ?_
      refine thenK_x ?_
      refine blockK_e ?_
      refine blockK_n ?_
      refine thenK_n ?_
      refine KC.region ?_
      refine KT.step rfl rfl (K.move rfl) ?_
      refine KT.step rfl rfl (K.sub rfl rfl (wrap_id (by omega))) ?_
      refine KT.step rfl rfl (K.assign rfl) ?_
      refine KT.nil ?_
      refine thenK_n ?_
      have hst := lvR_succ gap l k
      rw [hno] at hst
      simp only [Bool.false_eq_true, if_false] at hst
      exact ⟨(σ2, x, k + 1), ⟨by simp only; omega, by simp only; rw [hst]; exact o2, by simp only; rw [hst]; exact hn⟩, by simp only; omega, rfl, by simp [Go.Vm.look, extK]; omega⟩
  · skip
    replace hc12 := of_decide_eq_false hc12
    refine KC.exit ?_
    refine thenK_x ?_
    refine thenK_x ?_
    refine blockK_e ?_
    refine thenK_n ?_
    refine KC.seq ?_
    refine KC.region ?_
    refine KT.step rfl rfl (K.move rfl) ?_
    refine KT.step rfl rfl (K.assign rfl) ?_
    refine KT.nil ?_
    refine thenK_n ?_
    refine KC.ret ?_
    have e : k = 221 := by omega
    subst e
    rw [lvR_eq hok] at o
    have hne : lvls gap l ≠ [] := fun e => by have := lvls_two hok; rw [e] at this; simp at this
    exact ⟨.inl rfl, _, rfl, own_deep o hne⟩
set_option maxHeartbeats 1000000 in
set_option maxRecDepth 10000 in
theorem rcascade24 {d : DV} {l : List Sm} {gap : Int} (hd : StD d l) (hok : okH l gap = true) {h : Int} (h0 : 0 ≤ h) (h1 : h ≤ 2000000) : DeepCall Try.prog 24 [d, DI gap, DI h] (cascV gap l h) := by
  obtain ⟨n1, n8, g0, g20, hall⟩ := okH_iff.1 hok
  have n2 := lvls_two hok
  have nl := lvls_length gap l
  have hpl := prs_length (lvls gap l)
  have hlv := lvls_in hok
  refine deepCall_K 5 Try.func24 rfl (Nat.le_of_ble_eq_true rfl) fun M W0 => ?_
  refine KC.seq ?_
  refine KC.region ?_
  refine KT.step rfl rfl (K.assign rfl) ?_
  refine KT.nil ?_
  refine thenK_n ?_
  refine KC.seq ?_
  refine KC.region ?_
  refine KT.step rfl rfl (K.move rfl) ?_
  refine KT.step rfl rfl (K.build1' rfl rfl Try.underlying23 Try.one3) ?_
  refine KT.step rfl rfl (K.assign rfl) ?_
  refine KT.nil ?_
  refine thenK_n ?_
  refine KC.seq ?_
  refine KC.region ?_
  refine KT.step rfl rfl (K.move rfl) ?_
  refine KT.step rfl rfl (K.move rfl) ?_
  refine KT.step rfl rfl (K.call2 rfl rfl plainTry_22 (rlevels22 hd hok)) ?_
  refine KT.step rfl rfl (K.assign rfl) ?_
  refine KT.nil ?_
  refine thenK_n ?_
  refine KC.seq ?_
  refine KC.seq ?_
  refine KC.region ?_
  refine KT.step rfl rfl (K.assign rfl) ?_
  refine KT.nil ?_
  refine thenK_n ?_
  refine KC.block ?_
  refine KC.loop (fun p : List VObj × XV × Nat => p.1) (fun p => [(0, .d d), (1, .d (DI gap)), (2, .d (DI (cat (surp gap l) h (prs (lvls gap l)) (p.2.2 - 1)))), (7, p.2.1), (8, .d (.sl (ints (lvls gap l)) (lvls gap l).length none)), (9, .d (DI (p.2.2 : Nat)))]) (fun p => 1 ≤ p.2.2 ∧ p.2.2 ≤ (lvls gap l).length ∧ OwnL 1 p.1 p.2.1 (xs (cscan (surp gap l) h ((prs (lvls gap l)).take (p.2.2 - 1)))) ∧ (2 ≤ p.2.2 → OwnK 1 p.1 p.2.1 (xs (cscan (surp gap l) h ((prs (lvls gap l)).take (p.2.2 - 1)))))) (fun p => (lvls gap l).length - p.2.2) (_, .osl 0 0 1 1 1 true, 1) ⟨Nat.le_refl _, (show 1 ≤ (lvls gap l).length by omega), .lit rfl rfl, fun h => absurd (show 2 ≤ 1 from h) (by decide)⟩ rfl (by simp [Go.Vm.look, extK, enterK, cat_zero]) ?_
  intro p hp
  obtain ⟨σ0, x, k⟩ := p
  obtain ⟨hk1, hk, o, oK⟩ := hp
  simp only at hk1 hk o oK ⊢
  refine KC.seq ?_
  refine KC.seq ?_
  refine KC.region ?_
  refine KT.step rfl rfl (K.move rfl) ?_
  refine KT.step rfl rfl (K.move rfl) ?_
  refine KT.step rfl rfl (K.len rfl ints_ok Try.underlying23) ?_
  refine KT.step rfl rfl (K.lss rfl rfl) ?_
  refine KT.nil ?_
  refine thenK_n ?_
  refine KC.cond rfl (fun hc21 => ?_) (fun hc21 => ?_)
  · skip
    replace hc21 := of_decide_eq_true hc21
    have hm1 := hlv _ (List.getElem_mem (show k - 1 < (lvls gap l).length by omega))
    have hm2 := hlv _ (List.getElem_mem (show k < (lvls gap l).length by omega))
    refine KC.skip ?_
    refine thenK_n ?_
    refine KC.seq ?_
    refine KC.block ?_
    refine KC.seq ?_
    refine KC.seq ?_
    refine KC.region ?_
    refine KT.step rfl rfl (K.move rfl) ?_
    refine KT.step rfl rfl (K.lenF rfl hd Try.underlying22) ?_
    refine KT.step rfl rfl (K.move rfl) ?_
    refine KT.nil ?_
    refine thenK_n ?_
    refine KC.block ?_
    refine KC.loop (fun p : List VObj × Nat => p.1) (fun p => [(0, .d d), (1, .d (DI gap)), (2, .d (DI (cat (surp gap l) h (prs (lvls gap l)) (k - 1) + surp gap (l.take p.2) (lvls gap l)[k - 1] (lvls gap l)[k]))), (7, x), (8, .d (.sl (ints (lvls gap l)) (lvls gap l).length none)), (9, .d (DI (k : Nat))), (24, .d d), (25, .d (DI (l.length : Nat))), (26, .d (DI (p.2 : Nat)))]) (fun p => p.2 ≤ l.length ∧ OwnL 1 p.1 x (xs (cscan (surp gap l) h ((prs (lvls gap l)).take (k - 1))))) (fun p => l.length - p.2) (σ0, 0) ⟨Nat.zero_le _, o⟩ rfl (by simp [Go.Vm.look, extK, surp]) ?_
    intro p hp
    obtain ⟨σ2, i⟩ := p
    obtain ⟨hi, o2⟩ := hp
    simp only at hi o2 ⊢
    refine KC.seq ?_
    refine KC.region ?_
    refine KT.step rfl rfl (K.lss rfl rfl) ?_
    refine KT.nil ?_
    refine thenK_n ?_
    refine KC.seq ?_
    refine KC.cond rfl (fun hc27 => ?_) (fun hc27 => ?_)
    · skip
      replace hc27 := of_decide_eq_true hc27
      have hil : i < l.length := by omega
      have hhb := ht_bd (gap := gap) (hall _ (List.getElem_mem hil)) (lvls gap l)[k - 1] (lvls gap l)[k]
      refine KC.skip ?_
      refine thenK_n ?_
      refine KC.seq ?_
      refine KC.block ?_
      refine KC.seq ?_
      refine KC.region ?_
      refine KT.step rfl rfl (K.idxF c3_len (m := i) rfl hd rfl hil Try.underlying22 Try.size63) ?_
      refine KT.step rfl rfl (K.loadFl (cs := c3 l[i]) rfl rfl Try.agg63 Try.size63) ?_
      refine KT.step rfl rfl (K.alloc Try.zero63) ?_
      refine KT.storeL (cs := (c3 l[i]).map .d) rfl rfl rfl rfl rfl rfl rfl Try.size63 ?_
      refine KT.nil ?_
      refine thenK_n ?_
      refine KC.seq ?_
      refine KC.draw Try.mixed ?_
      refine KT.step rfl rfl (K.loadOA (c3 l[i]) rfl (List.getElem?_concat_length ..) (by decide) Try.agg63 Try.size63 rfl) ?_
      refine KT.step rfl rfl (K.move rfl) ?_
      refine KT.step rfl rfl (K.move rfl) ?_
      refine KT.step rfl rfl (K.move rfl) ?_
      refine KT.step rfl rfl (K.sub rfl rfl (wrap_id (by omega))) ?_
      have hix : (k : Int) - 1 = ((k - 1 : Nat) : Int) := by omega
      rw [hix]
      refine KT.idxI (m := k - 1) rfl rfl rfl ints_ok rfl (by omega) Try.underlying23 Try.size3 fun cs35 => ?_
      refine KT.step rfl rfl (K.load rfl Try.agg3) ?_
      refine KT.step rfl rfl (K.move rfl) ?_
      refine KT.step rfl rfl (K.move rfl) ?_
      refine KT.idxI (m := k) rfl rfl rfl ints_ok rfl (by omega) Try.underlying23 Try.size3 fun cs39 => ?_
      refine KT.step rfl rfl (K.load rfl Try.agg3) ?_
      refine KT.step rfl rfl (K.call4 rfl rfl rfl rfl plainTry_49 (rheat49 (hall _ (List.getElem_mem hil)) g0 g20 ⟨by omega, by omega⟩ ⟨by omega, by omega⟩)) ?_
      refine KT.step rfl rfl (K.assign rfl) ?_
      refine KT.nil ?_
      refine ⟨by kernel_rfl, ?_⟩
      refine thenK_n ?_
      refine KC.seq ?_
      refine KC.seq ?_
      refine KC.region ?_
      refine KT.step rfl rfl (K.loadOA (c3 l[i]) rfl (List.getElem?_concat_length ..) (by decide) Try.agg63 Try.size63 rfl) ?_
      refine KT.step rfl rfl (K.call1 rfl plainTry_50 (rhot50 l[i])) ?_
      refine KT.step rfl rfl (K.not rfl) ?_
      refine KT.nil ?_
      refine thenK_n ?_
      refine KC.cond rfl (fun hc44 => ?_) (fun hc44 => ?_)
      · skip
        refine KC.region ?_
        refine KT.step rfl rfl (K.move rfl) ?_
        refine KT.step rfl rfl (K.unI rfl (wrap_id (by omega))) ?_
        refine KT.step rfl rfl (K.assign rfl) ?_
        refine KT.nil ?_
        refine thenK_n ?_
        refine KC.region ?_
        refine KT.step rfl rfl (K.move rfl) ?_
        refine KT.step rfl rfl (K.move rfl) ?_
        have bs := surp_take (gap := gap) hall n8 (lvls gap l)[k - 1] (lvls gap l)[k] i
        have cb := casc_bd hok h (k - 1)
        refine KT.step rfl rfl (K.add rfl rfl (wrap_id (by omega))) ?_
        refine KT.step rfl rfl (K.assign rfl) ?_
        refine KT.nil ?_
        refine blockK_n ?_
        refine thenK_n ?_
        refine KC.region ?_
        refine KT.step rfl rfl (K.add rfl rfl (wrap_id (by omega))) ?_
        refine KT.step rfl rfl (K.move rfl) ?_
        refine KT.nil ?_
        refine thenK_n ?_
        have hss := surp_snoc (gap := gap) (u := (lvls gap l)[k - 1]) (d := (lvls gap l)[k]) hil
        have hsv : hs gap (lvls gap l)[k - 1] (lvls gap l)[k] l[i] = - ht gap l[i] (lvls gap l)[k - 1] (lvls gap l)[k] := by unfold Ht.hs; rw [show hot l[i] = false by simpa using hc44]; rfl
        rw [hsv] at hss
        refine ⟨(_, i + 1), ⟨by simp only; omega, o2.pushed _⟩, by simp only; omega, rfl, by simp [Go.Vm.look, extK, hss]; omega⟩
      · skip
        refine KC.skip ?_
        refine thenK_n ?_
        refine KC.region ?_
        refine KT.step rfl rfl (K.move rfl) ?_
        refine KT.step rfl rfl (K.move rfl) ?_
        have bs := surp_take (gap := gap) hall n8 (lvls gap l)[k - 1] (lvls gap l)[k] i
        have cb := casc_bd hok h (k - 1)
        refine KT.step rfl rfl (K.add rfl rfl (wrap_id (by omega))) ?_
        refine KT.step rfl rfl (K.assign rfl) ?_
        refine KT.nil ?_
        refine blockK_n ?_
        refine thenK_n ?_
        refine KC.region ?_
        refine KT.step rfl rfl (K.add rfl rfl (wrap_id (by omega))) ?_
        refine KT.step rfl rfl (K.move rfl) ?_
        refine KT.nil ?_
        refine thenK_n ?_
        have hss := surp_snoc (gap := gap) (u := (lvls gap l)[k - 1]) (d := (lvls gap l)[k]) hil
        have hsv : hs gap (lvls gap l)[k - 1] (lvls gap l)[k] l[i] = ht gap l[i] (lvls gap l)[k - 1] (lvls gap l)[k] := by unfold Ht.hs; rw [show hot l[i] = true by simpa using hc44]; rfl
        rw [hsv] at hss
        refine ⟨(_, i + 1), ⟨by simp only; omega, o2.pushed _⟩, by simp only; omega, rfl, by simp [Go.Vm.look, extK, hss]; omega⟩
    · skip
      replace hc27 := of_decide_eq_false hc27
      have et : l.take i = l := List.take_of_length_le (by omega)
      have hpk : k - 1 < (prs (lvls gap l)).length := by omega
      have hcs := cat_succ (f := surp gap l) (h := h) hpk
      have hpg := prs_get (ls := lvls gap l) (k := k - 1) (by omega)
      have hk1' : (lvls gap l)[k - 1 + 1]'(by omega) = (lvls gap l)[k] := by congr 1; omega
      rw [hpg] at hcs
      simp only [hk1'] at hcs
      have hsn := cscan_snoc (surp gap l) h (prs (lvls gap l)) hpk
      simp only [Nat.sub_add_cancel hk1] at hcs hsn
      refine KC.exit ?_
      refine thenK_x ?_
      refine thenK_x ?_
      refine blockK_e ?_
      refine thenK_n ?_
      refine KC.region ?_
      refine KT.step rfl rfl (K.move rfl) ?_
      refine KT.step rfl rfl (K.move rfl) ?_
      refine KT.step rfl rfl (K.build1' rfl rfl Try.underlying23 Try.one3) ?_
      refine KT.appL (k := 1) (q := 1) rfl rfl rfl rfl (o2.pushed _) (List.getElem?_concat_length ..) rfl (by decide) (by decide) rfl (by rw [xs_len, cscan_length, List.length_take]; omega) Try.underlying23 Try.size3 (of_decide_eq_true (by kernel_rfl)) (by kernel_rfl) (by decide) fun σ1 x1 o1 k1 w1 => ?_
      obtain ⟨j1, w2, w3⟩ := w1
      refine KT.step rfl rfl (K.assign rfl) ?_
      refine KT.nil ?_
      refine blockK_n ?_
      refine thenK_n ?_
      refine KC.region ?_
      refine KT.step rfl rfl (K.move rfl) ?_
      refine KT.step rfl rfl (K.add rfl rfl (wrap_id (by omega))) ?_
      refine KT.step rfl rfl (K.assign rfl) ?_
      refine KT.nil ?_
      refine thenK_n ?_
      refine ⟨(σ1, x1, k + 1), ⟨by simp only; omega, by simp only; omega, ?_, fun _ => ?_⟩, by simp only; omega, rfl, ?_⟩
      · simp only [Nat.add_sub_cancel]; rw [hsn, xs_app, hcs]; exact .own (by rw [et] at o1; exact o1)
      · simp only [Nat.add_sub_cancel]; rw [hsn, xs_app, hcs]; rw [et] at o1; exact o1
      · simp [Go.Vm.look, extK, hcs, et]
  · skip
    replace hc21 := of_decide_eq_false hc21
    refine KC.exit ?_
    refine thenK_x ?_
    refine thenK_x ?_
    refine blockK_e ?_
    refine thenK_n ?_
    refine KC.seq ?_
    refine KC.region ?_
    refine KT.step rfl rfl (K.move rfl) ?_
    refine KT.step rfl rfl (K.assign rfl) ?_
    refine KT.nil ?_
    refine thenK_n ?_
    refine KC.ret ?_
    have e : k = (lvls gap l).length := by omega
    have oK := oK (by omega)
    rw [List.take_of_length_le (by omega)] at oK
    exact ⟨.inl rfl, _, rfl, own_deep oK cscan_ne⟩
set_option maxRecDepth 10000 in
theorem rutilities27 {d : DV} {l : List Sm} {gap : Int} (hd : StD d l) (hok : okH l gap = true) : DeepCall Try.prog 27 [d, DI gap] (.tup [DI (hotU gap l), DI (coldU gap l)]) := by
  obtain ⟨n1, n8, g0, g20, hall⟩ := okH_iff.1 hok
  have n2 := lvls_two hok
  have nl := lvls_length gap l
  have hpl := prs_length (lvls gap l)
  have hlv := lvls_in hok
  have hb := hotU_bd hok
  have hcl0 := casc_lvls hok 0
  have hcl := casc_lvls hok (hotU gap l)
  refine deepCall_K 5 Try.func27 rfl (Nat.le_of_ble_eq_true rfl) fun M W0 => ?_
  refine KC.seq ?_
  refine KC.region ?_
  refine KT.step rfl rfl (K.assign rfl) ?_
  refine KT.step rfl rfl (K.assign rfl) ?_
  refine KT.nil ?_
  refine thenK_n ?_
  refine KC.seq ?_
  refine KC.region ?_
  refine KT.step rfl rfl (K.assign rfl) ?_
  refine KT.nil ?_
  refine thenK_n ?_
  refine KC.seq ?_
  refine KC.seq ?_
  refine KC.region ?_
  refine KT.step rfl rfl (K.move rfl) ?_
  refine KT.step rfl rfl (K.move rfl) ?_
  refine KT.step rfl rfl (K.call3 rfl rfl rfl plainTry_24 (rcascade24 hd hok (by decide) (by decide))) ?_
  refine KT.step rfl rfl (K.len rfl ints_ok Try.underlying23) ?_
  refine KT.step rfl rfl (K.move rfl) ?_
  refine KT.nil ?_
  refine thenK_n ?_
  refine KC.block ?_
  refine KC.loop (fun _ : Nat => []) (fun k => [(0, .d d), (1, .d (DI gap)), (6, .d (DI (((casc gap l 0).take k).foldl (fun h y => max h (0 - y)) 0))), (12, .d (cascV gap l 0)), (13, .d (DI ((casc gap l 0).length : Nat))), (14, .d (DI (k : Nat)))]) (fun k => k ≤ (casc gap l 0).length) (fun k => (casc gap l 0).length - k) 0 (Nat.zero_le _) rfl (by simp [Go.Vm.look, extK, enterK]) ?_
  intro k hk
  refine KC.seq ?_
  refine KC.region ?_
  refine KT.step rfl rfl (K.lss rfl rfl) ?_
  refine KT.nil ?_
  refine thenK_n ?_
  refine KC.seq ?_
  refine KC.cond rfl (fun hc15 => ?_) (fun hc15 => ?_)
  · skip
    replace hc15 := of_decide_eq_true hc15
    refine KC.skip ?_
    refine thenK_n ?_
    refine KC.seq ?_
    refine KC.block ?_
    refine KC.seq ?_
    refine KC.region ?_
    refine KT.idxI (m := k) rfl rfl rfl ints_ok rfl (by omega) Try.underlying23 Try.size3 fun cs16 => ?_
    refine KT.step rfl rfl (K.load rfl Try.agg3) ?_
    refine KT.step rfl rfl (K.assign rfl) ?_
    refine KT.nil ?_
    refine thenK_n ?_
    refine KC.region ?_
    refine KT.step rfl rfl (K.move rfl) ?_
    refine KT.step rfl rfl (K.move rfl) ?_
    have cb := casc_bd hok 0 k
    rw [← casc_get (by omega)] at cb
    refine KT.step rfl rfl (K.unI rfl (wrap_id (by omega))) ?_
    refine KT.step rfl rfl (K.max2 rfl rfl) ?_
    refine KT.step rfl rfl (K.assign rfl) ?_
    refine KT.nil ?_
    refine blockK_n ?_
    refine thenK_n ?_
    refine KC.region ?_
    refine KT.step rfl rfl (K.add rfl rfl (wrap_id (by omega))) ?_
    refine KT.step rfl rfl (K.move rfl) ?_
    refine KT.nil ?_
    refine thenK_n ?_
    have hf := foldl_take (f := fun h y => max h (0 - y)) (l := casc gap l 0) (x := 0) (k := k) (by omega)
    simp only [Int.zero_sub] at hf
    refine ⟨k + 1, by omega, by omega, rfl, by simp [Go.Vm.look, extK, hf]⟩
  · skip
    replace hc15 := of_decide_eq_false hc15
    have hfold : hotU gap l = ((casc gap l 0).take k).foldl (fun h y => max h (0 - y)) 0 := by
      rw [List.take_of_length_le (by omega), hotU_fold]; congr 1; funext h y; rw [Int.zero_sub]
    rw [← hfold]
    refine KC.exit ?_
    refine thenK_x ?_
    refine thenK_x ?_
    refine blockK_e ?_
    refine thenK_n ?_
    refine KC.seq ?_
    refine KC.region ?_
    refine KT.step rfl rfl (K.move rfl) ?_
    refine KT.step rfl rfl (K.move rfl) ?_
    refine KT.step rfl rfl (K.move rfl) ?_
    refine KT.step rfl rfl (K.call3 rfl rfl rfl plainTry_24 (rcascade24 hd hok hb.1 (by omega))) ?_
    refine KT.step rfl rfl (K.assign rfl) ?_
    refine KT.nil ?_
    refine thenK_n ?_
    refine KC.seq ?_
    refine KC.draw Try.mixed ?_
    refine KT.step rfl rfl (K.move rfl) ?_
    refine KT.step rfl rfl (K.move rfl) ?_
    refine KT.step rfl rfl (K.move rfl) ?_
    refine KT.step rfl rfl (K.len rfl ints_ok Try.underlying23) ?_
    refine KT.step rfl rfl (K.sub rfl rfl (wrap_id (by omega))) ?_
    have hix : ((casc gap l (hotU gap l)).length : Int) - 1 = (((casc gap l (hotU gap l)).length - 1 : Nat) : Int) := by omega
    rw [hix]
    refine KT.idxI (m := (casc gap l (hotU gap l)).length - 1) rfl rfl rfl ints_ok rfl (by omega) Try.underlying23 Try.size3 fun cs32 => ?_
    refine KT.step rfl rfl (K.load rfl Try.agg3) ?_
    refine KT.step rfl rfl (K.assign rfl) ?_
    refine KT.step rfl rfl (K.assign rfl) ?_
    refine KT.nil ?_
    refine ⟨by kernel_rfl, ?_⟩
    refine thenK_n ?_
    refine KC.ret ?_
    have e2 : (casc gap l (hotU gap l))[(casc gap l (hotU gap l)).length - 1]'(by omega) = coldU gap l := by rw [casc_get]; unfold coldU; congr 1; rw [casc_length]; omega
    refine ⟨.inl rfl, _, rfl, ?_⟩
    show some (DV.tup [DI _, DI _]) = _
    rw [e2]
set_option maxRecDepth 10000 in
theorem rpinches28 {d : DV} {l : List Sm} {gap : Int} (hd : StD d l) (hok : okH l gap = true) : DeepCall Try.prog 28 [d, DI gap] (intsV (pins (lvls gap l) (casc gap l (hotU gap l)))) := by
  obtain ⟨n1, n8, g0, g20, hall⟩ := okH_iff.1 hok
  have n2 := lvls_two hok
  have nl := lvls_length gap l
  have hpl := prs_length (lvls gap l)
  have hlv := lvls_in hok
  have hb := hotU_bd hok
  have hcl := casc_lvls hok (hotU gap l)
  refine deepCall_K 5 Try.func28 rfl (Nat.le_of_ble_eq_true rfl) fun M W0 => ?_
  refine KC.seq ?_
  refine KC.region ?_
  refine KT.step rfl rfl (K.assign rfl) ?_
  refine KT.nil ?_
  refine thenK_n ?_
  refine KC.seq ?_
  refine KC.region ?_
  refine KT.step rfl rfl (K.move rfl) ?_
  refine KT.step rfl rfl (K.move rfl) ?_
  refine KT.step rfl rfl (K.call2 rfl rfl plainTry_27 (rutilities27 hd hok)) ?_
  refine KT.step rfl rfl (K.move rfl) ?_
  refine KT.step rfl rfl (K.extract rfl rfl) ?_
  refine KT.step rfl rfl (K.extract rfl rfl) ?_
  refine KT.step rfl rfl (K.assign rfl) ?_
  refine KT.step rfl rfl (K.assign rfl) ?_
  refine KT.nil ?_
  refine thenK_n ?_
  refine KC.seq ?_
  refine KC.region ?_
  refine KT.step rfl rfl (K.move rfl) ?_
  refine KT.step rfl rfl (K.move rfl) ?_
  refine KT.step rfl rfl (K.call2 rfl rfl plainTry_22 (rlevels22 hd hok)) ?_
  refine KT.step rfl rfl (K.assign rfl) ?_
  refine KT.nil ?_
  refine thenK_n ?_
  refine KC.seq ?_
  refine KC.region ?_
  refine KT.step rfl rfl (K.assign rfl) ?_
  refine KT.nil ?_
  refine thenK_n ?_
  refine KC.seq ?_
  refine KC.seq ?_
  refine KC.region ?_
  refine KT.step rfl rfl (K.move rfl) ?_
  refine KT.step rfl rfl (K.move rfl) ?_
  refine KT.step rfl rfl (K.move rfl) ?_
  refine KT.step rfl rfl (K.call3 rfl rfl rfl plainTry_24 (rcascade24 hd hok hb.1 (by omega))) ?_
  refine KT.step rfl rfl (K.len rfl ints_ok Try.underlying23) ?_
  refine KT.step rfl rfl (K.move rfl) ?_
  refine KT.nil ?_
  refine thenK_n ?_
  refine KC.block ?_
  refine KC.loop (fun p : List VObj × XV × Nat => p.1) (fun p => [(0, .d d), (1, .d (DI gap)), (5, .d (DI (hotU gap l))), (7, .d (.sl (ints (lvls gap l)) (lvls gap l).length none)), (8, p.2.1), (23, .d (cascV gap l (hotU gap l))), (24, .d (DI ((casc gap l (hotU gap l)).length : Nat))), (25, .d (DI (p.2.2 : Nat)))]) (fun p => p.2.2 ≤ (casc gap l (hotU gap l)).length ∧ OwnK 1 p.1 p.2.1 (xs (pinG (lvls gap l) (casc gap l (hotU gap l)) (casc gap l (hotU gap l)).length p.2.2)) ∧ (pinG (lvls gap l) (casc gap l (hotU gap l)) (casc gap l (hotU gap l)).length p.2.2 = [] → p.2.1 = .d Dnil)) (fun p => (casc gap l (hotU gap l)).length - p.2.2) (_, .d Dnil, 0) ⟨Nat.zero_le _, .nil, fun _ => rfl⟩ rfl (by simp [Go.Vm.look, extK, enterK]) ?_
  intro p hp
  obtain ⟨σ0, x, k⟩ := p
  obtain ⟨hk, o, hn⟩ := hp
  simp only at hk o hn ⊢
  refine KC.seq ?_
  refine KC.region ?_
  refine KT.step rfl rfl (K.lss rfl rfl) ?_
  refine KT.nil ?_
  refine thenK_n ?_
  refine KC.seq ?_
  refine KC.cond rfl (fun hc26 => ?_) (fun hc26 => ?_)
  · skip
    replace hc26 := of_decide_eq_true hc26
    refine KC.skip ?_
    refine thenK_n ?_
    refine KC.seq ?_
    refine KC.block ?_
    refine KC.seq ?_
    refine KC.region ?_
    refine KT.step rfl rfl (K.move rfl) ?_
    refine KT.idxI (m := k) rfl rfl rfl ints_ok rfl (by omega) Try.underlying23 Try.size3 fun cs28 => ?_
    refine KT.step rfl rfl (K.load rfl Try.agg3) ?_
    refine KT.step rfl rfl (K.assign rfl) ?_
    refine KT.step rfl rfl (K.assign rfl) ?_
    refine KT.nil ?_
    refine thenK_n ?_
    refine KC.seq ?_
    refine KC.region ?_
    refine KT.step rfl rfl (K.move rfl) ?_
    refine KT.step rfl rfl (K.eql rfl rfl) ?_
    refine KT.step rfl rfl (K.move rfl) ?_
    refine KT.bcase (fun hb32 => ?_) (fun hb32 => ?_)
    · skip
      replace hb32 := of_decide_eq_true hb32
      refine KT.step rfl rfl (K.move rfl) ?_
      refine KT.step rfl rfl (K.gtr rfl rfl) ?_
      refine KT.step rfl rfl (K.pick rfl (fun _ => rfl) (fun h => by cases h)) ?_
      refine KT.step rfl rfl (K.move rfl) ?_
      refine KT.bcase (fun hb36 => ?_) (fun hb36 => ?_)
      · skip
        replace hb36 := of_decide_eq_true hb36
        refine KT.step rfl rfl (K.move rfl) ?_
        refine KT.step rfl rfl (K.move rfl) ?_
        refine KT.step rfl rfl (K.len rfl ints_ok Try.underlying23) ?_
        refine KT.step rfl rfl (K.sub rfl rfl (wrap_id (by omega))) ?_
        refine KT.step rfl rfl (K.lss rfl rfl) ?_
        refine KT.step rfl rfl (K.pick rfl (fun _ => rfl) (fun h => by cases h)) ?_
        refine KT.nil ?_
        refine thenK_n ?_
        refine KC.cond rfl (fun hc42 => ?_) (fun hc42 => ?_)
        · skip
          replace hc42 := of_decide_eq_true hc42
          refine KC.region ?_
          refine KT.step rfl rfl (K.move rfl) ?_
          refine KT.step rfl rfl (K.move rfl) ?_
          refine KT.step rfl rfl (K.move rfl) ?_
          refine KT.idxI (m := k) rfl rfl rfl ints_ok rfl (by omega) Try.underlying23 Try.size3 fun cs46 => ?_
          refine KT.step rfl rfl (K.load rfl Try.agg3) ?_
          refine KT.step rfl rfl (K.build1' rfl rfl Try.underlying23 Try.one3) ?_
          refine KT.appL (k := 1) (q := 1) rfl rfl rfl rfl ((OwnL.own (o.pushed _))) (List.getElem?_concat_length ..) rfl (by decide) (by decide) rfl (by rw [xs_len]; have := pinG_len (lvls gap l) (casc gap l (hotU gap l)) (casc gap l (hotU gap l)).length k; omega) Try.underlying23 Try.size3 (of_decide_eq_true (by kernel_rfl)) (by kernel_rfl) (by decide) fun σ1 x1 o1 k1 w1 => ?_
          obtain ⟨j1, w2, w3⟩ := w1
          refine KT.step rfl rfl (K.assign rfl) ?_
          refine KT.nil ?_
          refine blockK_n ?_
          refine thenK_n ?_
          refine KC.region ?_
          refine KT.step rfl rfl (K.add rfl rfl (wrap_id (by omega))) ?_
          refine KT.step rfl rfl (K.move rfl) ?_
          refine KT.nil ?_
          refine thenK_n ?_
          have hst := pinG_succ (ls := lvls gap l) (c := casc gap l (hotU gap l)) (n := (casc gap l (hotU gap l)).length) (k := k)
          have hgd : (casc gap l (hotU gap l)).getD k 0 = (casc gap l (hotU gap l))[k] := by simp [show k < (casc gap l (hotU gap l)).length by omega]
          rw [if_pos ⟨by omega, by omega, by rw [hgd]; exact hb32⟩] at hst
          refine ⟨(σ1, x1, k + 1), ⟨by simp only; omega, ?_, fun h => ?_⟩, by simp only; omega, rfl, by simp [Go.Vm.look, extK]⟩
          · simp only; rw [hst, xs_app, show (lvls gap l).getD k 0 = (lvls gap l)[k] by simp [show k < (lvls gap l).length by omega]]; exact o1
          · simp only at h; rw [hst] at h; simp at h
        · skip
          replace hc42 := of_decide_eq_false hc42
          refine KC.skip ?_
          refine blockK_n ?_
          refine thenK_n ?_
          refine KC.region ?_
          refine KT.step rfl rfl (K.add rfl rfl (wrap_id (by omega))) ?_
          refine KT.step rfl rfl (K.move rfl) ?_
          refine KT.nil ?_
          refine thenK_n ?_
          have hst := pinG_succ (ls := lvls gap l) (c := casc gap l (hotU gap l)) (n := (casc gap l (hotU gap l)).length) (k := k)
          have hgd : (casc gap l (hotU gap l)).getD k 0 = (casc gap l (hotU gap l))[k] := by simp [show k < (casc gap l (hotU gap l)).length by omega]
          rw [hgd, if_neg (fun h => by
            obtain ⟨h1, h2, h3⟩ := h
            first | exact hb32 h3 | omega | (simp at hc42; omega))] at hst
          exact ⟨(σ0, x, k + 1), ⟨by simp only; omega, by simp only; rw [hst]; exact o, by simp only; rw [hst]; exact hn⟩, by simp only; omega, rfl, by simp [Go.Vm.look, extK]⟩
      · skip
        replace hb36 := of_decide_eq_false hb36
        refine KT.skip rfl rfl ?_
        refine KT.skip rfl rfl ?_
        refine KT.skip rfl rfl ?_
        refine KT.skip rfl rfl ?_
        refine KT.skip rfl rfl ?_
        refine KT.step rfl rfl (K.pick rfl (fun h => by cases h) (fun _ => rfl)) ?_
        refine KT.nil ?_
        refine thenK_n ?_
        refine KC.cond rfl (fun hc42 => ?_) (fun hc42 => ?_)
        · cases hc42
        · skip
          refine KC.skip ?_
          refine blockK_n ?_
          refine thenK_n ?_
          refine KC.region ?_
          refine KT.step rfl rfl (K.add rfl rfl (wrap_id (by omega))) ?_
          refine KT.step rfl rfl (K.move rfl) ?_
          refine KT.nil ?_
          refine thenK_n ?_
          have hst := pinG_succ (ls := lvls gap l) (c := casc gap l (hotU gap l)) (n := (casc gap l (hotU gap l)).length) (k := k)
          have hgd : (casc gap l (hotU gap l)).getD k 0 = (casc gap l (hotU gap l))[k] := by simp [show k < (casc gap l (hotU gap l)).length by omega]
          rw [hgd, if_neg (fun h => by
            obtain ⟨h1, h2, h3⟩ := h
            first | exact hb32 h3 | omega | (simp at hc42; omega))] at hst
          exact ⟨(σ0, x, k + 1), ⟨by simp only; omega, by simp only; rw [hst]; exact o, by simp only; rw [hst]; exact hn⟩, by simp only; omega, rfl, by simp [Go.Vm.look, extK]⟩
    · skip
      replace hb32 := of_decide_eq_false hb32
      refine KT.skip rfl rfl ?_
      refine KT.skip rfl rfl ?_
      refine KT.step rfl rfl (K.pick rfl (fun h => by cases h) (fun _ => rfl)) ?_
      refine KT.step rfl rfl (K.move rfl) ?_
      refine KT.skip rfl rfl ?_
      refine KT.skip rfl rfl ?_
      refine KT.skip rfl rfl ?_
      refine KT.skip rfl rfl ?_
      refine KT.skip rfl rfl ?_
      refine KT.step rfl rfl (K.pick rfl (fun h => by cases h) (fun _ => rfl)) ?_
      refine KT.nil ?_
      refine thenK_n ?_
      refine KC.cond rfl (fun hc42 => ?_) (fun hc42 => ?_)
      · cases hc42
      · skip
        refine KC.skip ?_
        refine blockK_n ?_
        refine thenK_n ?_
        refine KC.region ?_
        refine KT.step rfl rfl (K.add rfl rfl (wrap_id (by omega))) ?_
        refine KT.step rfl rfl (K.move rfl) ?_
        refine KT.nil ?_
        refine thenK_n ?_
        have hst := pinG_succ (ls := lvls gap l) (c := casc gap l (hotU gap l)) (n := (casc gap l (hotU gap l)).length) (k := k)
        have hgd : (casc gap l (hotU gap l)).getD k 0 = (casc gap l (hotU gap l))[k] := by simp [show k < (casc gap l (hotU gap l)).length by omega]
        rw [hgd, if_neg (fun h => by
          obtain ⟨h1, h2, h3⟩ := h
          first | exact hb32 h3 | omega | (simp at hc42; omega))] at hst
        exact ⟨(σ0, x, k + 1), ⟨by simp only; omega, by simp only; rw [hst]; exact o, by simp only; rw [hst]; exact hn⟩, by simp only; omega, rfl, by simp [Go.Vm.look, extK]⟩
  · skip
    replace hc26 := of_decide_eq_false hc26
    refine KC.exit ?_
    refine thenK_x ?_
    refine thenK_x ?_
    refine blockK_e ?_
    refine thenK_n ?_
    refine KC.seq ?_
    refine KC.region ?_
    refine KT.step rfl rfl (K.move rfl) ?_
    refine KT.step rfl rfl (K.assign rfl) ?_
    refine KT.nil ?_
    refine thenK_n ?_
    refine KC.ret ?_
    have e : k = (casc gap l (hotU gap l)).length := by omega
    subst e
    exact ⟨.inl rfl, _, rfl, own_ints o hn⟩
set_option maxRecDepth 10000 in
theorem rbound31 {d : DV} {l : List Sm} {gap : Int} (hd : StD d l) (hok : okH l gap = true) {t : Int} (hT : -20 ≤ t ∧ t ≤ 200) : DeepCall Try.prog 31 [d, DI gap, DI t] (DI (bnd gap l t)) := by
  obtain ⟨n1, n8, g0, g20, hall⟩ := okH_iff.1 hok
  refine deepCall_K 5 Try.func31 rfl (Nat.le_of_ble_eq_true rfl) fun M W0 => ?_
  refine KC.seq ?_
  refine KC.region ?_
  refine KT.step rfl rfl (K.assign rfl) ?_
  refine KT.nil ?_
  refine thenK_n ?_
  refine KC.seq ?_
  refine KC.region ?_
  refine KT.step rfl rfl (K.assign rfl) ?_
  refine KT.nil ?_
  refine thenK_n ?_
  refine KC.seq ?_
  refine KC.seq ?_
  refine KC.region ?_
  refine KT.step rfl rfl (K.move rfl) ?_
  refine KT.step rfl rfl (K.lenF rfl hd Try.underlying22) ?_
  refine KT.step rfl rfl (K.move rfl) ?_
  refine KT.nil ?_
  refine thenK_n ?_
  refine KC.block ?_
  refine KC.loop (fun p : List VObj × Nat => p.1) (fun p => [(0, .d d), (1, .d (DI gap)), (2, .d (DI t)), (7, .d (DI (0 - surp gap (l.take p.2) 1000 t))), (11, .d d), (12, .d (DI (l.length : Nat))), (13, .d (DI (p.2 : Nat)))]) (fun p => p.2 ≤ l.length) (fun p => l.length - p.2) (_, 0) (Nat.zero_le _) rfl (by simp [Go.Vm.look, extK, enterK, surp]) ?_
  intro p hi
  obtain ⟨σ0, i⟩ := p
  simp only at hi ⊢
  refine KC.seq ?_
  refine KC.region ?_
  refine KT.step rfl rfl (K.lss rfl rfl) ?_
  refine KT.nil ?_
  refine thenK_n ?_
  refine KC.seq ?_
  refine KC.cond rfl (fun hc14 => ?_) (fun hc14 => ?_)
  · skip
    replace hc14 := of_decide_eq_true hc14
    have hil : i < l.length := by omega
    have hhb := ht_bd (gap := gap) (hall _ (List.getElem_mem hil)) 1000 t
    have bs := surp_take (gap := gap) hall n8 1000 t i
    refine KC.skip ?_
    refine thenK_n ?_
    refine KC.seq ?_
    refine KC.block ?_
    refine KC.seq ?_
    refine KC.region ?_
    refine KT.step rfl rfl (K.idxF c3_len (m := i) rfl hd rfl hil Try.underlying22 Try.size63) ?_
    refine KT.step rfl rfl (K.loadFl (cs := c3 l[i]) rfl rfl Try.agg63 Try.size63) ?_
    refine KT.step rfl rfl (K.alloc Try.zero63) ?_
    refine KT.storeL (cs := (c3 l[i]).map .d) rfl rfl rfl rfl rfl rfl rfl Try.size63 ?_
    refine KT.nil ?_
    refine thenK_n ?_
    refine KC.seq ?_
    refine KC.region ?_
    refine KT.step rfl rfl (K.loadOA (c3 l[i]) rfl (List.getElem?_concat_length ..) (by decide) Try.agg63 Try.size63 rfl) ?_
    refine KT.step rfl rfl (K.move rfl) ?_
    refine KT.step rfl rfl (K.move rfl) ?_
    refine KT.step rfl rfl (K.call4 rfl rfl rfl rfl plainTry_49 (rheat49 (hall _ (List.getElem_mem hil)) g0 g20 ⟨by omega, by omega⟩ ⟨by omega, by omega⟩)) ?_
    refine KT.step rfl rfl (K.assign rfl) ?_
    refine KT.nil ?_
    refine thenK_n ?_
    refine KC.seq ?_
    refine KC.seq ?_
    refine KC.region ?_
    refine KT.step rfl rfl (K.loadOA (c3 l[i]) rfl (List.getElem?_concat_length ..) (by decide) Try.agg63 Try.size63 rfl) ?_
    refine KT.step rfl rfl (K.call1 rfl plainTry_50 (rhot50 l[i])) ?_
    refine KT.nil ?_
    refine thenK_n ?_
    refine KC.cond rfl (fun hc22 => ?_) (fun hc22 => ?_)
    · skip
      refine KC.region ?_
      refine KT.step rfl rfl (K.move rfl) ?_
      refine KT.step rfl rfl (K.unI rfl (wrap_id (by omega))) ?_
      refine KT.step rfl rfl (K.assign rfl) ?_
      refine KT.nil ?_
      refine thenK_n ?_
      refine KC.region ?_
      refine KT.step rfl rfl (K.move rfl) ?_
      refine KT.step rfl rfl (K.move rfl) ?_
      refine KT.step rfl rfl (K.add rfl rfl (wrap_id (by omega))) ?_
      refine KT.step rfl rfl (K.assign rfl) ?_
      refine KT.nil ?_
      refine blockK_n ?_
      refine thenK_n ?_
      refine KC.region ?_
      refine KT.step rfl rfl (K.add rfl rfl (wrap_id (by omega))) ?_
      refine KT.step rfl rfl (K.move rfl) ?_
      refine KT.nil ?_
      refine thenK_n ?_
      have hss := surp_snoc (gap := gap) (u := 1000) (d := t) hil
      have hsv : hs gap 1000 t l[i] = ht gap l[i] 1000 t := by unfold Ht.hs; rw [show hot l[i] = true by simpa using hc22]; rfl
      rw [hsv] at hss
      refine ⟨(_, i + 1), by simp only; omega, by simp only; omega, rfl, by simp [Go.Vm.look, extK, hss]; omega⟩
    · skip
      refine KC.skip ?_
      refine thenK_n ?_
      refine KC.region ?_
      refine KT.step rfl rfl (K.move rfl) ?_
      refine KT.step rfl rfl (K.move rfl) ?_
      refine KT.step rfl rfl (K.add rfl rfl (wrap_id (by omega))) ?_
      refine KT.step rfl rfl (K.assign rfl) ?_
      refine KT.nil ?_
      refine blockK_n ?_
      refine thenK_n ?_
      refine KC.region ?_
      refine KT.step rfl rfl (K.add rfl rfl (wrap_id (by omega))) ?_
      refine KT.step rfl rfl (K.move rfl) ?_
      refine KT.nil ?_
      refine thenK_n ?_
      have hss := surp_snoc (gap := gap) (u := 1000) (d := t) hil
      have hsv : hs gap 1000 t l[i] = - ht gap l[i] 1000 t := by unfold Ht.hs; rw [show hot l[i] = false by simpa using hc22]; rfl
      rw [hsv] at hss
      refine ⟨(_, i + 1), by simp only; omega, by simp only; omega, rfl, by simp [Go.Vm.look, extK, hss]; omega⟩
  · skip
    replace hc14 := of_decide_eq_false hc14
    refine KC.exit ?_
    refine thenK_x ?_
    refine thenK_x ?_
    refine blockK_e ?_
    refine thenK_n ?_
    refine KC.seq ?_
    refine KC.region ?_
    refine KT.step rfl rfl (K.move rfl) ?_
    refine KT.step rfl rfl (K.max2 rfl rfl) ?_
    refine KT.step rfl rfl (K.assign rfl) ?_
    refine KT.nil ?_
    refine thenK_n ?_
    refine KC.ret ?_
    have et : l.take i = l := List.take_of_length_le (by omega)
    rw [et, surp_top hok]
    exact ⟨.inl rfl, _, rfl, fin_d (congrArg DI (by unfold bnd; omega))⟩
end Go.Proofs.Ytmfbakipfobaeaa

