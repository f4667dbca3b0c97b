import Derived.Test.YtmfbakipfobaeaaHtEm
/-
  Heat: the law of pinches.
-/
namespace Go.Proofs.Ytmfbakipfobaeaa
open Go.Vm Go.Ht
theorem plainTry_11 : plainFn Try.prog 11 = true := by kernel_rfl
set_option maxRecDepth 10000 in
theorem pinch_no {d : DV} {l : List Sm} {gap : Int} (hd : StD d l) (hl : l.length ≤ 9223372036854775807) (hno : okH l gap = false) : DeepCall Try.prog 11 [d, DI gap] (DB true) := by
  have hno2 : okH (l.take 10) gap = false := by rw [okH_take]; exact hno
  have hl2 : (l.take 10).length ≤ 9223372036854775807 := by rw [List.length_take]; omega
  refine deepCall_K 5 Try.func11 rfl (Nat.le_of_ble_eq_true rfl) fun M W0 => ?_
  refine KC.seq ?_
  refine KC.region ?_
  refine KT.step rfl rfl (K.assign rfl) ?_
  refine KT.nil ?_
  refine thenK_n ?_
  refine KC.seq ?_
  refine KC.region ?_
  refine KT.step rfl rfl (K.move rfl) ?_
  refine KT.step rfl rfl (K.call1 rfl plainTry_17 (of17 hd hl)) ?_
  refine KT.step rfl rfl (K.move rfl) ?_
  refine KT.step rfl rfl (K.call2 rfl rfl plainTry_25 (utilities_no (flV_ok (l.take 10)) hl2 hno2)) ?_
  refine KT.step rfl rfl (K.move rfl) ?_
  refine KT.step rfl rfl (K.extract rfl rfl) ?_
  refine KT.step rfl rfl (K.extract rfl rfl) ?_
  refine KT.step rfl rfl (K.extract rfl rfl) ?_
  refine KT.step rfl rfl (K.assign rfl) ?_
  refine KT.step rfl rfl (K.assign rfl) ?_
  refine KT.step rfl rfl (K.assign rfl) ?_
  refine KT.nil ?_
  refine thenK_n ?_
  refine KC.seq ?_
  refine KC.region ?_
  refine KT.step rfl rfl (K.move rfl) ?_
  refine KT.step rfl rfl (K.call1 rfl plainTry_17 (of17 hd hl)) ?_
  refine KT.step rfl rfl (K.move rfl) ?_
  refine KT.step rfl rfl (K.call2 rfl rfl plainTry_26 (pinchesP_no (flV_ok (l.take 10)) hl2 hno2)) ?_
  refine KT.step rfl rfl (K.move rfl) ?_
  refine KT.step rfl rfl (K.extract rfl rfl) ?_
  refine KT.step rfl rfl (K.extract rfl rfl) ?_
  refine KT.step rfl rfl (K.assign rfl) ?_
  refine KT.step rfl rfl (K.assign rfl) ?_
  refine KT.nil ?_
  refine thenK_n ?_
  refine KC.seq ?_
  refine KC.region ?_
  refine KT.step rfl rfl (K.move rfl) ?_
  refine KT.step rfl rfl (K.call1 rfl plainTry_17 (of17 hd hl)) ?_
  refine KT.step rfl rfl (K.move rfl) ?_
  refine KT.step rfl rfl (K.call2 rfl rfl plainTry_32 (planP_no (flV_ok (l.take 10)) hl2 hno2)) ?_
  refine KT.step rfl rfl (K.move rfl) ?_
  refine KT.step rfl rfl (K.extract rfl rfl) ?_
  refine KT.step rfl rfl (K.extract rfl rfl) ?_
  refine KT.step rfl rfl (K.assign rfl) ?_
  refine KT.step rfl rfl (K.assign rfl) ?_
  refine KT.nil ?_
  refine thenK_n ?_
  refine KC.seq ?_
  refine KC.seq ?_
  refine KC.region ?_
  refine KT.step rfl rfl (K.move rfl) ?_
  refine KT.step rfl rfl (K.neq rfl rfl) ?_
  refine KT.step rfl rfl (K.move rfl) ?_
  refine KT.skip rfl rfl ?_
  refine KT.skip rfl rfl ?_
  refine KT.step rfl rfl (K.pick rfl (fun _ => rfl) (fun h => by cases h)) ?_
  refine KT.step rfl rfl (K.move rfl) ?_
  refine KT.skip rfl rfl ?_
  refine KT.skip rfl rfl ?_
  refine KT.step rfl rfl (K.pick rfl (fun _ => rfl) (fun h => by cases h)) ?_
  refine KT.step rfl rfl (K.move rfl) ?_
  refine KT.skip rfl rfl ?_
  refine KT.skip rfl rfl ?_
  refine KT.skip rfl rfl ?_
  refine KT.skip rfl rfl ?_
  refine KT.step rfl rfl (K.pick rfl (fun _ => rfl) (fun h => by cases h)) ?_
  refine KT.nil ?_
  refine thenK_n ?_
  refine KC.cond rfl (fun hc55 => ?_) (fun hc55 => ?_)
  · skip
    refine KC.seq ?_
    refine KC.region ?_
    refine KT.step rfl rfl (K.move rfl) ?_
    refine KT.step rfl rfl (K.eql rfl rfl) ?_
    refine KT.step rfl rfl (K.move rfl) ?_
    refine KT.step rfl rfl (K.move rfl) ?_
    refine KT.step rfl rfl (K.eql rfl rfl) ?_
    refine KT.step rfl rfl (K.pick rfl (fun _ => rfl) (fun h => by cases h)) ?_
    refine KT.step rfl rfl (K.move rfl) ?_
    refine KT.step rfl rfl (K.move rfl) ?_
    refine KT.step rfl rfl (K.eql rfl rfl) ?_
    refine KT.step rfl rfl (K.pick rfl (fun _ => rfl) (fun h => by cases h)) ?_
    refine KT.step rfl rfl (K.move rfl) ?_
    refine KT.step rfl rfl (K.call0 plainTry_20 (awake20)) ?_
    refine KT.step rfl rfl (K.pick rfl (fun _ => rfl) (fun h => by cases h)) ?_
    refine KT.step rfl rfl (K.assign rfl) ?_
    refine KT.nil ?_
    refine thenK_n ?_
    refine KC.ret ?_
    refine thenK_r ?_
    exact ⟨.inl rfl, _, rfl, fin_b rfl⟩
  · cases hc55
set_option maxHeartbeats 1000000 in
set_option maxRecDepth 10000 in
theorem pinch_ok {d : DV} {l : List Sm} {gap : Int} (hd : StD d l) (hl : l.length ≤ 9223372036854775807) (hok : okH l gap = true) : DeepCall Try.prog 11 [d, DI gap] (DB true) := by
  have n2 := lvls_two hok
  have nl := lvls_length gap l
  have n8 := (okH_iff.1 hok).2.1
  have hb := hotU_bd hok
  have ok2 := okH_iff.1 hok
  have hpn := plan_len hok
  have hplen : (pins (lvls gap l) (casc gap l (hotU gap l))).length ≤ 1000 := by
    have := pinG_len (lvls gap l) (casc gap l (hotU gap l)) (casc gap l (hotU gap l)).length (casc gap l (hotU gap l)).length
    have := casc_lvls hok (hotU gap l)
    unfold pins; omega
  refine deepCall_K 5 Try.func11 rfl (Nat.le_of_ble_eq_true rfl) fun M W0 => ?_
  refine KC.seq ?_
  refine KC.region ?_
  refine KT.step rfl rfl (K.assign rfl) ?_
  refine KT.nil ?_
  refine thenK_n ?_
  refine KC.seq ?_
  refine KC.region ?_
  refine KT.step rfl rfl (K.move rfl) ?_
  refine KT.step rfl rfl (K.call1 rfl plainTry_17 (of_ok hd hl hok)) ?_
  refine KT.step rfl rfl (K.move rfl) ?_
  refine KT.step rfl rfl (K.call2 rfl rfl plainTry_25 (utilities_ok (flV_ok l) hl hok)) ?_
  refine KT.step rfl rfl (K.move rfl) ?_
  refine KT.step rfl rfl (K.extract rfl rfl) ?_
  refine KT.step rfl rfl (K.extract rfl rfl) ?_
  refine KT.step rfl rfl (K.extract rfl rfl) ?_
  refine KT.step rfl rfl (K.assign rfl) ?_
  refine KT.step rfl rfl (K.assign rfl) ?_
  refine KT.step rfl rfl (K.assign rfl) ?_
  refine KT.nil ?_
  refine thenK_n ?_
  refine KC.seq ?_
  refine KC.region ?_
  refine KT.step rfl rfl (K.move rfl) ?_
  refine KT.step rfl rfl (K.call1 rfl plainTry_17 (of_ok hd hl hok)) ?_
  refine KT.step rfl rfl (K.move rfl) ?_
  refine KT.step rfl rfl (K.call2 rfl rfl plainTry_26 (pinchesP_ok (flV_ok l) hl hok)) ?_
  refine KT.step rfl rfl (K.move rfl) ?_
  refine KT.step rfl rfl (K.extract rfl rfl) ?_
  refine KT.step rfl rfl (K.extract rfl rfl) ?_
  refine KT.step rfl rfl (K.assign rfl) ?_
  refine KT.step rfl rfl (K.assign rfl) ?_
  refine KT.nil ?_
  refine thenK_n ?_
  refine KC.seq ?_
  refine KC.region ?_
  refine KT.step rfl rfl (K.move rfl) ?_
  refine KT.step rfl rfl (K.call1 rfl plainTry_17 (of_ok hd hl hok)) ?_
  refine KT.step rfl rfl (K.move rfl) ?_
  refine KT.step rfl rfl (K.call2 rfl rfl plainTry_32 (planP_ok (flV_ok l) hl hok)) ?_
  refine KT.step rfl rfl (K.move rfl) ?_
  refine KT.step rfl rfl (K.extract rfl rfl) ?_
  refine KT.step rfl rfl (K.extract rfl rfl) ?_
  refine KT.step rfl rfl (K.assign rfl) ?_
  refine KT.step rfl rfl (K.assign rfl) ?_
  refine KT.nil ?_
  refine thenK_n ?_
  refine KC.seq ?_
  refine KC.seq ?_
  refine KC.region ?_
  refine KT.step rfl rfl (K.move rfl) ?_
  refine KT.step rfl rfl (K.neq rfl rfl) ?_
  refine KT.step rfl rfl (K.move rfl) ?_
  refine KT.step rfl rfl (K.move rfl) ?_
  refine KT.step rfl rfl (K.neq rfl rfl) ?_
  refine KT.step rfl rfl (K.pick rfl (fun h => by cases h) (fun _ => rfl)) ?_
  refine KT.step rfl rfl (K.move rfl) ?_
  refine KT.step rfl rfl (K.move rfl) ?_
  refine KT.step rfl rfl (K.neq rfl rfl) ?_
  refine KT.step rfl rfl (K.pick rfl (fun h => by cases h) (fun _ => rfl)) ?_
  refine KT.step rfl rfl (K.move rfl) ?_
  refine KT.step rfl rfl (K.move rfl) ?_
  refine KT.step rfl rfl (K.move rfl) ?_
  refine KT.step rfl rfl (K.call2 rfl rfl plainTry_19 (rvalid_ok hd hl hok)) ?_
  refine KT.step rfl rfl (K.not rfl) ?_
  refine KT.step rfl rfl (K.pick rfl (fun h => by cases h) (fun _ => rfl)) ?_
  refine KT.nil ?_
  refine thenK_n ?_
  refine KC.cond rfl (fun hc55 => ?_) (fun hc55 => ?_)
  · cases hc55
  · skip
    refine KC.skip ?_
    refine thenK_n ?_
    refine KC.seq ?_
    refine KC.seq ?_
    refine KC.region ?_
    refine KT.step rfl rfl (K.move rfl) ?_
    refine KT.step rfl rfl (K.len rfl (intsV_ok (pins (lvls gap l) (casc gap l (hotU gap l)))) Try.underlying23) ?_
    refine KT.step rfl rfl (K.move rfl) ?_
    refine KT.nil ?_
    refine thenK_n ?_
    refine KC.block ?_
    refine KC.loop (fun z : List VObj × Nat => z.1) (fun z => [(0, .d d), (1, .d (DI gap)), (5, .d (DI (hotU gap l))), (10, .d (flV c4 (planM gap l))), (69, .d (intsV (pins (lvls gap l) (casc gap l (hotU gap l))))), (70, .d (DI ((pins (lvls gap l) (casc gap l (hotU gap l))).length : Nat))), (71, .d (DI (z.2 : Nat)))]) (fun z => z.2 ≤ (pins (lvls gap l) (casc gap l (hotU gap l))).length) (fun z => (pins (lvls gap l) (casc gap l (hotU gap l))).length - z.2) (_, 0) (Nat.zero_le _) rfl (by simp [Go.Vm.look, extK, enterK]) ?_
    intro z hi
    obtain ⟨σ0, i⟩ := z
    simp only at hi ⊢
    refine KC.seq ?_
    refine KC.region ?_
    refine KT.step rfl rfl (K.lss rfl rfl) ?_
    refine KT.nil ?_
    refine thenK_n ?_
    refine KC.seq ?_
    refine KC.cond rfl (fun hc72 => ?_) (fun hc72 => ?_)
    · skip
      replace hc72 := of_decide_eq_true hc72
      have hil : i < (pins (lvls gap l) (casc gap l (hotU gap l))).length := by omega
      have hm : (pins (lvls gap l) (casc gap l (hotU gap l)))[i] ∈ (pins (lvls gap l) (casc gap l (hotU gap l))) := List.getElem_mem hil
      obtain ⟨k0, hk0, _, ek0, _⟩ := pins_iff hm
      have hin : -20 ≤ (pins (lvls gap l) (casc gap l (hotU gap l)))[i] ∧ (pins (lvls gap l) (casc gap l (hotU gap l)))[i] ≤ 200 := by rw [ek0]; exact lvls_in hok _ (List.getElem_mem _)
      refine KC.skip ?_
      refine thenK_n ?_
      refine KC.seq ?_
      refine KC.block ?_
      refine KC.seq ?_
      refine KC.region ?_
      refine KT.idxI (m := i) rfl rfl rfl (intsV_ok (pins (lvls gap l) (casc gap l (hotU gap l)))) rfl hil Try.underlying23 Try.size3 fun cs73 => ?_
      refine KT.step rfl rfl (K.load rfl Try.agg3) ?_
      refine KT.step rfl rfl (K.assign rfl) ?_
      refine KT.nil ?_
      refine thenK_n ?_
      refine KC.seq ?_
      refine KC.region ?_
      refine KT.step rfl rfl (K.move rfl) ?_
      refine KT.step rfl rfl (K.call1 rfl plainTry_17 (of_ok hd hl hok)) ?_
      refine KT.step rfl rfl (K.move rfl) ?_
      refine KT.step rfl rfl (K.move rfl) ?_
      refine KT.step rfl rfl (K.call3 rfl rfl rfl plainTry_29 (bound_ok (flV_ok l) hl hok hin)) ?_
      refine KT.step rfl rfl (K.move rfl) ?_
      refine KT.step rfl rfl (K.extract rfl rfl) ?_
      refine KT.step rfl rfl (K.extract rfl rfl) ?_
      refine KT.step rfl rfl (K.assign rfl) ?_
      refine KT.step rfl rfl (K.assign rfl) ?_
      refine KT.nil ?_
      refine thenK_n ?_
      refine KC.seq ?_
      refine KC.seq ?_
      refine KC.region ?_
      refine KT.step rfl rfl (K.move rfl) ?_
      refine KT.step rfl rfl (K.neq rfl rfl) ?_
      refine KT.step rfl rfl (K.move rfl) ?_
      refine KT.step rfl rfl (K.move rfl) ?_
      refine KT.step rfl rfl (K.move rfl) ?_
      refine KT.step rfl rfl (K.neq rfl rfl) ?_
      refine KT.step rfl rfl (K.pick rfl (fun h => by cases h) (fun _ => rfl)) ?_
      refine KT.nil ?_
      refine thenK_n ?_
      refine KC.cond rfl (fun hc89 => ?_) (fun hc89 => ?_)
      · skip
        exact absurd (pin_bnd hok hm) (of_decide_eq_true hc89)
      · skip
        replace hc89 := of_decide_eq_false hc89
        refine KC.skip ?_
        refine thenK_n ?_
        refine KC.seq ?_
        refine KC.region ?_
        refine KT.step rfl rfl (K.move rfl) ?_
        refine KT.step rfl rfl (K.lenF rfl (flV_ok (f := c4) (k := 4) (planM gap l)) Try.underlying44) ?_
        refine KT.step rfl rfl (K.move rfl) ?_
        refine KT.nil ?_
        refine thenK_n ?_
        refine KC.block ?_
        refine KC.loop (fun z : List VObj × Nat => z.1) (fun z => [(0, .d d), (1, .d (DI gap)), (5, .d (DI (hotU gap l))), (10, .d (flV c4 (planM gap l))), (69, .d (intsV (pins (lvls gap l) (casc gap l (hotU gap l))))), (70, .d (DI ((pins (lvls gap l) (casc gap l (hotU gap l))).length : Nat))), (71, .d (DI (i : Nat))), (13, .d (DI (pins (lvls gap l) (casc gap l (hotU gap l)))[i])), (90, .d (flV c4 (planM gap l))), (91, .d (DI ((planM gap l).length : Nat))), (92, .d (DI (z.2 : Nat)))]) (fun z => z.2 ≤ (planM gap l).length) (fun z => (planM gap l).length - z.2) (_, 0) (Nat.zero_le _) rfl (by simp [Go.Vm.look, extK]) ?_
        intro z hj
        obtain ⟨σ1, j⟩ := z
        simp only at hj ⊢
        refine KC.seq ?_
        refine KC.region ?_
        refine KT.step rfl rfl (K.lss rfl rfl) ?_
        refine KT.nil ?_
        refine thenK_n ?_
        refine KC.seq ?_
        refine KC.cond rfl (fun hc93 => ?_) (fun hc93 => ?_)
        · skip
          replace hc93 := of_decide_eq_true hc93
          have hjl : j < (planM gap l).length := by omega
          have hpp := pin_plan hok hm (List.getElem_mem hjl)
          refine KC.skip ?_
          refine thenK_n ?_
          refine KC.seq ?_
          refine KC.block ?_
          refine KC.seq ?_
          refine KC.region ?_
          refine KT.step rfl rfl (K.idxF c4_len (m := j) rfl (flV_ok (f := c4) (k := 4) (planM gap l)) rfl hjl Try.underlying44 Try.size65) ?_
          refine KT.step rfl rfl (K.loadFl (cs := c4 (planM gap l)[j]) rfl rfl Try.agg65 Try.size65) ?_
          refine KT.step rfl rfl (K.alloc Try.zero65) ?_
          refine KT.storeL (cs := (c4 (planM gap l)[j]).map .d) rfl rfl rfl rfl rfl rfl rfl Try.size65 ?_
          refine KT.nil ?_
          refine thenK_n ?_
          refine KC.seq ?_
          refine KC.region ?_
          refine KT.step rfl rfl (K.fieldAddrO rfl Try.fld65_2 Try.size3) ?_
          refine KT.step rfl rfl (K.loadO (y := .d (DI (planM gap l)[j].t)) rfl (List.getElem?_concat_length ..) (by simp) rfl Try.agg3) ?_
          refine KT.step rfl rfl (K.move rfl) ?_
          refine KT.step rfl rfl (K.gtr rfl rfl) ?_
          refine KT.step rfl rfl (K.move rfl) ?_
          refine KT.bcase (fun hb100 => ?_) (fun hb100 => ?_)
          · skip
            replace hb100 := of_decide_eq_true hb100
            refine KT.step rfl rfl (K.fieldAddrO rfl Try.fld65_1 Try.size3) ?_
            refine KT.step rfl rfl (K.loadO (y := .d (DI (planM gap l)[j].c)) rfl (List.getElem?_concat_length ..) (by simp) rfl Try.agg3) ?_
            refine KT.step rfl rfl (K.eql rfl rfl) ?_
            refine KT.step rfl rfl (K.pick rfl (fun _ => rfl) (fun h => by cases h)) ?_
            refine KT.step rfl rfl (K.move rfl) ?_
            refine KT.bcase (fun hb105 => ?_) (fun hb105 => ?_)
            · skip
              exact absurd (of_decide_eq_true hb105) (hpp.1 hb100)
            · skip
              replace hb105 := of_decide_eq_false hb105
              refine KT.step rfl rfl (K.fieldAddrO rfl Try.fld65_2 Try.size3) ?_
              refine KT.step rfl rfl (K.loadO (y := .d (DI (planM gap l)[j].t)) rfl (List.getElem?_concat_length ..) (by simp) rfl Try.agg3) ?_
              refine KT.step rfl rfl (K.move rfl) ?_
              refine KT.step rfl rfl (K.leq rfl rfl) ?_
              refine KT.step rfl rfl (K.move rfl) ?_
              refine KT.bcase (fun hb110 => ?_) (fun hb110 => ?_)
              · skip
                replace hb110 := of_decide_eq_true hb110
                refine KT.step rfl rfl (K.fieldAddrO rfl Try.fld65_0 Try.size3) ?_
                refine KT.step rfl rfl (K.loadO (y := .d (DI (planM gap l)[j].h)) rfl (List.getElem?_concat_length ..) (by simp) rfl Try.agg3) ?_
                refine KT.step rfl rfl (K.eql rfl rfl) ?_
                refine KT.step rfl rfl (K.pick rfl (fun _ => rfl) (fun h => by cases h)) ?_
                refine KT.step rfl rfl (K.pick rfl (fun h => by cases h) (fun _ => rfl)) ?_
                refine KT.nil ?_
                refine thenK_n ?_
                refine KC.cond rfl (fun hc115 => ?_) (fun hc115 => ?_)
                · skip
                  exact absurd (of_decide_eq_true hc115) (hpp.2 hb110)
                · skip
                  replace hc115 := of_decide_eq_false hc115
                  refine KC.skip ?_
                  refine blockK_n ?_
                  refine thenK_n ?_
                  refine KC.region ?_
                  refine KT.step rfl rfl (K.add rfl rfl (wrap_id (by omega))) ?_
                  refine KT.step rfl rfl (K.move rfl) ?_
                  refine KT.nil ?_
                  refine thenK_n ?_
                  exact ⟨(_, j + 1), by simp only; omega, by simp only; omega, rfl, by simp [Go.Vm.look, extK]⟩
              · skip
                replace hb110 := of_decide_eq_false hb110
                refine KT.skip rfl rfl ?_
                refine KT.skip rfl rfl ?_
                refine KT.skip rfl rfl ?_
                refine KT.step rfl rfl (K.pick rfl (fun h => by cases h) (fun _ => rfl)) ?_
                refine KT.step rfl rfl (K.pick rfl (fun h => by cases h) (fun _ => rfl)) ?_
                refine KT.nil ?_
                refine thenK_n ?_
                refine KC.cond rfl (fun hc115 => ?_) (fun hc115 => ?_)
                · cases hc115
                · skip
                  refine KC.skip ?_
                  refine blockK_n ?_
                  refine thenK_n ?_
                  refine KC.region ?_
                  refine KT.step rfl rfl (K.add rfl rfl (wrap_id (by omega))) ?_
                  refine KT.step rfl rfl (K.move rfl) ?_
                  refine KT.nil ?_
                  refine thenK_n ?_
                  exact ⟨(_, j + 1), by simp only; omega, by simp only; omega, rfl, by simp [Go.Vm.look, extK]⟩
          · skip
            replace hb100 := of_decide_eq_false hb100
            refine KT.skip rfl rfl ?_
            refine KT.skip rfl rfl ?_
            refine KT.skip rfl rfl ?_
            refine KT.step rfl rfl (K.pick rfl (fun h => by cases h) (fun _ => rfl)) ?_
            refine KT.step rfl rfl (K.move rfl) ?_
            refine KT.step rfl rfl (K.fieldAddrO rfl Try.fld65_2 Try.size3) ?_
            refine KT.step rfl rfl (K.loadO (y := .d (DI (planM gap l)[j].t)) rfl (List.getElem?_concat_length ..) (by simp) rfl Try.agg3) ?_
            refine KT.step rfl rfl (K.move rfl) ?_
            refine KT.step rfl rfl (K.leq rfl rfl) ?_
            refine KT.step rfl rfl (K.move rfl) ?_
            refine KT.bcase (fun hb110 => ?_) (fun hb110 => ?_)
            · skip
              replace hb110 := of_decide_eq_true hb110
              refine KT.step rfl rfl (K.fieldAddrO rfl Try.fld65_0 Try.size3) ?_
              refine KT.step rfl rfl (K.loadO (y := .d (DI (planM gap l)[j].h)) rfl (List.getElem?_concat_length ..) (by simp) rfl Try.agg3) ?_
              refine KT.step rfl rfl (K.eql rfl rfl) ?_
              refine KT.step rfl rfl (K.pick rfl (fun _ => rfl) (fun h => by cases h)) ?_
              refine KT.step rfl rfl (K.pick rfl (fun h => by cases h) (fun _ => rfl)) ?_
              refine KT.nil ?_
              refine thenK_n ?_
              refine KC.cond rfl (fun hc115 => ?_) (fun hc115 => ?_)
              · skip
                exact absurd (of_decide_eq_true hc115) (hpp.2 hb110)
              · skip
                replace hc115 := of_decide_eq_false hc115
                refine KC.skip ?_
                refine blockK_n ?_
                refine thenK_n ?_
                refine KC.region ?_
                refine KT.step rfl rfl (K.add rfl rfl (wrap_id (by omega))) ?_
                refine KT.step rfl rfl (K.move rfl) ?_
                refine KT.nil ?_
                refine thenK_n ?_
                exact ⟨(_, j + 1), by simp only; omega, by simp only; omega, rfl, by simp [Go.Vm.look, extK]⟩
            · skip
              replace hb110 := of_decide_eq_false hb110
              refine KT.skip rfl rfl ?_
              refine KT.skip rfl rfl ?_
              refine KT.skip rfl rfl ?_
              refine KT.step rfl rfl (K.pick rfl (fun h => by cases h) (fun _ => rfl)) ?_
              refine KT.step rfl rfl (K.pick rfl (fun h => by cases h) (fun _ => rfl)) ?_
              refine KT.nil ?_
              refine thenK_n ?_
              refine KC.cond rfl (fun hc115 => ?_) (fun hc115 => ?_)
              · cases hc115
              · skip
                refine KC.skip ?_
                refine blockK_n ?_
                refine thenK_n ?_
                refine KC.region ?_
                refine KT.step rfl rfl (K.add rfl rfl (wrap_id (by omega))) ?_
                refine KT.step rfl rfl (K.move rfl) ?_
                refine KT.nil ?_
                refine thenK_n ?_
                exact ⟨(_, j + 1), by simp only; omega, by simp only; omega, rfl, by simp [Go.Vm.look, extK]⟩
        · skip
          replace hc93 := of_decide_eq_false hc93
          refine KC.exit ?_
          refine thenK_x ?_
          refine thenK_x ?_
          refine blockK_e ?_
          refine blockK_n ?_
          refine thenK_n ?_
          refine KC.region ?_
          refine KT.step rfl rfl (K.add rfl rfl (wrap_id (by omega))) ?_
          refine KT.step rfl rfl (K.move rfl) ?_
          refine KT.nil ?_
          refine thenK_n ?_
          exact ⟨(_, i + 1), by simp only; omega, by simp only; omega, rfl, by simp [Go.Vm.look, extK]⟩
    · skip
      replace hc72 := of_decide_eq_false hc72
      refine KC.exit ?_
      refine thenK_x ?_
      refine thenK_x ?_
      refine blockK_e ?_
      refine thenK_n ?_
      refine KC.seq ?_
      refine KC.region ?_
      refine KT.step rfl rfl (K.call0 plainTry_20 (awake20)) ?_
      refine KT.step rfl rfl (K.assign rfl) ?_
      refine KT.nil ?_
      refine thenK_n ?_
      refine KC.ret ?_
      exact ⟨.inl rfl, _, rfl, fin_b rfl⟩
end Go.Proofs.Ytmfbakipfobaeaa

