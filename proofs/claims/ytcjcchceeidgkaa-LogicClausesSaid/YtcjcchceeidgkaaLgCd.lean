import Derived.Test.YtcjcchceeidgkaaLgCc
import Derived.Test.YtcjcchceeidgkaaLgW
/-
  Logic: which clauses the reference takes.
-/
namespace Go.Proofs.Ytcjcchceeidgkaa
open Go.Vm Go.Lg
theorem plainTry_23 : plainFn Try.prog 23 = true := by kernel_rfl
set_option maxHeartbeats 1000000 in
set_option maxRecDepth 10000 in
theorem rclauses23 {d : DV} {l : List Cl} (hd : ClsD d l) (hl : l.length ≤ 9223372036854775807) : DeepCall Try.prog 23 [d] (DB (okC l)) := by
  refine deepCall_K 5 Try.func23 rfl (Nat.le_of_ble_eq_true rfl) fun M W0 => ?_
  refine KC.seq ?_
  refine KC.region ?_
  refine KT.step rfl rfl (K.assign rfl) ?_
  refine KT.nil ?_
  refine thenK_n ?_
  refine KC.seq ?_
  refine KC.seq ?_
  refine KC.region ?_
  refine KT.step rfl rfl (K.move rfl) ?_
  refine KT.step rfl rfl (K.lenCls rfl hd Try.underlying49) ?_
  refine KT.step rfl rfl (K.move rfl) ?_
  refine KT.nil ?_
  refine thenK_n ?_
  refine KC.block ?_
  refine KC.loop (fun p : List VObj × Nat => p.1) (fun p => [(0, .d d), (6, .d d), (7, .d (DI (l.length : Nat))), (8, .d (DI (p.2 : Nat)))]) (fun p => p.2 ≤ l.length ∧ ∀ j, j < p.2 → follB (cg l j) j = true) (fun p => l.length - p.2) (_, 0) ⟨Nat.zero_le _, fun j hj => absurd hj (Nat.not_lt_zero _)⟩ rfl (by simp [Go.Vm.look, extK, enterK]) ?_
  intro p hp
  obtain ⟨hi, hall⟩ := hp
  refine KC.seq ?_
  refine KC.region ?_
  refine KT.step rfl rfl (K.lss rfl rfl) ?_
  refine KT.nil ?_
  refine thenK_n ?_
  refine KC.seq ?_
  refine KC.cond rfl (fun hc9 => ?_) (fun hc9 => ?_)
  · skip
    replace hc9 := of_decide_eq_true hc9
    refine KC.skip ?_
    refine thenK_n ?_
    refine KC.seq ?_
    refine KC.block ?_
    refine KC.seq ?_
    refine KC.region ?_
    refine KT.step rfl rfl (K.move rfl) ?_
    refine KT.idxCls (m := p.2) rfl rfl rfl hd rfl (by omega) Try.underlying49 Try.size90 fun rest => ?_
    refine KT.step rfl rfl (K.loadAgg (cs := .lit (.string (cg l p.2).op) :: DI (cg l p.2).x :: DI (cg l p.2).y :: rest) (m := 3) rfl Try.agg90 Try.size90 (by simp)) ?_
    refine KT.step rfl rfl (K.alloc Try.zero90) ?_
    refine KT.step rfl rfl (K.assign rfl) ?_
    refine KT.storeL (cs := [.d (.lit (.string (cg l p.2).op)), .d (DI (cg l p.2).x), .d (DI (cg l p.2).y)]) rfl rfl rfl rfl rfl rfl rfl Try.size90 ?_
    refine KT.nil ?_
    refine thenK_n ?_
    refine KC.seq ?_
    refine KC.region ?_
    by_cases hA : kd (cg l p.2) ≤ 1
    · skip
      refine KT.step rfl rfl (K.fieldAddrO rfl Try.fld90_0 Try.size9) ?_
      by_cases hB : kd (cg l p.2) = 0 ∨ kd (cg l p.2) = 2
      · skip
        refine KT.step rfl rfl (K.loadO rfl (List.getElem?_concat_length ..) (by simp) rfl Try.agg9) ?_
        refine KT.step rfl rfl (K.call1 rfl plainTry_48 (kids48 _)) ?_
        refine KT.step rfl rfl (K.assign rfl) ?_
        refine KT.nil ?_
        refine thenK_n ?_
        refine KC.block ?_
        refine KC.seq ?_
        have hk : kd (cg l p.2) = 0 := by omega
        have har : arI (cg l p.2).op = 0 := ar_kind0 hk
        refine KC.region ?_
        refine KT.step rfl rfl (K.move rfl) ?_
        refine KT.step rfl rfl (K.lss rfl rfl) ?_
        refine KT.step rfl rfl (K.move rfl) ?_
        refine KT.bcase (fun hb19 => ?_) (fun hb19 => ?_)
        · skip
          exact absurd (of_decide_eq_true hb19) (by omega)
        · skip
          replace hb19 := of_decide_eq_false hb19
          refine KT.step rfl rfl (K.move rfl) ?_
          refine KT.step rfl rfl (K.eql rfl rfl) ?_
          refine KT.step rfl rfl (K.move rfl) ?_
          refine KT.bcase (fun hb22 => ?_) (fun hb22 => ?_)
          · skip
            exact absurd (of_decide_eq_true hb22) (by omega)
          · skip
            replace hb22 := of_decide_eq_false hb22
            refine KT.skip rfl rfl ?_
            refine KT.skip rfl rfl ?_
            refine KT.skip rfl rfl ?_
            refine KT.step rfl rfl (K.pick rfl (fun h => by cases h) (fun _ => rfl)) ?_
            refine KT.step rfl rfl (K.move rfl) ?_
            refine KT.skip rfl rfl ?_
            refine KT.skip rfl rfl ?_
            refine KT.skip rfl rfl ?_
            refine KT.step rfl rfl (K.pick rfl (fun h => by cases h) (fun _ => rfl)) ?_
            refine KT.step rfl rfl (K.pick rfl (fun h => by cases h) (fun _ => rfl)) ?_
            refine KT.step rfl rfl (K.move rfl) ?_
            refine KT.step rfl rfl (K.move rfl) ?_
            refine KT.step rfl rfl (K.eql rfl rfl) ?_
            refine KT.step rfl rfl (K.move rfl) ?_
            refine KT.bcase (fun hb36 => ?_) (fun hb36 => ?_)
            · skip
              exact absurd (of_decide_eq_true hb36) (by omega)
            · skip
              replace hb36 := of_decide_eq_false hb36
              refine KT.skip rfl rfl ?_
              refine KT.skip rfl rfl ?_
              refine KT.skip rfl rfl ?_
              refine KT.step rfl rfl (K.pick rfl (fun h => by cases h) (fun _ => rfl)) ?_
              refine KT.step rfl rfl (K.move rfl) ?_
              refine KT.skip rfl rfl ?_
              refine KT.skip rfl rfl ?_
              refine KT.skip rfl rfl ?_
              refine KT.step rfl rfl (K.pick rfl (fun h => by cases h) (fun _ => rfl)) ?_
              refine KT.step rfl rfl (K.pick rfl (fun h => by cases h) (fun _ => rfl)) ?_
              refine KT.step rfl rfl (K.assign rfl) ?_
              refine KT.nil ?_
              refine thenK_n ?_
              refine KC.cond rfl (fun hc16 => ?_) (fun hc16 => ?_)
              · cases hc16
              · skip
                refine KC.seq ?_
                refine KC.region ?_
                refine KT.step rfl rfl (K.move rfl) ?_
                refine KT.step rfl rfl (K.gtr rfl rfl) ?_
                refine KT.step rfl rfl (K.move rfl) ?_
                refine KT.bcase (fun hb50 => ?_) (fun hb50 => ?_)
                · skip
                  exact absurd (of_decide_eq_true hb50) (by omega)
                · skip
                  replace hb50 := of_decide_eq_false hb50
                  refine KT.skip rfl rfl ?_
                  refine KT.skip rfl rfl ?_
                  refine KT.skip rfl rfl ?_
                  refine KT.skip rfl rfl ?_
                  refine KT.skip rfl rfl ?_
                  refine KT.skip rfl rfl ?_
                  refine KT.skip rfl rfl ?_
                  refine KT.skip rfl rfl ?_
                  refine KT.skip rfl rfl ?_
                  refine KT.step rfl rfl (K.pick rfl (fun h => by cases h) (fun _ => rfl)) ?_
                  refine KT.step rfl rfl (K.move rfl) ?_
                  refine KT.step rfl rfl (K.move rfl) ?_
                  refine KT.step rfl rfl (K.eql rfl rfl) ?_
                  refine KT.step rfl rfl (K.move rfl) ?_
                  refine KT.bcase (fun hb64 => ?_) (fun hb64 => ?_)
                  · skip
                    replace hb64 := of_decide_eq_true hb64
                    refine KT.step rfl rfl (K.fieldAddrO rfl Try.fld90_1 Try.size3) ?_
                    refine KT.step rfl rfl (K.loadO rfl (List.getElem?_concat_length ..) (by simp) rfl Try.agg3) ?_
                    refine KT.step rfl rfl (K.neq rfl rfl) ?_
                    refine KT.step rfl rfl (K.pick rfl (fun _ => rfl) (fun h => by cases h)) ?_
                    refine KT.step rfl rfl (K.pick rfl (fun h => by cases h) (fun _ => rfl)) ?_
                    refine KT.step rfl rfl (K.assign rfl) ?_
                    refine KT.nil ?_
                    refine thenK_n ?_
                    refine KC.cond rfl (fun hc47 => ?_) (fun hc47 => ?_)
                    · skip
                      replace hc47 := of_decide_eq_true hc47
                      refine KC.seq ?_
                      refine KC.region ?_
                      refine KT.step rfl rfl (K.assign rfl) ?_
                      refine KT.nil ?_
                      refine thenK_n ?_
                      refine KC.ret ?_
                      refine blockK_r ?_
                      refine blockK_r ?_
                      refine thenK_r ?_
                      refine thenK_r ?_
                      refine blockK_r ?_
                      refine thenK_r ?_
                      exact ⟨.inl rfl, _, rfl, fin_b (okC_no (i := p.2) (by omega) (decide_eq_false (by unfold folP; omega)))⟩
                    · skip
                      replace hc47 := of_decide_eq_false hc47
                      refine KC.seq ?_
                      refine KC.region ?_
                      refine KT.step rfl rfl (K.move rfl) ?_
                      refine KT.step rfl rfl (K.gtr rfl rfl) ?_
                      refine KT.step rfl rfl (K.move rfl) ?_
                      refine KT.bcase (fun hb73 => ?_) (fun hb73 => ?_)
                      · skip
                        exact absurd (of_decide_eq_true hb73) (by omega)
                      · skip
                        replace hb73 := of_decide_eq_false hb73
                        refine KT.skip rfl rfl ?_
                        refine KT.skip rfl rfl ?_
                        refine KT.skip rfl rfl ?_
                        refine KT.skip rfl rfl ?_
                        refine KT.skip rfl rfl ?_
                        refine KT.skip rfl rfl ?_
                        refine KT.skip rfl rfl ?_
                        refine KT.skip rfl rfl ?_
                        refine KT.skip rfl rfl ?_
                        refine KT.step rfl rfl (K.pick rfl (fun h => by cases h) (fun _ => rfl)) ?_
                        refine KT.step rfl rfl (K.move rfl) ?_
                        refine KT.step rfl rfl (K.move rfl) ?_
                        refine KT.step rfl rfl (K.lss rfl rfl) ?_
                        refine KT.step rfl rfl (K.move rfl) ?_
                        refine KT.bcase (fun hb87 => ?_) (fun hb87 => ?_)
                        · skip
                          replace hb87 := of_decide_eq_true hb87
                          refine KT.step rfl rfl (K.fieldAddrO rfl Try.fld90_2 Try.size3) ?_
                          refine KT.step rfl rfl (K.loadO rfl (List.getElem?_concat_length ..) (by simp) rfl Try.agg3) ?_
                          refine KT.step rfl rfl (K.neq rfl rfl) ?_
                          refine KT.step rfl rfl (K.pick rfl (fun _ => rfl) (fun h => by cases h)) ?_
                          refine KT.step rfl rfl (K.pick rfl (fun h => by cases h) (fun _ => rfl)) ?_
                          refine KT.step rfl rfl (K.assign rfl) ?_
                          refine KT.nil ?_
                          refine thenK_n ?_
                          refine KC.cond rfl (fun hc70 => ?_) (fun hc70 => ?_)
                          · skip
                            replace hc70 := of_decide_eq_true hc70
                            refine KC.seq ?_
                            refine KC.region ?_
                            refine KT.step rfl rfl (K.assign rfl) ?_
                            refine KT.nil ?_
                            refine thenK_n ?_
                            refine KC.ret ?_
                            refine blockK_r ?_
                            refine blockK_r ?_
                            refine thenK_r ?_
                            refine thenK_r ?_
                            refine blockK_r ?_
                            refine thenK_r ?_
                            exact ⟨.inl rfl, _, rfl, fin_b (okC_no (i := p.2) (by omega) (decide_eq_false (by unfold folP; omega)))⟩
                          · skip
                            replace hc70 := of_decide_eq_false hc70
                            refine KC.skip ?_
                            refine blockK_n ?_
                            refine blockK_n ?_
                            refine thenK_n ?_
                            refine KC.region ?_
                            refine KT.step rfl rfl (K.add rfl rfl (wrap_id (by omega))) ?_
                            refine KT.step rfl rfl (K.move rfl) ?_
                            refine KT.nil ?_
                            refine thenK_n ?_
                            have hf : follB (cg l p.2) p.2 = true := decide_eq_true (by unfold folP; omega)
                            refine ⟨(_, p.2 + 1), ⟨by simp only; omega, fun j hj => ?_⟩, by simp only; omega, rfl, by simp [Go.Vm.look, extK]⟩
                            by_cases e : j = p.2
                            · subst e; exact hf
                            · exact hall j (by simp only at hj; omega)
                        · skip
                          exact absurd (of_decide_eq_false hb87) (by omega)
                  · skip
                    exact absurd (of_decide_eq_false hb64) (by omega)
      · skip
        refine KT.step rfl rfl (K.loadO rfl (List.getElem?_concat_length ..) (by simp) rfl Try.agg9) ?_
        refine KT.step rfl rfl (K.call1 rfl plainTry_48 (kids48 _)) ?_
        refine KT.step rfl rfl (K.assign rfl) ?_
        refine KT.nil ?_
        refine thenK_n ?_
        refine KC.block ?_
        refine KC.seq ?_
        have hk : kd (cg l p.2) = 1 := by omega
        have har : arI (cg l p.2).op = 1 := ar_kind1 hk
        have hor := kind1 hk
        refine KC.region ?_
        refine KT.step rfl rfl (K.move rfl) ?_
        refine KT.step rfl rfl (K.lss rfl rfl) ?_
        refine KT.step rfl rfl (K.move rfl) ?_
        refine KT.bcase (fun hb19 => ?_) (fun hb19 => ?_)
        · skip
          exact absurd (of_decide_eq_true hb19) (by omega)
        · skip
          replace hb19 := of_decide_eq_false hb19
          refine KT.step rfl rfl (K.move rfl) ?_
          refine KT.step rfl rfl (K.eql rfl rfl) ?_
          refine KT.step rfl rfl (K.move rfl) ?_
          refine KT.bcase (fun hb22 => ?_) (fun hb22 => ?_)
          · skip
            replace hb22 := of_decide_eq_true hb22
            refine KT.step rfl rfl (K.fieldAddrO rfl Try.fld90_0 Try.size9) ?_
            refine KT.step rfl rfl (K.loadO rfl (List.getElem?_concat_length ..) (by simp) rfl Try.agg9) ?_
            refine KT.step rfl rfl (K.neqS rfl rfl) ?_
            refine KT.step rfl rfl (K.pick rfl (fun _ => rfl) (fun h => by cases h)) ?_
            refine KT.step rfl rfl (K.move rfl) ?_
            refine KT.bcase (fun hb27 => ?_) (fun hb27 => ?_)
            · skip
              replace hb27 := of_decide_eq_true hb27
              refine KT.step rfl rfl (K.fieldAddrO rfl Try.fld90_0 Try.size9) ?_
              refine KT.step rfl rfl (K.loadO rfl (List.getElem?_concat_length ..) (by simp) rfl Try.agg9) ?_
              refine KT.step rfl rfl (K.neqS rfl rfl) ?_
              refine KT.step rfl rfl (K.pick rfl (fun _ => rfl) (fun h => by cases h)) ?_
              refine KT.step rfl rfl (K.pick rfl (fun h => by cases h) (fun _ => rfl)) ?_
              refine KT.step rfl rfl (K.move rfl) ?_
              refine KT.bcase (fun hb33 => ?_) (fun hb33 => ?_)
              · skip
                rcases hor with h | h
                · exact absurd h hb27
                · exact absurd h (of_decide_eq_true hb33)
              · skip
                replace hb33 := of_decide_eq_false hb33
                refine KT.step rfl rfl (K.move rfl) ?_
                refine KT.step rfl rfl (K.eql rfl rfl) ?_
                refine KT.step rfl rfl (K.move rfl) ?_
                refine KT.bcase (fun hb36 => ?_) (fun hb36 => ?_)
                · skip
                  exact absurd (of_decide_eq_true hb36) (by omega)
                · skip
                  replace hb36 := of_decide_eq_false hb36
                  refine KT.skip rfl rfl ?_
                  refine KT.skip rfl rfl ?_
                  refine KT.skip rfl rfl ?_
                  refine KT.step rfl rfl (K.pick rfl (fun h => by cases h) (fun _ => rfl)) ?_
                  refine KT.step rfl rfl (K.move rfl) ?_
                  refine KT.skip rfl rfl ?_
                  refine KT.skip rfl rfl ?_
                  refine KT.skip rfl rfl ?_
                  refine KT.step rfl rfl (K.pick rfl (fun h => by cases h) (fun _ => rfl)) ?_
                  refine KT.step rfl rfl (K.pick rfl (fun h => by cases h) (fun _ => rfl)) ?_
                  refine KT.step rfl rfl (K.assign rfl) ?_
                  refine KT.nil ?_
                  refine thenK_n ?_
                  refine KC.cond rfl (fun hc16 => ?_) (fun hc16 => ?_)
                  · cases hc16
                  · skip
                    refine KC.seq ?_
                    refine KC.region ?_
                    refine KT.step rfl rfl (K.move rfl) ?_
                    refine KT.step rfl rfl (K.gtr rfl rfl) ?_
                    refine KT.step rfl rfl (K.move rfl) ?_
                    refine KT.bcase (fun hb50 => ?_) (fun hb50 => ?_)
                    · skip
                      replace hb50 := of_decide_eq_true hb50
                      refine KT.step rfl rfl (K.fieldAddrO rfl Try.fld90_1 Try.size3) ?_
                      refine KT.step rfl rfl (K.loadO rfl (List.getElem?_concat_length ..) (by simp) rfl Try.agg3) ?_
                      refine KT.step rfl rfl (K.lss rfl rfl) ?_
                      refine KT.step rfl rfl (K.move rfl) ?_
                      refine KT.bcase (fun hb54 => ?_) (fun hb54 => ?_)
                      · skip
                        replace hb54 := of_decide_eq_true hb54
                        refine KT.skip rfl rfl ?_
                        refine KT.skip rfl rfl ?_
                        refine KT.skip rfl rfl ?_
                        refine KT.skip rfl rfl ?_
                        refine KT.step rfl rfl (K.pick rfl (fun _ => rfl) (fun h => by cases h)) ?_
                        refine KT.step rfl rfl (K.pick rfl (fun _ => rfl) (fun h => by cases h)) ?_
                        refine KT.step rfl rfl (K.move rfl) ?_
                        refine KT.skip rfl rfl ?_
                        refine KT.skip rfl rfl ?_
                        refine KT.skip rfl rfl ?_
                        refine KT.skip rfl rfl ?_
                        refine KT.skip rfl rfl ?_
                        refine KT.skip rfl rfl ?_
                        refine KT.skip rfl rfl ?_
                        refine KT.step rfl rfl (K.pick rfl (fun _ => rfl) (fun h => by cases h)) ?_
                        refine KT.step rfl rfl (K.assign rfl) ?_
                        refine KT.nil ?_
                        refine thenK_n ?_
                        refine KC.cond rfl (fun hc47 => ?_) (fun hc47 => ?_)
                        · skip
                          refine KC.seq ?_
                          refine KC.region ?_
                          refine KT.step rfl rfl (K.assign rfl) ?_
                          refine KT.nil ?_
                          refine thenK_n ?_
                          refine KC.ret ?_
                          refine blockK_r ?_
                          refine blockK_r ?_
                          refine thenK_r ?_
                          refine thenK_r ?_
                          refine blockK_r ?_
                          refine thenK_r ?_
                          exact ⟨.inl rfl, _, rfl, fin_b (okC_no (i := p.2) (by omega) (decide_eq_false (by unfold folP; omega)))⟩
                        · cases hc47
                      · skip
                        replace hb54 := of_decide_eq_false hb54
                        refine KT.step rfl rfl (K.fieldAddrO rfl Try.fld90_1 Try.size3) ?_
                        refine KT.step rfl rfl (K.loadO rfl (List.getElem?_concat_length ..) (by simp) rfl Try.agg3) ?_
                        refine KT.step rfl rfl (K.move rfl) ?_
                        refine KT.step rfl rfl (K.geq rfl rfl) ?_
                        refine KT.step rfl rfl (K.pick rfl (fun h => by cases h) (fun _ => rfl)) ?_
                        refine KT.step rfl rfl (K.pick rfl (fun _ => rfl) (fun h => by cases h)) ?_
                        refine KT.step rfl rfl (K.move rfl) ?_
                        refine KT.bcase (fun hb61 => ?_) (fun hb61 => ?_)
                        · skip
                          replace hb61 := of_decide_eq_true hb61
                          refine KT.skip rfl rfl ?_
                          refine KT.skip rfl rfl ?_
                          refine KT.skip rfl rfl ?_
                          refine KT.skip rfl rfl ?_
                          refine KT.skip rfl rfl ?_
                          refine KT.skip rfl rfl ?_
                          refine KT.skip rfl rfl ?_
                          refine KT.step rfl rfl (K.pick rfl (fun _ => rfl) (fun h => by cases h)) ?_
                          refine KT.step rfl rfl (K.assign rfl) ?_
                          refine KT.nil ?_
                          refine thenK_n ?_
                          refine KC.cond rfl (fun hc47 => ?_) (fun hc47 => ?_)
                          · skip
                            refine KC.seq ?_
                            refine KC.region ?_
                            refine KT.step rfl rfl (K.assign rfl) ?_
                            refine KT.nil ?_
                            refine thenK_n ?_
                            refine KC.ret ?_
                            refine blockK_r ?_
                            refine blockK_r ?_
                            refine thenK_r ?_
                            refine thenK_r ?_
                            refine blockK_r ?_
                            refine thenK_r ?_
                            exact ⟨.inl rfl, _, rfl, fin_b (okC_no (i := p.2) (by omega) (decide_eq_false (by unfold folP; omega)))⟩
                          · cases hc47
                        · skip
                          replace hb61 := of_decide_eq_false hb61
                          refine KT.step rfl rfl (K.move rfl) ?_
                          refine KT.step rfl rfl (K.eql rfl rfl) ?_
                          refine KT.step rfl rfl (K.move rfl) ?_
                          refine KT.bcase (fun hb64 => ?_) (fun hb64 => ?_)
                          · skip
                            exact absurd (of_decide_eq_true hb64) (by omega)
                          · skip
                            replace hb64 := of_decide_eq_false hb64
                            refine KT.skip rfl rfl ?_
                            refine KT.skip rfl rfl ?_
                            refine KT.skip rfl rfl ?_
                            refine KT.step rfl rfl (K.pick rfl (fun h => by cases h) (fun _ => rfl)) ?_
                            refine KT.step rfl rfl (K.pick rfl (fun h => by cases h) (fun _ => rfl)) ?_
                            refine KT.step rfl rfl (K.assign rfl) ?_
                            refine KT.nil ?_
                            refine thenK_n ?_
                            refine KC.cond rfl (fun hc47 => ?_) (fun hc47 => ?_)
                            · cases hc47
                            · skip
                              refine KC.seq ?_
                              refine KC.region ?_
                              refine KT.step rfl rfl (K.move rfl) ?_
                              refine KT.step rfl rfl (K.gtr rfl rfl) ?_
                              refine KT.step rfl rfl (K.move rfl) ?_
                              refine KT.bcase (fun hb73 => ?_) (fun hb73 => ?_)
                              · skip
                                exact absurd (of_decide_eq_true hb73) (by omega)
                              · skip
                                replace hb73 := of_decide_eq_false hb73
                                refine KT.skip rfl rfl ?_
                                refine KT.skip rfl rfl ?_
                                refine KT.skip rfl rfl ?_
                                refine KT.skip rfl rfl ?_
                                refine KT.skip rfl rfl ?_
                                refine KT.skip rfl rfl ?_
                                refine KT.skip rfl rfl ?_
                                refine KT.skip rfl rfl ?_
                                refine KT.skip rfl rfl ?_
                                refine KT.step rfl rfl (K.pick rfl (fun h => by cases h) (fun _ => rfl)) ?_
                                refine KT.step rfl rfl (K.move rfl) ?_
                                refine KT.step rfl rfl (K.move rfl) ?_
                                refine KT.step rfl rfl (K.lss rfl rfl) ?_
                                refine KT.step rfl rfl (K.move rfl) ?_
                                refine KT.bcase (fun hb87 => ?_) (fun hb87 => ?_)
                                · skip
                                  replace hb87 := of_decide_eq_true hb87
                                  refine KT.step rfl rfl (K.fieldAddrO rfl Try.fld90_2 Try.size3) ?_
                                  refine KT.step rfl rfl (K.loadO rfl (List.getElem?_concat_length ..) (by simp) rfl Try.agg3) ?_
                                  refine KT.step rfl rfl (K.neq rfl rfl) ?_
                                  refine KT.step rfl rfl (K.pick rfl (fun _ => rfl) (fun h => by cases h)) ?_
                                  refine KT.step rfl rfl (K.pick rfl (fun h => by cases h) (fun _ => rfl)) ?_
                                  refine KT.step rfl rfl (K.assign rfl) ?_
                                  refine KT.nil ?_
                                  refine thenK_n ?_
                                  refine KC.cond rfl (fun hc70 => ?_) (fun hc70 => ?_)
                                  · skip
                                    replace hc70 := of_decide_eq_true hc70
                                    refine KC.seq ?_
                                    refine KC.region ?_
                                    refine KT.step rfl rfl (K.assign rfl) ?_
                                    refine KT.nil ?_
                                    refine thenK_n ?_
                                    refine KC.ret ?_
                                    refine blockK_r ?_
                                    refine blockK_r ?_
                                    refine thenK_r ?_
                                    refine thenK_r ?_
                                    refine blockK_r ?_
                                    refine thenK_r ?_
                                    exact ⟨.inl rfl, _, rfl, fin_b (okC_no (i := p.2) (by omega) (decide_eq_false (by unfold folP; omega)))⟩
                                  · skip
                                    replace hc70 := of_decide_eq_false hc70
                                    refine KC.skip ?_
                                    refine blockK_n ?_
                                    refine blockK_n ?_
                                    refine thenK_n ?_
                                    refine KC.region ?_
                                    refine KT.step rfl rfl (K.add rfl rfl (wrap_id (by omega))) ?_
                                    refine KT.step rfl rfl (K.move rfl) ?_
                                    refine KT.nil ?_
                                    refine thenK_n ?_
                                    have hf : follB (cg l p.2) p.2 = true := decide_eq_true (by unfold folP; omega)
                                    refine ⟨(_, p.2 + 1), ⟨by simp only; omega, fun j hj => ?_⟩, by simp only; omega, rfl, by simp [Go.Vm.look, extK]⟩
                                    by_cases e : j = p.2
                                    · subst e; exact hf
                                    · exact hall j (by simp only at hj; omega)
                                · skip
                                  exact absurd (of_decide_eq_false hb87) (by omega)
                    · skip
                      exact absurd (of_decide_eq_false hb50) (by omega)
            · skip
              replace hb27 := of_decide_eq_false hb27
              refine KT.skip rfl rfl ?_
              refine KT.skip rfl rfl ?_
              refine KT.skip rfl rfl ?_
              refine KT.step rfl rfl (K.pick rfl (fun h => by cases h) (fun _ => rfl)) ?_
              refine KT.step rfl rfl (K.pick rfl (fun h => by cases h) (fun _ => rfl)) ?_
              refine KT.step rfl rfl (K.move rfl) ?_
              refine KT.step rfl rfl (K.move rfl) ?_
              refine KT.step rfl rfl (K.eql rfl rfl) ?_
              refine KT.step rfl rfl (K.move rfl) ?_
              refine KT.bcase (fun hb36 => ?_) (fun hb36 => ?_)
              · skip
                exact absurd (of_decide_eq_true hb36) (by omega)
              · skip
                replace hb36 := of_decide_eq_false hb36
                refine KT.skip rfl rfl ?_
                refine KT.skip rfl rfl ?_
                refine KT.skip rfl rfl ?_
                refine KT.step rfl rfl (K.pick rfl (fun h => by cases h) (fun _ => rfl)) ?_
                refine KT.step rfl rfl (K.move rfl) ?_
                refine KT.skip rfl rfl ?_
                refine KT.skip rfl rfl ?_
                refine KT.skip rfl rfl ?_
                refine KT.step rfl rfl (K.pick rfl (fun h => by cases h) (fun _ => rfl)) ?_
                refine KT.step rfl rfl (K.pick rfl (fun h => by cases h) (fun _ => rfl)) ?_
                refine KT.step rfl rfl (K.assign rfl) ?_
                refine KT.nil ?_
                refine thenK_n ?_
                refine KC.cond rfl (fun hc16 => ?_) (fun hc16 => ?_)
                · cases hc16
                · skip
                  refine KC.seq ?_
                  refine KC.region ?_
                  refine KT.step rfl rfl (K.move rfl) ?_
                  refine KT.step rfl rfl (K.gtr rfl rfl) ?_
                  refine KT.step rfl rfl (K.move rfl) ?_
                  refine KT.bcase (fun hb50 => ?_) (fun hb50 => ?_)
                  · skip
                    replace hb50 := of_decide_eq_true hb50
                    refine KT.step rfl rfl (K.fieldAddrO rfl Try.fld90_1 Try.size3) ?_
                    refine KT.step rfl rfl (K.loadO rfl (List.getElem?_concat_length ..) (by simp) rfl Try.agg3) ?_
                    refine KT.step rfl rfl (K.lss rfl rfl) ?_
                    refine KT.step rfl rfl (K.move rfl) ?_
                    refine KT.bcase (fun hb54 => ?_) (fun hb54 => ?_)
                    · skip
                      replace hb54 := of_decide_eq_true hb54
                      refine KT.skip rfl rfl ?_
                      refine KT.skip rfl rfl ?_
                      refine KT.skip rfl rfl ?_
                      refine KT.skip rfl rfl ?_
                      refine KT.step rfl rfl (K.pick rfl (fun _ => rfl) (fun h => by cases h)) ?_
                      refine KT.step rfl rfl (K.pick rfl (fun _ => rfl) (fun h => by cases h)) ?_
                      refine KT.step rfl rfl (K.move rfl) ?_
                      refine KT.skip rfl rfl ?_
                      refine KT.skip rfl rfl ?_
                      refine KT.skip rfl rfl ?_
                      refine KT.skip rfl rfl ?_
                      refine KT.skip rfl rfl ?_
                      refine KT.skip rfl rfl ?_
                      refine KT.skip rfl rfl ?_
                      refine KT.step rfl rfl (K.pick rfl (fun _ => rfl) (fun h => by cases h)) ?_
                      refine KT.step rfl rfl (K.assign rfl) ?_
                      refine KT.nil ?_
                      refine thenK_n ?_
                      refine KC.cond rfl (fun hc47 => ?_) (fun hc47 => ?_)
                      · skip
                        refine KC.seq ?_
                        refine KC.region ?_
                        refine KT.step rfl rfl (K.assign rfl) ?_
                        refine KT.nil ?_
                        refine thenK_n ?_
                        refine KC.ret ?_
                        refine blockK_r ?_
                        refine blockK_r ?_
                        refine thenK_r ?_
                        refine thenK_r ?_
                        refine blockK_r ?_
                        refine thenK_r ?_
                        exact ⟨.inl rfl, _, rfl, fin_b (okC_no (i := p.2) (by omega) (decide_eq_false (by unfold folP; omega)))⟩
                      · cases hc47
                    · skip
                      replace hb54 := of_decide_eq_false hb54
                      refine KT.step rfl rfl (K.fieldAddrO rfl Try.fld90_1 Try.size3) ?_
                      refine KT.step rfl rfl (K.loadO rfl (List.getElem?_concat_length ..) (by simp) rfl Try.agg3) ?_
                      refine KT.step rfl rfl (K.move rfl) ?_
                      refine KT.step rfl rfl (K.geq rfl rfl) ?_
                      refine KT.step rfl rfl (K.pick rfl (fun h => by cases h) (fun _ => rfl)) ?_
                      refine KT.step rfl rfl (K.pick rfl (fun _ => rfl) (fun h => by cases h)) ?_
                      refine KT.step rfl rfl (K.move rfl) ?_
                      refine KT.bcase (fun hb61 => ?_) (fun hb61 => ?_)
                      · skip
                        replace hb61 := of_decide_eq_true hb61
                        refine KT.skip rfl rfl ?_
                        refine KT.skip rfl rfl ?_
                        refine KT.skip rfl rfl ?_
                        refine KT.skip rfl rfl ?_
                        refine KT.skip rfl rfl ?_
                        refine KT.skip rfl rfl ?_
                        refine KT.skip rfl rfl ?_
                        refine KT.step rfl rfl (K.pick rfl (fun _ => rfl) (fun h => by cases h)) ?_
                        refine KT.step rfl rfl (K.assign rfl) ?_
                        refine KT.nil ?_
                        refine thenK_n ?_
                        refine KC.cond rfl (fun hc47 => ?_) (fun hc47 => ?_)
                        · skip
                          refine KC.seq ?_
                          refine KC.region ?_
                          refine KT.step rfl rfl (K.assign rfl) ?_
                          refine KT.nil ?_
                          refine thenK_n ?_
                          refine KC.ret ?_
                          refine blockK_r ?_
                          refine blockK_r ?_
                          refine thenK_r ?_
                          refine thenK_r ?_
                          refine blockK_r ?_
                          refine thenK_r ?_
                          exact ⟨.inl rfl, _, rfl, fin_b (okC_no (i := p.2) (by omega) (decide_eq_false (by unfold folP; omega)))⟩
                        · cases hc47
                      · skip
                        replace hb61 := of_decide_eq_false hb61
                        refine KT.step rfl rfl (K.move rfl) ?_
                        refine KT.step rfl rfl (K.eql rfl rfl) ?_
                        refine KT.step rfl rfl (K.move rfl) ?_
                        refine KT.bcase (fun hb64 => ?_) (fun hb64 => ?_)
                        · skip
                          exact absurd (of_decide_eq_true hb64) (by omega)
                        · skip
                          replace hb64 := of_decide_eq_false hb64
                          refine KT.skip rfl rfl ?_
                          refine KT.skip rfl rfl ?_
                          refine KT.skip rfl rfl ?_
                          refine KT.step rfl rfl (K.pick rfl (fun h => by cases h) (fun _ => rfl)) ?_
                          refine KT.step rfl rfl (K.pick rfl (fun h => by cases h) (fun _ => rfl)) ?_
                          refine KT.step rfl rfl (K.assign rfl) ?_
                          refine KT.nil ?_
                          refine thenK_n ?_
                          refine KC.cond rfl (fun hc47 => ?_) (fun hc47 => ?_)
                          · cases hc47
                          · skip
                            refine KC.seq ?_
                            refine KC.region ?_
                            refine KT.step rfl rfl (K.move rfl) ?_
                            refine KT.step rfl rfl (K.gtr rfl rfl) ?_
                            refine KT.step rfl rfl (K.move rfl) ?_
                            refine KT.bcase (fun hb73 => ?_) (fun hb73 => ?_)
                            · skip
                              exact absurd (of_decide_eq_true hb73) (by omega)
                            · skip
                              replace hb73 := of_decide_eq_false hb73
                              refine KT.skip rfl rfl ?_
                              refine KT.skip rfl rfl ?_
                              refine KT.skip rfl rfl ?_
                              refine KT.skip rfl rfl ?_
                              refine KT.skip rfl rfl ?_
                              refine KT.skip rfl rfl ?_
                              refine KT.skip rfl rfl ?_
                              refine KT.skip rfl rfl ?_
                              refine KT.skip rfl rfl ?_
                              refine KT.step rfl rfl (K.pick rfl (fun h => by cases h) (fun _ => rfl)) ?_
                              refine KT.step rfl rfl (K.move rfl) ?_
                              refine KT.step rfl rfl (K.move rfl) ?_
                              refine KT.step rfl rfl (K.lss rfl rfl) ?_
                              refine KT.step rfl rfl (K.move rfl) ?_
                              refine KT.bcase (fun hb87 => ?_) (fun hb87 => ?_)
                              · skip
                                replace hb87 := of_decide_eq_true hb87
                                refine KT.step rfl rfl (K.fieldAddrO rfl Try.fld90_2 Try.size3) ?_
                                refine KT.step rfl rfl (K.loadO rfl (List.getElem?_concat_length ..) (by simp) rfl Try.agg3) ?_
                                refine KT.step rfl rfl (K.neq rfl rfl) ?_
                                refine KT.step rfl rfl (K.pick rfl (fun _ => rfl) (fun h => by cases h)) ?_
                                refine KT.step rfl rfl (K.pick rfl (fun h => by cases h) (fun _ => rfl)) ?_
                                refine KT.step rfl rfl (K.assign rfl) ?_
                                refine KT.nil ?_
                                refine thenK_n ?_
                                refine KC.cond rfl (fun hc70 => ?_) (fun hc70 => ?_)
                                · skip
                                  replace hc70 := of_decide_eq_true hc70
                                  refine KC.seq ?_
                                  refine KC.region ?_
                                  refine KT.step rfl rfl (K.assign rfl) ?_
                                  refine KT.nil ?_
                                  refine thenK_n ?_
                                  refine KC.ret ?_
                                  refine blockK_r ?_
                                  refine blockK_r ?_
                                  refine thenK_r ?_
                                  refine thenK_r ?_
                                  refine blockK_r ?_
                                  refine thenK_r ?_
                                  exact ⟨.inl rfl, _, rfl, fin_b (okC_no (i := p.2) (by omega) (decide_eq_false (by unfold folP; omega)))⟩
                                · skip
                                  replace hc70 := of_decide_eq_false hc70
                                  refine KC.skip ?_
                                  refine blockK_n ?_
                                  refine blockK_n ?_
                                  refine thenK_n ?_
                                  refine KC.region ?_
                                  refine KT.step rfl rfl (K.add rfl rfl (wrap_id (by omega))) ?_
                                  refine KT.step rfl rfl (K.move rfl) ?_
                                  refine KT.nil ?_
                                  refine thenK_n ?_
                                  have hf : follB (cg l p.2) p.2 = true := decide_eq_true (by unfold folP; omega)
                                  refine ⟨(_, p.2 + 1), ⟨by simp only; omega, fun j hj => ?_⟩, by simp only; omega, rfl, by simp [Go.Vm.look, extK]⟩
                                  by_cases e : j = p.2
                                  · subst e; exact hf
                                  · exact hall j (by simp only at hj; omega)
                              · skip
                                exact absurd (of_decide_eq_false hb87) (by omega)
                  · skip
                    exact absurd (of_decide_eq_false hb50) (by omega)
          · skip
            exact absurd (of_decide_eq_false hb22) (by omega)
    · skip
      refine KT.step rfl rfl (K.fieldAddrO rfl Try.fld90_0 Try.size9) ?_
      by_cases hB : kd (cg l p.2) = 0 ∨ kd (cg l p.2) = 2
      · skip
        refine KT.step rfl rfl (K.loadO rfl (List.getElem?_concat_length ..) (by simp) rfl Try.agg9) ?_
        refine KT.step rfl rfl (K.call1 rfl plainTry_48 (kids48 _)) ?_
        refine KT.step rfl rfl (K.assign rfl) ?_
        refine KT.nil ?_
        refine thenK_n ?_
        refine KC.block ?_
        refine KC.seq ?_
        have hk : kd (cg l p.2) = 2 := by omega
        have har : arI (cg l p.2).op = 2 := ar_kind2 hk
        have hor := kind2 hk
        refine KC.region ?_
        refine KT.step rfl rfl (K.move rfl) ?_
        refine KT.step rfl rfl (K.lss rfl rfl) ?_
        refine KT.step rfl rfl (K.move rfl) ?_
        refine KT.bcase (fun hb19 => ?_) (fun hb19 => ?_)
        · skip
          exact absurd (of_decide_eq_true hb19) (by omega)
        · skip
          replace hb19 := of_decide_eq_false hb19
          refine KT.step rfl rfl (K.move rfl) ?_
          refine KT.step rfl rfl (K.eql rfl rfl) ?_
          refine KT.step rfl rfl (K.move rfl) ?_
          refine KT.bcase (fun hb22 => ?_) (fun hb22 => ?_)
          · skip
            exact absurd (of_decide_eq_true hb22) (by omega)
          · skip
            replace hb22 := of_decide_eq_false hb22
            refine KT.skip rfl rfl ?_
            refine KT.skip rfl rfl ?_
            refine KT.skip rfl rfl ?_
            refine KT.step rfl rfl (K.pick rfl (fun h => by cases h) (fun _ => rfl)) ?_
            refine KT.step rfl rfl (K.move rfl) ?_
            refine KT.skip rfl rfl ?_
            refine KT.skip rfl rfl ?_
            refine KT.skip rfl rfl ?_
            refine KT.step rfl rfl (K.pick rfl (fun h => by cases h) (fun _ => rfl)) ?_
            refine KT.step rfl rfl (K.pick rfl (fun h => by cases h) (fun _ => rfl)) ?_
            refine KT.step rfl rfl (K.move rfl) ?_
            refine KT.step rfl rfl (K.move rfl) ?_
            refine KT.step rfl rfl (K.eql rfl rfl) ?_
            refine KT.step rfl rfl (K.move rfl) ?_
            refine KT.bcase (fun hb36 => ?_) (fun hb36 => ?_)
            · skip
              replace hb36 := of_decide_eq_true hb36
              refine KT.step rfl rfl (K.fieldAddrO rfl Try.fld90_0 Try.size9) ?_
              refine KT.step rfl rfl (K.loadO rfl (List.getElem?_concat_length ..) (by simp) rfl Try.agg9) ?_
              refine KT.step rfl rfl (K.neqS rfl rfl) ?_
              refine KT.step rfl rfl (K.pick rfl (fun _ => rfl) (fun h => by cases h)) ?_
              refine KT.step rfl rfl (K.move rfl) ?_
              refine KT.bcase (fun hb41 => ?_) (fun hb41 => ?_)
              · skip
                replace hb41 := of_decide_eq_true hb41
                refine KT.step rfl rfl (K.fieldAddrO rfl Try.fld90_0 Try.size9) ?_
                refine KT.step rfl rfl (K.loadO rfl (List.getElem?_concat_length ..) (by simp) rfl Try.agg9) ?_
                refine KT.step rfl rfl (K.neqS rfl rfl) ?_
                refine KT.step rfl rfl (K.pick rfl (fun _ => rfl) (fun h => by cases h)) ?_
                refine KT.step rfl rfl (K.pick rfl (fun h => by cases h) (fun _ => rfl)) ?_
                refine KT.step rfl rfl (K.assign rfl) ?_
                refine KT.nil ?_
                refine thenK_n ?_
                refine KC.cond rfl (fun hc16 => ?_) (fun hc16 => ?_)
                · skip
                  rcases hor with h | h
                  · exact absurd h hb41
                  · exact absurd h (of_decide_eq_true hc16)
                · skip
                  replace hc16 := of_decide_eq_false hc16
                  refine KC.seq ?_
                  refine KC.region ?_
                  refine KT.step rfl rfl (K.move rfl) ?_
                  refine KT.step rfl rfl (K.gtr rfl rfl) ?_
                  refine KT.step rfl rfl (K.move rfl) ?_
                  refine KT.bcase (fun hb50 => ?_) (fun hb50 => ?_)
                  · skip
                    replace hb50 := of_decide_eq_true hb50
                    refine KT.step rfl rfl (K.fieldAddrO rfl Try.fld90_1 Try.size3) ?_
                    refine KT.step rfl rfl (K.loadO rfl (List.getElem?_concat_length ..) (by simp) rfl Try.agg3) ?_
                    refine KT.step rfl rfl (K.lss rfl rfl) ?_
                    refine KT.step rfl rfl (K.move rfl) ?_
                    refine KT.bcase (fun hb54 => ?_) (fun hb54 => ?_)
                    · skip
                      replace hb54 := of_decide_eq_true hb54
                      refine KT.skip rfl rfl ?_
                      refine KT.skip rfl rfl ?_
                      refine KT.skip rfl rfl ?_
                      refine KT.skip rfl rfl ?_
                      refine KT.step rfl rfl (K.pick rfl (fun _ => rfl) (fun h => by cases h)) ?_
                      refine KT.step rfl rfl (K.pick rfl (fun _ => rfl) (fun h => by cases h)) ?_
                      refine KT.step rfl rfl (K.move rfl) ?_
                      refine KT.skip rfl rfl ?_
                      refine KT.skip rfl rfl ?_
                      refine KT.skip rfl rfl ?_
                      refine KT.skip rfl rfl ?_
                      refine KT.skip rfl rfl ?_
                      refine KT.skip rfl rfl ?_
                      refine KT.skip rfl rfl ?_
                      refine KT.step rfl rfl (K.pick rfl (fun _ => rfl) (fun h => by cases h)) ?_
                      refine KT.step rfl rfl (K.assign rfl) ?_
                      refine KT.nil ?_
                      refine thenK_n ?_
                      refine KC.cond rfl (fun hc47 => ?_) (fun hc47 => ?_)
                      · skip
                        refine KC.seq ?_
                        refine KC.region ?_
                        refine KT.step rfl rfl (K.assign rfl) ?_
                        refine KT.nil ?_
                        refine thenK_n ?_
                        refine KC.ret ?_
                        refine blockK_r ?_
                        refine blockK_r ?_
                        refine thenK_r ?_
                        refine thenK_r ?_
                        refine blockK_r ?_
                        refine thenK_r ?_
                        exact ⟨.inl rfl, _, rfl, fin_b (okC_no (i := p.2) (by omega) (decide_eq_false (by unfold folP; omega)))⟩
                      · cases hc47
                    · skip
                      replace hb54 := of_decide_eq_false hb54
                      refine KT.step rfl rfl (K.fieldAddrO rfl Try.fld90_1 Try.size3) ?_
                      refine KT.step rfl rfl (K.loadO rfl (List.getElem?_concat_length ..) (by simp) rfl Try.agg3) ?_
                      refine KT.step rfl rfl (K.move rfl) ?_
                      refine KT.step rfl rfl (K.geq rfl rfl) ?_
                      refine KT.step rfl rfl (K.pick rfl (fun h => by cases h) (fun _ => rfl)) ?_
                      refine KT.step rfl rfl (K.pick rfl (fun _ => rfl) (fun h => by cases h)) ?_
                      refine KT.step rfl rfl (K.move rfl) ?_
                      refine KT.bcase (fun hb61 => ?_) (fun hb61 => ?_)
                      · skip
                        replace hb61 := of_decide_eq_true hb61
                        refine KT.skip rfl rfl ?_
                        refine KT.skip rfl rfl ?_
                        refine KT.skip rfl rfl ?_
                        refine KT.skip rfl rfl ?_
                        refine KT.skip rfl rfl ?_
                        refine KT.skip rfl rfl ?_
                        refine KT.skip rfl rfl ?_
                        refine KT.step rfl rfl (K.pick rfl (fun _ => rfl) (fun h => by cases h)) ?_
                        refine KT.step rfl rfl (K.assign rfl) ?_
                        refine KT.nil ?_
                        refine thenK_n ?_
                        refine KC.cond rfl (fun hc47 => ?_) (fun hc47 => ?_)
                        · skip
                          refine KC.seq ?_
                          refine KC.region ?_
                          refine KT.step rfl rfl (K.assign rfl) ?_
                          refine KT.nil ?_
                          refine thenK_n ?_
                          refine KC.ret ?_
                          refine blockK_r ?_
                          refine blockK_r ?_
                          refine thenK_r ?_
                          refine thenK_r ?_
                          refine blockK_r ?_
                          refine thenK_r ?_
                          exact ⟨.inl rfl, _, rfl, fin_b (okC_no (i := p.2) (by omega) (decide_eq_false (by unfold folP; omega)))⟩
                        · cases hc47
                      · skip
                        replace hb61 := of_decide_eq_false hb61
                        refine KT.step rfl rfl (K.move rfl) ?_
                        refine KT.step rfl rfl (K.eql rfl rfl) ?_
                        refine KT.step rfl rfl (K.move rfl) ?_
                        refine KT.bcase (fun hb64 => ?_) (fun hb64 => ?_)
                        · skip
                          exact absurd (of_decide_eq_true hb64) (by omega)
                        · skip
                          replace hb64 := of_decide_eq_false hb64
                          refine KT.skip rfl rfl ?_
                          refine KT.skip rfl rfl ?_
                          refine KT.skip rfl rfl ?_
                          refine KT.step rfl rfl (K.pick rfl (fun h => by cases h) (fun _ => rfl)) ?_
                          refine KT.step rfl rfl (K.pick rfl (fun h => by cases h) (fun _ => rfl)) ?_
                          refine KT.step rfl rfl (K.assign rfl) ?_
                          refine KT.nil ?_
                          refine thenK_n ?_
                          refine KC.cond rfl (fun hc47 => ?_) (fun hc47 => ?_)
                          · cases hc47
                          · skip
                            refine KC.seq ?_
                            refine KC.region ?_
                            refine KT.step rfl rfl (K.move rfl) ?_
                            refine KT.step rfl rfl (K.gtr rfl rfl) ?_
                            refine KT.step rfl rfl (K.move rfl) ?_
                            refine KT.bcase (fun hb73 => ?_) (fun hb73 => ?_)
                            · skip
                              replace hb73 := of_decide_eq_true hb73
                              refine KT.step rfl rfl (K.fieldAddrO rfl Try.fld90_2 Try.size3) ?_
                              refine KT.step rfl rfl (K.loadO rfl (List.getElem?_concat_length ..) (by simp) rfl Try.agg3) ?_
                              refine KT.step rfl rfl (K.lss rfl rfl) ?_
                              refine KT.step rfl rfl (K.move rfl) ?_
                              refine KT.bcase (fun hb77 => ?_) (fun hb77 => ?_)
                              · skip
                                replace hb77 := of_decide_eq_true hb77
                                refine KT.skip rfl rfl ?_
                                refine KT.skip rfl rfl ?_
                                refine KT.skip rfl rfl ?_
                                refine KT.skip rfl rfl ?_
                                refine KT.step rfl rfl (K.pick rfl (fun _ => rfl) (fun h => by cases h)) ?_
                                refine KT.step rfl rfl (K.pick rfl (fun _ => rfl) (fun h => by cases h)) ?_
                                refine KT.step rfl rfl (K.move rfl) ?_
                                refine KT.skip rfl rfl ?_
                                refine KT.skip rfl rfl ?_
                                refine KT.skip rfl rfl ?_
                                refine KT.skip rfl rfl ?_
                                refine KT.skip rfl rfl ?_
                                refine KT.skip rfl rfl ?_
                                refine KT.skip rfl rfl ?_
                                refine KT.step rfl rfl (K.pick rfl (fun _ => rfl) (fun h => by cases h)) ?_
                                refine KT.step rfl rfl (K.assign rfl) ?_
                                refine KT.nil ?_
                                refine thenK_n ?_
                                refine KC.cond rfl (fun hc70 => ?_) (fun hc70 => ?_)
                                · skip
                                  refine KC.seq ?_
                                  refine KC.region ?_
                                  refine KT.step rfl rfl (K.assign rfl) ?_
                                  refine KT.nil ?_
                                  refine thenK_n ?_
                                  refine KC.ret ?_
                                  refine blockK_r ?_
                                  refine blockK_r ?_
                                  refine thenK_r ?_
                                  refine thenK_r ?_
                                  refine blockK_r ?_
                                  refine thenK_r ?_
                                  exact ⟨.inl rfl, _, rfl, fin_b (okC_no (i := p.2) (by omega) (decide_eq_false (by unfold folP; omega)))⟩
                                · cases hc70
                              · skip
                                replace hb77 := of_decide_eq_false hb77
                                refine KT.step rfl rfl (K.fieldAddrO rfl Try.fld90_2 Try.size3) ?_
                                refine KT.step rfl rfl (K.loadO rfl (List.getElem?_concat_length ..) (by simp) rfl Try.agg3) ?_
                                refine KT.step rfl rfl (K.move rfl) ?_
                                refine KT.step rfl rfl (K.geq rfl rfl) ?_
                                refine KT.step rfl rfl (K.pick rfl (fun h => by cases h) (fun _ => rfl)) ?_
                                refine KT.step rfl rfl (K.pick rfl (fun _ => rfl) (fun h => by cases h)) ?_
                                refine KT.step rfl rfl (K.move rfl) ?_
                                refine KT.bcase (fun hb84 => ?_) (fun hb84 => ?_)
                                · skip
                                  replace hb84 := of_decide_eq_true hb84
                                  refine KT.skip rfl rfl ?_
                                  refine KT.skip rfl rfl ?_
                                  refine KT.skip rfl rfl ?_
                                  refine KT.skip rfl rfl ?_
                                  refine KT.skip rfl rfl ?_
                                  refine KT.skip rfl rfl ?_
                                  refine KT.skip rfl rfl ?_
                                  refine KT.step rfl rfl (K.pick rfl (fun _ => rfl) (fun h => by cases h)) ?_
                                  refine KT.step rfl rfl (K.assign rfl) ?_
                                  refine KT.nil ?_
                                  refine thenK_n ?_
                                  refine KC.cond rfl (fun hc70 => ?_) (fun hc70 => ?_)
                                  · skip
                                    refine KC.seq ?_
                                    refine KC.region ?_
                                    refine KT.step rfl rfl (K.assign rfl) ?_
                                    refine KT.nil ?_
                                    refine thenK_n ?_
                                    refine KC.ret ?_
                                    refine blockK_r ?_
                                    refine blockK_r ?_
                                    refine thenK_r ?_
                                    refine thenK_r ?_
                                    refine blockK_r ?_
                                    refine thenK_r ?_
                                    exact ⟨.inl rfl, _, rfl, fin_b (okC_no (i := p.2) (by omega) (decide_eq_false (by unfold folP; omega)))⟩
                                  · cases hc70
                                · skip
                                  replace hb84 := of_decide_eq_false hb84
                                  refine KT.step rfl rfl (K.move rfl) ?_
                                  refine KT.step rfl rfl (K.lss rfl rfl) ?_
                                  refine KT.step rfl rfl (K.move rfl) ?_
                                  refine KT.bcase (fun hb87 => ?_) (fun hb87 => ?_)
                                  · skip
                                    exact absurd (of_decide_eq_true hb87) (by omega)
                                  · skip
                                    replace hb87 := of_decide_eq_false hb87
                                    refine KT.skip rfl rfl ?_
                                    refine KT.skip rfl rfl ?_
                                    refine KT.skip rfl rfl ?_
                                    refine KT.step rfl rfl (K.pick rfl (fun h => by cases h) (fun _ => rfl)) ?_
                                    refine KT.step rfl rfl (K.pick rfl (fun h => by cases h) (fun _ => rfl)) ?_
                                    refine KT.step rfl rfl (K.assign rfl) ?_
                                    refine KT.nil ?_
                                    refine thenK_n ?_
                                    refine KC.cond rfl (fun hc70 => ?_) (fun hc70 => ?_)
                                    · cases hc70
                                    · skip
                                      refine KC.skip ?_
                                      refine blockK_n ?_
                                      refine blockK_n ?_
                                      refine thenK_n ?_
                                      refine KC.region ?_
                                      refine KT.step rfl rfl (K.add rfl rfl (wrap_id (by omega))) ?_
                                      refine KT.step rfl rfl (K.move rfl) ?_
                                      refine KT.nil ?_
                                      refine thenK_n ?_
                                      have hf : follB (cg l p.2) p.2 = true := decide_eq_true (by unfold folP; omega)
                                      refine ⟨(_, p.2 + 1), ⟨by simp only; omega, fun j hj => ?_⟩, by simp only; omega, rfl, by simp [Go.Vm.look, extK]⟩
                                      by_cases e : j = p.2
                                      · subst e; exact hf
                                      · exact hall j (by simp only at hj; omega)
                            · skip
                              exact absurd (of_decide_eq_false hb73) (by omega)
                  · skip
                    exact absurd (of_decide_eq_false hb50) (by omega)
              · skip
                replace hb41 := of_decide_eq_false hb41
                refine KT.skip rfl rfl ?_
                refine KT.skip rfl rfl ?_
                refine KT.skip rfl rfl ?_
                refine KT.step rfl rfl (K.pick rfl (fun h => by cases h) (fun _ => rfl)) ?_
                refine KT.step rfl rfl (K.pick rfl (fun h => by cases h) (fun _ => rfl)) ?_
                refine KT.step rfl rfl (K.assign rfl) ?_
                refine KT.nil ?_
                refine thenK_n ?_
                refine KC.cond rfl (fun hc16 => ?_) (fun hc16 => ?_)
                · cases hc16
                · skip
                  refine KC.seq ?_
                  refine KC.region ?_
                  refine KT.step rfl rfl (K.move rfl) ?_
                  refine KT.step rfl rfl (K.gtr rfl rfl) ?_
                  refine KT.step rfl rfl (K.move rfl) ?_
                  refine KT.bcase (fun hb50 => ?_) (fun hb50 => ?_)
                  · skip
                    replace hb50 := of_decide_eq_true hb50
                    refine KT.step rfl rfl (K.fieldAddrO rfl Try.fld90_1 Try.size3) ?_
                    refine KT.step rfl rfl (K.loadO rfl (List.getElem?_concat_length ..) (by simp) rfl Try.agg3) ?_
                    refine KT.step rfl rfl (K.lss rfl rfl) ?_
                    refine KT.step rfl rfl (K.move rfl) ?_
                    refine KT.bcase (fun hb54 => ?_) (fun hb54 => ?_)
                    · skip
                      replace hb54 := of_decide_eq_true hb54
                      refine KT.skip rfl rfl ?_
                      refine KT.skip rfl rfl ?_
                      refine KT.skip rfl rfl ?_
                      refine KT.skip rfl rfl ?_
                      refine KT.step rfl rfl (K.pick rfl (fun _ => rfl) (fun h => by cases h)) ?_
                      refine KT.step rfl rfl (K.pick rfl (fun _ => rfl) (fun h => by cases h)) ?_
                      refine KT.step rfl rfl (K.move rfl) ?_
                      refine KT.skip rfl rfl ?_
                      refine KT.skip rfl rfl ?_
                      refine KT.skip rfl rfl ?_
                      refine KT.skip rfl rfl ?_
                      refine KT.skip rfl rfl ?_
                      refine KT.skip rfl rfl ?_
                      refine KT.skip rfl rfl ?_
                      refine KT.step rfl rfl (K.pick rfl (fun _ => rfl) (fun h => by cases h)) ?_
                      refine KT.step rfl rfl (K.assign rfl) ?_
                      refine KT.nil ?_
                      refine thenK_n ?_
                      refine KC.cond rfl (fun hc47 => ?_) (fun hc47 => ?_)
                      · skip
                        refine KC.seq ?_
                        refine KC.region ?_
                        refine KT.step rfl rfl (K.assign rfl) ?_
                        refine KT.nil ?_
                        refine thenK_n ?_
                        refine KC.ret ?_
                        refine blockK_r ?_
                        refine blockK_r ?_
                        refine thenK_r ?_
                        refine thenK_r ?_
                        refine blockK_r ?_
                        refine thenK_r ?_
                        exact ⟨.inl rfl, _, rfl, fin_b (okC_no (i := p.2) (by omega) (decide_eq_false (by unfold folP; omega)))⟩
                      · cases hc47
                    · skip
                      replace hb54 := of_decide_eq_false hb54
                      refine KT.step rfl rfl (K.fieldAddrO rfl Try.fld90_1 Try.size3) ?_
                      refine KT.step rfl rfl (K.loadO rfl (List.getElem?_concat_length ..) (by simp) rfl Try.agg3) ?_
                      refine KT.step rfl rfl (K.move rfl) ?_
                      refine KT.step rfl rfl (K.geq rfl rfl) ?_
                      refine KT.step rfl rfl (K.pick rfl (fun h => by cases h) (fun _ => rfl)) ?_
                      refine KT.step rfl rfl (K.pick rfl (fun _ => rfl) (fun h => by cases h)) ?_
                      refine KT.step rfl rfl (K.move rfl) ?_
                      refine KT.bcase (fun hb61 => ?_) (fun hb61 => ?_)
                      · skip
                        replace hb61 := of_decide_eq_true hb61
                        refine KT.skip rfl rfl ?_
                        refine KT.skip rfl rfl ?_
                        refine KT.skip rfl rfl ?_
                        refine KT.skip rfl rfl ?_
                        refine KT.skip rfl rfl ?_
                        refine KT.skip rfl rfl ?_
                        refine KT.skip rfl rfl ?_
                        refine KT.step rfl rfl (K.pick rfl (fun _ => rfl) (fun h => by cases h)) ?_
                        refine KT.step rfl rfl (K.assign rfl) ?_
                        refine KT.nil ?_
                        refine thenK_n ?_
                        refine KC.cond rfl (fun hc47 => ?_) (fun hc47 => ?_)
                        · skip
                          refine KC.seq ?_
                          refine KC.region ?_
                          refine KT.step rfl rfl (K.assign rfl) ?_
                          refine KT.nil ?_
                          refine thenK_n ?_
                          refine KC.ret ?_
                          refine blockK_r ?_
                          refine blockK_r ?_
                          refine thenK_r ?_
                          refine thenK_r ?_
                          refine blockK_r ?_
                          refine thenK_r ?_
                          exact ⟨.inl rfl, _, rfl, fin_b (okC_no (i := p.2) (by omega) (decide_eq_false (by unfold folP; omega)))⟩
                        · cases hc47
                      · skip
                        replace hb61 := of_decide_eq_false hb61
                        refine KT.step rfl rfl (K.move rfl) ?_
                        refine KT.step rfl rfl (K.eql rfl rfl) ?_
                        refine KT.step rfl rfl (K.move rfl) ?_
                        refine KT.bcase (fun hb64 => ?_) (fun hb64 => ?_)
                        · skip
                          exact absurd (of_decide_eq_true hb64) (by omega)
                        · skip
                          replace hb64 := of_decide_eq_false hb64
                          refine KT.skip rfl rfl ?_
                          refine KT.skip rfl rfl ?_
                          refine KT.skip rfl rfl ?_
                          refine KT.step rfl rfl (K.pick rfl (fun h => by cases h) (fun _ => rfl)) ?_
                          refine KT.step rfl rfl (K.pick rfl (fun h => by cases h) (fun _ => rfl)) ?_
                          refine KT.step rfl rfl (K.assign rfl) ?_
                          refine KT.nil ?_
                          refine thenK_n ?_
                          refine KC.cond rfl (fun hc47 => ?_) (fun hc47 => ?_)
                          · cases hc47
                          · skip
                            refine KC.seq ?_
                            refine KC.region ?_
                            refine KT.step rfl rfl (K.move rfl) ?_
                            refine KT.step rfl rfl (K.gtr rfl rfl) ?_
                            refine KT.step rfl rfl (K.move rfl) ?_
                            refine KT.bcase (fun hb73 => ?_) (fun hb73 => ?_)
                            · skip
                              replace hb73 := of_decide_eq_true hb73
                              refine KT.step rfl rfl (K.fieldAddrO rfl Try.fld90_2 Try.size3) ?_
                              refine KT.step rfl rfl (K.loadO rfl (List.getElem?_concat_length ..) (by simp) rfl Try.agg3) ?_
                              refine KT.step rfl rfl (K.lss rfl rfl) ?_
                              refine KT.step rfl rfl (K.move rfl) ?_
                              refine KT.bcase (fun hb77 => ?_) (fun hb77 => ?_)
                              · skip
                                replace hb77 := of_decide_eq_true hb77
                                refine KT.skip rfl rfl ?_
                                refine KT.skip rfl rfl ?_
                                refine KT.skip rfl rfl ?_
                                refine KT.skip rfl rfl ?_
                                refine KT.step rfl rfl (K.pick rfl (fun _ => rfl) (fun h => by cases h)) ?_
                                refine KT.step rfl rfl (K.pick rfl (fun _ => rfl) (fun h => by cases h)) ?_
                                refine KT.step rfl rfl (K.move rfl) ?_
                                refine KT.skip rfl rfl ?_
                                refine KT.skip rfl rfl ?_
                                refine KT.skip rfl rfl ?_
                                refine KT.skip rfl rfl ?_
                                refine KT.skip rfl rfl ?_
                                refine KT.skip rfl rfl ?_
                                refine KT.skip rfl rfl ?_
                                refine KT.step rfl rfl (K.pick rfl (fun _ => rfl) (fun h => by cases h)) ?_
                                refine KT.step rfl rfl (K.assign rfl) ?_
                                refine KT.nil ?_
                                refine thenK_n ?_
                                refine KC.cond rfl (fun hc70 => ?_) (fun hc70 => ?_)
                                · skip
                                  refine KC.seq ?_
                                  refine KC.region ?_
                                  refine KT.step rfl rfl (K.assign rfl) ?_
                                  refine KT.nil ?_
                                  refine thenK_n ?_
                                  refine KC.ret ?_
                                  refine blockK_r ?_
                                  refine blockK_r ?_
                                  refine thenK_r ?_
                                  refine thenK_r ?_
                                  refine blockK_r ?_
                                  refine thenK_r ?_
                                  exact ⟨.inl rfl, _, rfl, fin_b (okC_no (i := p.2) (by omega) (decide_eq_false (by unfold folP; omega)))⟩
                                · cases hc70
                              · skip
                                replace hb77 := of_decide_eq_false hb77
                                refine KT.step rfl rfl (K.fieldAddrO rfl Try.fld90_2 Try.size3) ?_
                                refine KT.step rfl rfl (K.loadO rfl (List.getElem?_concat_length ..) (by simp) rfl Try.agg3) ?_
                                refine KT.step rfl rfl (K.move rfl) ?_
                                refine KT.step rfl rfl (K.geq rfl rfl) ?_
                                refine KT.step rfl rfl (K.pick rfl (fun h => by cases h) (fun _ => rfl)) ?_
                                refine KT.step rfl rfl (K.pick rfl (fun _ => rfl) (fun h => by cases h)) ?_
                                refine KT.step rfl rfl (K.move rfl) ?_
                                refine KT.bcase (fun hb84 => ?_) (fun hb84 => ?_)
                                · skip
                                  replace hb84 := of_decide_eq_true hb84
                                  refine KT.skip rfl rfl ?_
                                  refine KT.skip rfl rfl ?_
                                  refine KT.skip rfl rfl ?_
                                  refine KT.skip rfl rfl ?_
                                  refine KT.skip rfl rfl ?_
                                  refine KT.skip rfl rfl ?_
                                  refine KT.skip rfl rfl ?_
                                  refine KT.step rfl rfl (K.pick rfl (fun _ => rfl) (fun h => by cases h)) ?_
                                  refine KT.step rfl rfl (K.assign rfl) ?_
                                  refine KT.nil ?_
                                  refine thenK_n ?_
                                  refine KC.cond rfl (fun hc70 => ?_) (fun hc70 => ?_)
                                  · skip
                                    refine KC.seq ?_
                                    refine KC.region ?_
                                    refine KT.step rfl rfl (K.assign rfl) ?_
                                    refine KT.nil ?_
                                    refine thenK_n ?_
                                    refine KC.ret ?_
                                    refine blockK_r ?_
                                    refine blockK_r ?_
                                    refine thenK_r ?_
                                    refine thenK_r ?_
                                    refine blockK_r ?_
                                    refine thenK_r ?_
                                    exact ⟨.inl rfl, _, rfl, fin_b (okC_no (i := p.2) (by omega) (decide_eq_false (by unfold folP; omega)))⟩
                                  · cases hc70
                                · skip
                                  replace hb84 := of_decide_eq_false hb84
                                  refine KT.step rfl rfl (K.move rfl) ?_
                                  refine KT.step rfl rfl (K.lss rfl rfl) ?_
                                  refine KT.step rfl rfl (K.move rfl) ?_
                                  refine KT.bcase (fun hb87 => ?_) (fun hb87 => ?_)
                                  · skip
                                    exact absurd (of_decide_eq_true hb87) (by omega)
                                  · skip
                                    replace hb87 := of_decide_eq_false hb87
                                    refine KT.skip rfl rfl ?_
                                    refine KT.skip rfl rfl ?_
                                    refine KT.skip rfl rfl ?_
                                    refine KT.step rfl rfl (K.pick rfl (fun h => by cases h) (fun _ => rfl)) ?_
                                    refine KT.step rfl rfl (K.pick rfl (fun h => by cases h) (fun _ => rfl)) ?_
                                    refine KT.step rfl rfl (K.assign rfl) ?_
                                    refine KT.nil ?_
                                    refine thenK_n ?_
                                    refine KC.cond rfl (fun hc70 => ?_) (fun hc70 => ?_)
                                    · cases hc70
                                    · skip
                                      refine KC.skip ?_
                                      refine blockK_n ?_
                                      refine blockK_n ?_
                                      refine thenK_n ?_
                                      refine KC.region ?_
                                      refine KT.step rfl rfl (K.add rfl rfl (wrap_id (by omega))) ?_
                                      refine KT.step rfl rfl (K.move rfl) ?_
                                      refine KT.nil ?_
                                      refine thenK_n ?_
                                      have hf : follB (cg l p.2) p.2 = true := decide_eq_true (by unfold folP; omega)
                                      refine ⟨(_, p.2 + 1), ⟨by simp only; omega, fun j hj => ?_⟩, by simp only; omega, rfl, by simp [Go.Vm.look, extK]⟩
                                      by_cases e : j = p.2
                                      · subst e; exact hf
                                      · exact hall j (by simp only at hj; omega)
                            · skip
                              exact absurd (of_decide_eq_false hb73) (by omega)
                  · skip
                    exact absurd (of_decide_eq_false hb50) (by omega)
            · skip
              exact absurd (of_decide_eq_false hb36) (by omega)
      · skip
        refine KT.step rfl rfl (K.loadO rfl (List.getElem?_concat_length ..) (by simp) rfl Try.agg9) ?_
        refine KT.step rfl rfl (K.call1 rfl plainTry_48 (kids48 _)) ?_
        refine KT.step rfl rfl (K.assign rfl) ?_
        refine KT.nil ?_
        refine thenK_n ?_
        refine KC.block ?_
        refine KC.seq ?_
        have hk : kd (cg l p.2) = 3 := by have := kd_le (cg l p.2); omega
        obtain ⟨har, hnN, hnX, hnA, hnO⟩ := ar_kind3 hk
        refine KC.region ?_
        refine KT.step rfl rfl (K.move rfl) ?_
        refine KT.step rfl rfl (K.lss rfl rfl) ?_
        refine KT.step rfl rfl (K.move rfl) ?_
        refine KT.bcase (fun hb19 => ?_) (fun hb19 => ?_)
        · skip
          replace hb19 := of_decide_eq_true hb19
          refine KT.skip rfl rfl ?_
          refine KT.skip rfl rfl ?_
          refine KT.skip rfl rfl ?_
          refine KT.skip rfl rfl ?_
          refine KT.skip rfl rfl ?_
          refine KT.skip rfl rfl ?_
          refine KT.skip rfl rfl ?_
          refine KT.skip rfl rfl ?_
          refine KT.skip rfl rfl ?_
          refine KT.skip rfl rfl ?_
          refine KT.skip rfl rfl ?_
          refine KT.skip rfl rfl ?_
          refine KT.step rfl rfl (K.pick rfl (fun _ => rfl) (fun h => by cases h)) ?_
          refine KT.step rfl rfl (K.move rfl) ?_
          refine KT.skip rfl rfl ?_
          refine KT.skip rfl rfl ?_
          refine KT.skip rfl rfl ?_
          refine KT.skip rfl rfl ?_
          refine KT.skip rfl rfl ?_
          refine KT.skip rfl rfl ?_
          refine KT.skip rfl rfl ?_
          refine KT.skip rfl rfl ?_
          refine KT.skip rfl rfl ?_
          refine KT.skip rfl rfl ?_
          refine KT.skip rfl rfl ?_
          refine KT.skip rfl rfl ?_
          refine KT.step rfl rfl (K.pick rfl (fun _ => rfl) (fun h => by cases h)) ?_
          refine KT.step rfl rfl (K.assign rfl) ?_
          refine KT.nil ?_
          refine thenK_n ?_
          refine KC.cond rfl (fun hc16 => ?_) (fun hc16 => ?_)
          · skip
            refine KC.seq ?_
            refine KC.region ?_
            refine KT.step rfl rfl (K.assign rfl) ?_
            refine KT.nil ?_
            refine thenK_n ?_
            refine KC.ret ?_
            refine blockK_r ?_
            refine blockK_r ?_
            refine thenK_r ?_
            refine thenK_r ?_
            refine blockK_r ?_
            refine thenK_r ?_
            exact ⟨.inl rfl, _, rfl, fin_b (okC_no (i := p.2) (by omega) (fol3 hk))⟩
          · cases hc16
        · skip
          replace hb19 := of_decide_eq_false hb19
          refine KT.step rfl rfl (K.move rfl) ?_
          refine KT.step rfl rfl (K.eql rfl rfl) ?_
          refine KT.step rfl rfl (K.move rfl) ?_
          refine KT.bcase (fun hb22 => ?_) (fun hb22 => ?_)
          · skip
            replace hb22 := of_decide_eq_true hb22
            refine KT.step rfl rfl (K.fieldAddrO rfl Try.fld90_0 Try.size9) ?_
            refine KT.step rfl rfl (K.loadO rfl (List.getElem?_concat_length ..) (by simp) rfl Try.agg9) ?_
            refine KT.step rfl rfl (K.neqS rfl rfl) ?_
            refine KT.step rfl rfl (K.pick rfl (fun _ => rfl) (fun h => by cases h)) ?_
            refine KT.step rfl rfl (K.move rfl) ?_
            refine KT.bcase (fun hb27 => ?_) (fun hb27 => ?_)
            · skip
              replace hb27 := of_decide_eq_true hb27
              refine KT.step rfl rfl (K.fieldAddrO rfl Try.fld90_0 Try.size9) ?_
              refine KT.step rfl rfl (K.loadO rfl (List.getElem?_concat_length ..) (by simp) rfl Try.agg9) ?_
              refine KT.step rfl rfl (K.neqS rfl rfl) ?_
              refine KT.step rfl rfl (K.pick rfl (fun _ => rfl) (fun h => by cases h)) ?_
              refine KT.step rfl rfl (K.pick rfl (fun h => by cases h) (fun _ => rfl)) ?_
              refine KT.step rfl rfl (K.move rfl) ?_
              refine KT.bcase (fun hb33 => ?_) (fun hb33 => ?_)
              · skip
                replace hb33 := of_decide_eq_true hb33
                refine KT.skip rfl rfl ?_
                refine KT.skip rfl rfl ?_
                refine KT.skip rfl rfl ?_
                refine KT.skip rfl rfl ?_
                refine KT.skip rfl rfl ?_
                refine KT.skip rfl rfl ?_
                refine KT.skip rfl rfl ?_
                refine KT.skip rfl rfl ?_
                refine KT.skip rfl rfl ?_
                refine KT.skip rfl rfl ?_
                refine KT.skip rfl rfl ?_
                refine KT.skip rfl rfl ?_
                refine KT.step rfl rfl (K.pick rfl (fun _ => rfl) (fun h => by cases h)) ?_
                refine KT.step rfl rfl (K.assign rfl) ?_
                refine KT.nil ?_
                refine thenK_n ?_
                refine KC.cond rfl (fun hc16 => ?_) (fun hc16 => ?_)
                · skip
                  refine KC.seq ?_
                  refine KC.region ?_
                  refine KT.step rfl rfl (K.assign rfl) ?_
                  refine KT.nil ?_
                  refine thenK_n ?_
                  refine KC.ret ?_
                  refine blockK_r ?_
                  refine blockK_r ?_
                  refine thenK_r ?_
                  refine thenK_r ?_
                  refine blockK_r ?_
                  refine thenK_r ?_
                  exact ⟨.inl rfl, _, rfl, fin_b (okC_no (i := p.2) (by omega) (fol3 hk))⟩
                · cases hc16
              · skip
                exact absurd hnX (of_decide_eq_false hb33)
            · skip
              exact absurd hnN (of_decide_eq_false hb27)
          · skip
            replace hb22 := of_decide_eq_false hb22
            refine KT.skip rfl rfl ?_
            refine KT.skip rfl rfl ?_
            refine KT.skip rfl rfl ?_
            refine KT.step rfl rfl (K.pick rfl (fun h => by cases h) (fun _ => rfl)) ?_
            refine KT.step rfl rfl (K.move rfl) ?_
            refine KT.skip rfl rfl ?_
            refine KT.skip rfl rfl ?_
            refine KT.skip rfl rfl ?_
            refine KT.step rfl rfl (K.pick rfl (fun h => by cases h) (fun _ => rfl)) ?_
            refine KT.step rfl rfl (K.pick rfl (fun h => by cases h) (fun _ => rfl)) ?_
            refine KT.step rfl rfl (K.move rfl) ?_
            refine KT.step rfl rfl (K.move rfl) ?_
            refine KT.step rfl rfl (K.eql rfl rfl) ?_
            refine KT.step rfl rfl (K.move rfl) ?_
            refine KT.bcase (fun hb36 => ?_) (fun hb36 => ?_)
            · skip
              replace hb36 := of_decide_eq_true hb36
              refine KT.step rfl rfl (K.fieldAddrO rfl Try.fld90_0 Try.size9) ?_
              refine KT.step rfl rfl (K.loadO rfl (List.getElem?_concat_length ..) (by simp) rfl Try.agg9) ?_
              refine KT.step rfl rfl (K.neqS rfl rfl) ?_
              refine KT.step rfl rfl (K.pick rfl (fun _ => rfl) (fun h => by cases h)) ?_
              refine KT.step rfl rfl (K.move rfl) ?_
              refine KT.bcase (fun hb41 => ?_) (fun hb41 => ?_)
              · skip
                replace hb41 := of_decide_eq_true hb41
                refine KT.step rfl rfl (K.fieldAddrO rfl Try.fld90_0 Try.size9) ?_
                refine KT.step rfl rfl (K.loadO rfl (List.getElem?_concat_length ..) (by simp) rfl Try.agg9) ?_
                refine KT.step rfl rfl (K.neqS rfl rfl) ?_
                refine KT.step rfl rfl (K.pick rfl (fun _ => rfl) (fun h => by cases h)) ?_
                refine KT.step rfl rfl (K.pick rfl (fun h => by cases h) (fun _ => rfl)) ?_
                refine KT.step rfl rfl (K.assign rfl) ?_
                refine KT.nil ?_
                refine thenK_n ?_
                refine KC.cond rfl (fun hc16 => ?_) (fun hc16 => ?_)
                · skip
                  replace hc16 := of_decide_eq_true hc16
                  refine KC.seq ?_
                  refine KC.region ?_
                  refine KT.step rfl rfl (K.assign rfl) ?_
                  refine KT.nil ?_
                  refine thenK_n ?_
                  refine KC.ret ?_
                  refine blockK_r ?_
                  refine blockK_r ?_
                  refine thenK_r ?_
                  refine thenK_r ?_
                  refine blockK_r ?_
                  refine thenK_r ?_
                  exact ⟨.inl rfl, _, rfl, fin_b (okC_no (i := p.2) (by omega) (fol3 hk))⟩
                · skip
                  exact absurd hnO (of_decide_eq_false hc16)
              · skip
                exact absurd hnA (of_decide_eq_false hb41)
            · skip
              exact absurd (of_decide_eq_false hb36) (by omega)
  · skip
    replace hc9 := of_decide_eq_false hc9
    refine KC.exit ?_
    refine thenK_x ?_
    refine thenK_x ?_
    refine blockK_e ?_
    refine thenK_n ?_
    refine KC.seq ?_
    refine KC.region ?_
    refine KT.step rfl rfl (K.move rfl) ?_
    refine KT.step rfl rfl (K.lenCls rfl hd Try.underlying49) ?_
    refine KT.step rfl rfl (K.geq rfl rfl) ?_
    refine KT.step rfl rfl (K.move rfl) ?_
    refine KT.bcase (fun hb97 => ?_) (fun hb97 => ?_)
    · skip
      replace hb97 := of_decide_eq_true hb97
      refine KT.step rfl rfl (K.move rfl) ?_
      refine KT.step rfl rfl (K.lenCls rfl hd Try.underlying49) ?_
      refine KT.step rfl rfl (K.leq rfl rfl) ?_
      refine KT.step rfl rfl (K.pick rfl (fun _ => rfl) (fun h => by cases h)) ?_
      refine KT.step rfl rfl (K.assign rfl) ?_
      refine KT.nil ?_
      refine thenK_n ?_
      refine KC.ret ?_
      refine ⟨.inl rfl, _, rfl, fin_b ?_⟩
      by_cases h5 : l.length ≤ 5000
      · rw [okC_yes (by omega) h5 (fun j hj => hall j (by omega))]; exact (decide_eq_true (by omega)).symm
      · rw [okC_len (by omega)]; exact (decide_eq_false (by omega)).symm
    · skip
      replace hb97 := of_decide_eq_false hb97
      refine KT.skip rfl rfl ?_
      refine KT.skip rfl rfl ?_
      refine KT.skip rfl rfl ?_
      refine KT.step rfl rfl (K.pick rfl (fun h => by cases h) (fun _ => rfl)) ?_
      refine KT.step rfl rfl (K.assign rfl) ?_
      refine KT.nil ?_
      refine thenK_n ?_
      refine KC.ret ?_
      exact ⟨.inl rfl, _, rfl, fin_b (okC_len (by omega))⟩
end Go.Proofs.Ytcjcchceeidgkaa

