import Derived.Test.YtcjcchceeidgkaaLgPb
import Derived.Test.YtcjcchceeidgkaaLgW
/-
  Logic: paths of the reference.
-/
namespace Go.Proofs.Ytcjcchceeidgkaa
open Go.Vm Go.Lg
theorem plainTry_22 : plainFn Try.prog 22 = true := by kernel_rfl
theorem plainTry_18 : plainFn Try.prog 18 = true := by kernel_rfl
theorem plainTry_42 : plainFn Try.prog 42 = true := by kernel_rfl
theorem plainTry_19 : plainFn Try.prog 19 = true := by kernel_rfl
set_option maxRecDepth 10000 in
theorem rstate22 {dn dl : DV} {nx lb : List Nat} (hS : Str dn dl nx lb) {x : Int} : DeepCall Try.prog 22 [.agg [dn, dl], DI x] (DB (inS nx.length x)) := by
  refine deepCall_K 5 Try.func22 rfl (Nat.le_of_ble_eq_true rfl) fun M W0 => ?_
  refine KC.seq ?_
  refine KC.region ?_
  refine KT.step rfl rfl (K.box rfl) ?_
  refine KT.step rfl rfl (K.assign rfl) ?_
  refine KT.nil ?_
  refine thenK_n ?_
  refine KC.seq ?_
  refine KC.region ?_
  refine KT.step rfl rfl (K.move rfl) ?_
  refine KT.step rfl rfl (K.geq rfl rfl) ?_
  refine KT.step rfl rfl (K.move rfl) ?_
  refine KT.bcase (fun hb7 => ?_) (fun hb7 => ?_)
  · skip
    replace hb7 := of_decide_eq_true hb7
    refine KT.step rfl rfl (K.move rfl) ?_
    refine KT.step rfl rfl (K.fieldAddrO rfl Try.fld24_0 Try.size22) ?_
    refine KT.step rfl rfl (K.loadO rfl rfl (by simp) rfl Try.agg22) ?_
    refine KT.step rfl rfl (K.len rfl hS.hn Try.underlying22) ?_
    refine KT.step rfl rfl (K.lss rfl rfl) ?_
    refine KT.step rfl rfl (K.pick rfl (fun _ => rfl) (fun h => by cases h)) ?_
    refine KT.step rfl rfl (K.assign rfl) ?_
    refine KT.nil ?_
    refine thenK_n ?_
    refine KC.ret ?_
    exact ⟨.inl rfl, _, rfl, fin_b (by unfold inS; rw [decide_eq_true (show 0 ≤ x from hb7), Bool.true_and])⟩
  · skip
    replace hb7 := of_decide_eq_false hb7
    refine KT.skip rfl rfl ?_
    refine KT.skip rfl rfl ?_
    refine KT.skip rfl rfl ?_
    refine KT.skip rfl rfl ?_
    refine KT.skip rfl rfl ?_
    refine KT.step rfl rfl (K.pick rfl (fun h => by cases h) (fun _ => rfl)) ?_
    refine KT.step rfl rfl (K.assign rfl) ?_
    refine KT.nil ?_
    refine thenK_n ?_
    refine KC.ret ?_
    exact ⟨.inl rfl, _, rfl, fin_b (by unfold inS; rw [decide_eq_false (show ¬ 0 ≤ x from hb7), Bool.false_and])⟩
set_option maxRecDepth 10000 in
theorem rshows18 {kd : DV} {op : ByteArray} {ks : List Fo} (hk : KidsD kd ks) : DeepCall Try.prog 18 [.agg [.lit (.string op), kd]] (DB (shownB op)) := by
  refine deepCall_K 5 Try.func18 rfl (Nat.le_of_ble_eq_true rfl) fun M W0 => ?_
  refine KC.seq ?_
  refine KC.region ?_
  refine KT.step rfl rfl (K.box rfl) ?_
  refine KT.step rfl rfl (K.assign rfl) ?_
  refine KT.nil ?_
  refine thenK_n ?_
  refine KC.seq ?_
  refine KC.region ?_
  refine KT.step rfl rfl (K.fieldAddrO rfl Try.fld27_0 Try.size9) ?_
  refine KT.step rfl rfl (K.loadO rfl rfl (by simp) rfl Try.agg9) ?_
  refine KT.step rfl rfl (K.eqlS rfl rfl) ?_
  refine KT.step rfl rfl (K.move rfl) ?_
  refine KT.bcase (fun hb6 => ?_) (fun hb6 => ?_)
  · skip
    replace hb6 := of_decide_eq_true hb6
    refine KT.skip rfl rfl ?_
    refine KT.skip rfl rfl ?_
    refine KT.skip rfl rfl ?_
    refine KT.step rfl rfl (K.pick rfl (fun _ => rfl) (fun h => by cases h)) ?_
    refine KT.step rfl rfl (K.move rfl) ?_
    refine KT.skip rfl rfl ?_
    refine KT.skip rfl rfl ?_
    refine KT.skip rfl rfl ?_
    refine KT.step rfl rfl (K.pick rfl (fun _ => rfl) (fun h => by cases h)) ?_
    refine KT.step rfl rfl (K.move rfl) ?_
    refine KT.skip rfl rfl ?_
    refine KT.skip rfl rfl ?_
    refine KT.skip rfl rfl ?_
    refine KT.step rfl rfl (K.pick rfl (fun _ => rfl) (fun h => by cases h)) ?_
    refine KT.step rfl rfl (K.assign rfl) ?_
    refine KT.nil ?_
    refine thenK_n ?_
    refine KC.ret ?_
    exact ⟨.inl rfl, _, rfl, fin_b (by unfold shownB EX' EF' EG' EU'; simp [*])⟩
  · skip
    replace hb6 := of_decide_eq_false hb6
    refine KT.step rfl rfl (K.fieldAddrO rfl Try.fld27_0 Try.size9) ?_
    refine KT.step rfl rfl (K.loadO rfl rfl (by simp) rfl Try.agg9) ?_
    refine KT.step rfl rfl (K.eqlS rfl rfl) ?_
    refine KT.step rfl rfl (K.pick rfl (fun h => by cases h) (fun _ => rfl)) ?_
    refine KT.step rfl rfl (K.move rfl) ?_
    refine KT.bcase (fun hb11 => ?_) (fun hb11 => ?_)
    · skip
      replace hb11 := of_decide_eq_true hb11
      refine KT.skip rfl rfl ?_
      refine KT.skip rfl rfl ?_
      refine KT.skip rfl rfl ?_
      refine KT.step rfl rfl (K.pick rfl (fun _ => rfl) (fun h => by cases h)) ?_
      refine KT.step rfl rfl (K.move rfl) ?_
      refine KT.skip rfl rfl ?_
      refine KT.skip rfl rfl ?_
      refine KT.skip rfl rfl ?_
      refine KT.step rfl rfl (K.pick rfl (fun _ => rfl) (fun h => by cases h)) ?_
      refine KT.step rfl rfl (K.assign rfl) ?_
      refine KT.nil ?_
      refine thenK_n ?_
      refine KC.ret ?_
      exact ⟨.inl rfl, _, rfl, fin_b (by unfold shownB EX' EF' EG' EU'; simp [*])⟩
    · skip
      replace hb11 := of_decide_eq_false hb11
      refine KT.step rfl rfl (K.fieldAddrO rfl Try.fld27_0 Try.size9) ?_
      refine KT.step rfl rfl (K.loadO rfl rfl (by simp) rfl Try.agg9) ?_
      refine KT.step rfl rfl (K.eqlS rfl rfl) ?_
      refine KT.step rfl rfl (K.pick rfl (fun h => by cases h) (fun _ => rfl)) ?_
      refine KT.step rfl rfl (K.move rfl) ?_
      refine KT.bcase (fun hb16 => ?_) (fun hb16 => ?_)
      · skip
        replace hb16 := of_decide_eq_true hb16
        refine KT.skip rfl rfl ?_
        refine KT.skip rfl rfl ?_
        refine KT.skip rfl rfl ?_
        refine KT.step rfl rfl (K.pick rfl (fun _ => rfl) (fun h => by cases h)) ?_
        refine KT.step rfl rfl (K.assign rfl) ?_
        refine KT.nil ?_
        refine thenK_n ?_
        refine KC.ret ?_
        exact ⟨.inl rfl, _, rfl, fin_b (by unfold shownB EX' EF' EG' EU'; simp [*])⟩
      · skip
        replace hb16 := of_decide_eq_false hb16
        refine KT.step rfl rfl (K.fieldAddrO rfl Try.fld27_0 Try.size9) ?_
        refine KT.step rfl rfl (K.loadO rfl rfl (by simp) rfl Try.agg9) ?_
        refine KT.step rfl rfl (K.eqlS rfl rfl) ?_
        refine KT.step rfl rfl (K.pick rfl (fun h => by cases h) (fun _ => rfl)) ?_
        refine KT.step rfl rfl (K.assign rfl) ?_
        refine KT.nil ?_
        refine thenK_n ?_
        refine KC.ret ?_
        exact ⟨.inl rfl, _, rfl, fin_b (by unfold shownB EX' EF' EG' EU'; simp [*])⟩
set_option maxRecDepth 10000 in
theorem rfits42 {dn dl : DV} {nx lb : List Nat} (hS : Str dn dl nx lb) {dQ : DV} {Q : List Int} {lp : Int} (hQ : Ints dQ Q) (hl : Q.length ≤ 9223372036854775807) : DeepCall Try.prog 42 [.agg [dn, dl], .agg [dQ, DI lp]] (DB (fitsB nx Q lp)) := by
  refine deepCall_K 5 Try.func42 rfl (Nat.le_of_ble_eq_true rfl) fun M W0 => ?_
  refine KC.seq ?_
  refine KC.region ?_
  refine KT.step rfl rfl (K.box rfl) ?_
  refine KT.step rfl rfl (K.box rfl) ?_
  refine KT.step rfl rfl (K.assign rfl) ?_
  refine KT.nil ?_
  refine thenK_n ?_
  refine KC.seq ?_
  refine KC.region ?_
  refine KT.step rfl rfl (K.fieldAddrO rfl Try.fld43_0 Try.size22) ?_
  refine KT.step rfl rfl (K.loadO rfl rfl (by simp) rfl Try.agg22) ?_
  refine KT.step rfl rfl (K.len rfl hQ Try.underlying22) ?_
  refine KT.step rfl rfl (K.assign rfl) ?_
  refine KT.nil ?_
  refine thenK_n ?_
  refine KC.seq ?_
  refine KC.seq ?_
  refine KC.region ?_
  refine KT.step rfl rfl (K.move rfl) ?_
  refine KT.step rfl rfl (K.lss rfl rfl) ?_
  refine KT.step rfl rfl (K.move rfl) ?_
  refine KT.bcase (fun hb14 => ?_) (fun hb14 => ?_)
  · skip
    replace hb14 := of_decide_eq_true hb14
    refine KT.skip rfl rfl ?_
    refine KT.skip rfl rfl ?_
    refine KT.step rfl rfl (K.pick rfl (fun _ => rfl) (fun h => by cases h)) ?_
    refine KT.step rfl rfl (K.move rfl) ?_
    refine KT.skip rfl rfl ?_
    refine KT.skip rfl rfl ?_
    refine KT.skip rfl rfl ?_
    refine KT.step rfl rfl (K.pick rfl (fun _ => rfl) (fun h => by cases h)) ?_
    refine KT.step rfl rfl (K.move rfl) ?_
    refine KT.skip rfl rfl ?_
    refine KT.skip rfl rfl ?_
    refine KT.skip rfl rfl ?_
    refine KT.skip rfl rfl ?_
    refine KT.step rfl rfl (K.pick rfl (fun _ => rfl) (fun h => by cases h)) ?_
    refine KT.nil ?_
    refine thenK_n ?_
    refine KC.cond rfl (fun hc28 => ?_) (fun hc28 => ?_)
    · skip
      refine KC.seq ?_
      refine KC.region ?_
      refine KT.step rfl rfl (K.assign rfl) ?_
      refine KT.nil ?_
      refine thenK_n ?_
      refine KC.ret ?_
      refine thenK_r ?_
      have hd : headB Q lp = false := by
        cases hh : headB Q lp with
        | false => rfl
        | true =>
          obtain ⟨g1, g2, g3, g4⟩ := headB_iff.1 hh
          omega
      exact ⟨.inl rfl, _, rfl, fin_b (fits_head hd)⟩
    · cases hc28
  · skip
    replace hb14 := of_decide_eq_false hb14
    refine KT.step rfl rfl (K.move rfl) ?_
    refine KT.step rfl rfl (K.gtr rfl rfl) ?_
    refine KT.step rfl rfl (K.pick rfl (fun h => by cases h) (fun _ => rfl)) ?_
    refine KT.step rfl rfl (K.move rfl) ?_
    refine KT.bcase (fun hb18 => ?_) (fun hb18 => ?_)
    · skip
      replace hb18 := of_decide_eq_true hb18
      refine KT.skip rfl rfl ?_
      refine KT.skip rfl rfl ?_
      refine KT.skip rfl rfl ?_
      refine KT.step rfl rfl (K.pick rfl (fun _ => rfl) (fun h => by cases h)) ?_
      refine KT.step rfl rfl (K.move rfl) ?_
      refine KT.skip rfl rfl ?_
      refine KT.skip rfl rfl ?_
      refine KT.skip rfl rfl ?_
      refine KT.skip rfl rfl ?_
      refine KT.step rfl rfl (K.pick rfl (fun _ => rfl) (fun h => by cases h)) ?_
      refine KT.nil ?_
      refine thenK_n ?_
      refine KC.cond rfl (fun hc28 => ?_) (fun hc28 => ?_)
      · skip
        refine KC.seq ?_
        refine KC.region ?_
        refine KT.step rfl rfl (K.assign rfl) ?_
        refine KT.nil ?_
        refine thenK_n ?_
        refine KC.ret ?_
        refine thenK_r ?_
        have hd : headB Q lp = false := by
          cases hh : headB Q lp with
          | false => rfl
          | true =>
            obtain ⟨g1, g2, g3, g4⟩ := headB_iff.1 hh
            omega
        exact ⟨.inl rfl, _, rfl, fin_b (fits_head hd)⟩
      · cases hc28
    · skip
      replace hb18 := of_decide_eq_false hb18
      refine KT.step rfl rfl (K.fieldAddrO rfl Try.fld43_1 Try.size3) ?_
      refine KT.step rfl rfl (K.loadO rfl rfl (by simp) rfl Try.agg3) ?_
      refine KT.step rfl rfl (K.lss rfl rfl) ?_
      refine KT.step rfl rfl (K.pick rfl (fun h => by cases h) (fun _ => rfl)) ?_
      refine KT.step rfl rfl (K.move rfl) ?_
      refine KT.bcase (fun hb23 => ?_) (fun hb23 => ?_)
      · skip
        replace hb23 := of_decide_eq_true hb23
        refine KT.skip rfl rfl ?_
        refine KT.skip rfl rfl ?_
        refine KT.skip rfl rfl ?_
        refine KT.skip rfl rfl ?_
        refine KT.step rfl rfl (K.pick rfl (fun _ => rfl) (fun h => by cases h)) ?_
        refine KT.nil ?_
        refine thenK_n ?_
        refine KC.cond rfl (fun hc28 => ?_) (fun hc28 => ?_)
        · skip
          refine KC.seq ?_
          refine KC.region ?_
          refine KT.step rfl rfl (K.assign rfl) ?_
          refine KT.nil ?_
          refine thenK_n ?_
          refine KC.ret ?_
          refine thenK_r ?_
          have hd : headB Q lp = false := by
            cases hh : headB Q lp with
            | false => rfl
            | true =>
              obtain ⟨g1, g2, g3, g4⟩ := headB_iff.1 hh
              omega
          exact ⟨.inl rfl, _, rfl, fin_b (fits_head hd)⟩
        · cases hc28
      · skip
        replace hb23 := of_decide_eq_false hb23
        refine KT.step rfl rfl (K.fieldAddrO rfl Try.fld43_1 Try.size3) ?_
        refine KT.step rfl rfl (K.loadO rfl rfl (by simp) rfl Try.agg3) ?_
        refine KT.step rfl rfl (K.move rfl) ?_
        refine KT.step rfl rfl (K.geq rfl rfl) ?_
        refine KT.step rfl rfl (K.pick rfl (fun h => by cases h) (fun _ => rfl)) ?_
        refine KT.nil ?_
        refine thenK_n ?_
        refine KC.cond rfl (fun hc28 => ?_) (fun hc28 => ?_)
        · skip
          replace hc28 := of_decide_eq_true hc28
          refine KC.seq ?_
          refine KC.region ?_
          refine KT.step rfl rfl (K.assign rfl) ?_
          refine KT.nil ?_
          refine thenK_n ?_
          refine KC.ret ?_
          refine thenK_r ?_
          have hd : headB Q lp = false := by
            cases hh : headB Q lp with
            | false => rfl
            | true =>
              obtain ⟨g1, g2, g3, g4⟩ := headB_iff.1 hh
              omega
          exact ⟨.inl rfl, _, rfl, fin_b (fits_head hd)⟩
        · skip
          replace hc28 := of_decide_eq_false hc28
          have hd : headB Q lp = true := headB_iff.2 (by
            omega)
          obtain ⟨g1, g2, g3, g4⟩ := headB_iff.1 hd
          refine KC.skip ?_
          refine thenK_n ?_
          refine KC.seq ?_
          refine KC.seq ?_
          refine KC.region ?_
          refine KT.step rfl rfl (K.fieldAddrO rfl Try.fld43_0 Try.size22) ?_
          refine KT.step rfl rfl (K.loadO rfl rfl (by simp) rfl Try.agg22) ?_
          refine KT.step rfl rfl (K.len rfl hQ Try.underlying22) ?_
          refine KT.step rfl rfl (K.move rfl) ?_
          refine KT.nil ?_
          refine thenK_n ?_
          refine KC.block ?_
          refine KC.loop (fun _ : Nat => [⟨[.d dn, .d dl], 0⟩, ⟨[.d dQ, .d (DI lp)], 0⟩]) (fun i => [(2, .optr 0 0), (3, .optr 1 0), (5, .d (DI (Q.length : Nat))), (30, .d dQ), (31, .d (DI (Q.length : Nat))), (32, .d (DI (i : Nat)))]) (fun i => i ≤ Q.length ∧ ∀ j, j < i → stepB nx Q lp j = true) (fun i => Q.length - i) 0 ⟨Nat.zero_le _, fun j hj => absurd hj (Nat.not_lt_zero _)⟩ rfl (by simp [Go.Vm.look, extK, enterK]) ?_
          intro i hi
          obtain ⟨hi, hall⟩ := hi
          refine KC.seq ?_
          refine KC.region ?_
          refine KT.step rfl rfl (K.lss rfl rfl) ?_
          refine KT.nil ?_
          refine thenK_n ?_
          refine KC.seq ?_
          refine KC.cond rfl (fun hc33 => ?_) (fun hc33 => ?_)
          · skip
            replace hc33 := of_decide_eq_true hc33
            refine KC.skip ?_
            refine thenK_n ?_
            refine KC.seq ?_
            refine KC.block ?_
            refine KC.seq ?_
            refine KC.region ?_
            refine KT.step rfl rfl (K.move rfl) ?_
            refine KT.idxD (m := i) rfl rfl rfl hQ rfl rfl (by omega) Try.underlying22 Try.size3 fun rest => ?_
            refine KT.step rfl rfl (K.load rfl Try.agg3) ?_
            refine KT.step rfl rfl (K.assign rfl) ?_
            refine KT.step rfl rfl (K.assign rfl) ?_
            refine KT.nil ?_
            refine thenK_n ?_
            refine KC.seq ?_
            refine KC.region ?_
            refine KT.step rfl rfl (K.fieldAddrO rfl Try.fld43_0 Try.size22) ?_
            refine KT.step rfl rfl (K.loadO rfl rfl (by simp) rfl Try.agg22) ?_
            refine KT.step rfl rfl (K.fieldAddrO rfl Try.fld43_1 Try.size3) ?_
            refine KT.step rfl rfl (K.loadO rfl rfl (by simp) rfl Try.agg3) ?_
            refine KT.idxD (m := lp.toNat) rfl rfl rfl hQ rfl (Int.toNat_of_nonneg g3).symm (by omega) Try.underlying22 Try.size3 fun rest => ?_
            refine KT.step rfl rfl (K.load rfl Try.agg3) ?_
            refine KT.step rfl rfl (K.assign rfl) ?_
            refine KT.nil ?_
            refine thenK_n ?_
            refine KC.seq ?_
            refine KC.seq ?_
            refine KC.region ?_
            refine KT.step rfl rfl (K.move rfl) ?_
            refine KT.step rfl rfl (K.add rfl rfl (wrap_id (by omega))) ?_
            refine KT.step rfl rfl (K.move rfl) ?_
            refine KT.step rfl rfl (K.lss rfl rfl) ?_
            refine KT.nil ?_
            refine thenK_n ?_
            refine KC.cond rfl (fun hc46 => ?_) (fun hc46 => ?_)
            · skip
              replace hc46 := of_decide_eq_true hc46
              refine KC.region ?_
              refine KT.step rfl rfl (K.fieldAddrO rfl Try.fld43_0 Try.size22) ?_
              refine KT.step rfl rfl (K.loadO rfl rfl (by simp) rfl Try.agg22) ?_
              refine KT.step rfl rfl (K.move rfl) ?_
              refine KT.step rfl rfl (K.add rfl rfl (wrap_id (by omega))) ?_
              refine KT.idxD (m := i + 1) rfl rfl rfl hQ rfl (by push_cast; rfl) (by omega) Try.underlying22 Try.size3 fun rest => ?_
              refine KT.step rfl rfl (K.load rfl Try.agg3) ?_
              refine KT.step rfl rfl (K.assign rfl) ?_
              refine KT.nil ?_
              refine thenK_n ?_
              refine KC.seq ?_
              have ea : aft Q lp i = Q.getD (i + 1) 0 := if_pos (by omega)
              refine KC.region ?_
              refine KT.step rfl rfl (K.loadOA ([dn, dl]) rfl rfl (by decide) Try.agg24 Try.size24 rfl) ?_
              refine KT.step rfl rfl (K.move rfl) ?_
              refine KT.step rfl rfl (K.call2 rfl rfl plainTry_22 (rstate22 hS)) ?_
              refine KT.step rfl rfl (K.not rfl) ?_
              refine KT.step rfl rfl (K.move rfl) ?_
              refine KT.bcase (fun hb57 => ?_) (fun hb57 => ?_)
              · skip
                refine KT.skip rfl rfl ?_
                refine KT.skip rfl rfl ?_
                refine KT.skip rfl rfl ?_
                refine KT.skip rfl rfl ?_
                refine KT.step rfl rfl (K.pick rfl (fun _ => rfl) (fun h => by cases h)) ?_
                refine KT.step rfl rfl (K.move rfl) ?_
                refine KT.skip rfl rfl ?_
                refine KT.skip rfl rfl ?_
                refine KT.skip rfl rfl ?_
                refine KT.skip rfl rfl ?_
                refine KT.skip rfl rfl ?_
                refine KT.skip rfl rfl ?_
                refine KT.skip rfl rfl ?_
                refine KT.skip rfl rfl ?_
                refine KT.skip rfl rfl ?_
                refine KT.step rfl rfl (K.pick rfl (fun _ => rfl) (fun h => by cases h)) ?_
                refine KT.nil ?_
                refine thenK_n ?_
                refine KC.cond rfl (fun hc73 => ?_) (fun hc73 => ?_)
                · skip
                  refine KC.seq ?_
                  refine KC.region ?_
                  refine KT.step rfl rfl (K.assign rfl) ?_
                  refine KT.nil ?_
                  refine thenK_n ?_
                  refine KC.ret ?_
                  refine blockK_r ?_
                  refine thenK_r ?_
                  refine thenK_r ?_
                  refine blockK_r ?_
                  refine thenK_r ?_
                  have hs : stepB nx Q lp i = false := by
                    unfold stepB
                    rw [ea]
                    first
                      | (rw [Bool.not_eq_true'] at hb57; rw [hb57]; rfl)
                      | (rw [Bool.not_eq_true'] at hb63; rw [hb63, Bool.and_false]; rfl)
                      | (rw [show (nx.getD (Q.getD i 0).toNat 0).testBit _ = false from bit_no hc73, Bool.and_false])
                  exact ⟨.inl rfl, _, rfl, fin_b (fits_no (by omega) hs)⟩
                · cases hc73
              · skip
                refine KT.step rfl rfl (K.loadOA ([dn, dl]) rfl rfl (by decide) Try.agg24 Try.size24 rfl) ?_
                refine KT.step rfl rfl (K.move rfl) ?_
                refine KT.step rfl rfl (K.call2 rfl rfl plainTry_22 (rstate22 hS)) ?_
                refine KT.step rfl rfl (K.not rfl) ?_
                refine KT.step rfl rfl (K.pick rfl (fun h => by cases h) (fun _ => rfl)) ?_
                refine KT.step rfl rfl (K.move rfl) ?_
                refine KT.bcase (fun hb63 => ?_) (fun hb63 => ?_)
                · skip
                  refine KT.skip rfl rfl ?_
                  refine KT.skip rfl rfl ?_
                  refine KT.skip rfl rfl ?_
                  refine KT.skip rfl rfl ?_
                  refine KT.skip rfl rfl ?_
                  refine KT.skip rfl rfl ?_
                  refine KT.skip rfl rfl ?_
                  refine KT.skip rfl rfl ?_
                  refine KT.skip rfl rfl ?_
                  refine KT.step rfl rfl (K.pick rfl (fun _ => rfl) (fun h => by cases h)) ?_
                  refine KT.nil ?_
                  refine thenK_n ?_
                  refine KC.cond rfl (fun hc73 => ?_) (fun hc73 => ?_)
                  · skip
                    refine KC.seq ?_
                    refine KC.region ?_
                    refine KT.step rfl rfl (K.assign rfl) ?_
                    refine KT.nil ?_
                    refine thenK_n ?_
                    refine KC.ret ?_
                    refine blockK_r ?_
                    refine thenK_r ?_
                    refine thenK_r ?_
                    refine blockK_r ?_
                    refine thenK_r ?_
                    have hs : stepB nx Q lp i = false := by
                      unfold stepB
                      rw [ea]
                      first
                        | (rw [Bool.not_eq_true'] at hb57; rw [hb57]; rfl)
                        | (rw [Bool.not_eq_true'] at hb63; rw [hb63, Bool.and_false]; rfl)
                        | (rw [show (nx.getD (Q.getD i 0).toNat 0).testBit _ = false from bit_no hc73, Bool.and_false])
                    exact ⟨.inl rfl, _, rfl, fin_b (fits_no (by omega) hs)⟩
                  · cases hc73
                · skip
                  refine KT.step rfl rfl (K.fieldAddrO rfl Try.fld24_0 Try.size22) ?_
                  refine KT.step rfl rfl (K.loadO rfl rfl (by simp) rfl Try.agg22) ?_
                  refine KT.step rfl rfl (K.move rfl) ?_
                  have h16 := hS.n16
                  have hx := inS_iff.1 (by rw [Bool.not_eq_false'] at hb57; exact hb57)
                  have hy' := inS_iff.1 (by rw [Bool.not_eq_false'] at hb63; exact hb63)
                  have hy := And.intro hy'.1 (Int.lt_of_lt_of_le hy'.2 (show (nx.length : Int) ≤ 64 by omega))
                  refine KT.idxN (m := (Q.getD i 0).toNat) rfl rfl rfl hS.hn rfl (Int.toNat_of_nonneg hx.1).symm (by omega) Try.underlying22 Try.size3 fun rest => ?_
                  refine KT.step rfl rfl (K.load rfl Try.agg3) ?_
                  refine KT.step rfl rfl (K.move rfl) ?_
                  refine KT.step rfl rfl (K.shr rfl rfl (show _ ∧ _ from hy).1 (shrII (show _ ∧ _ from hy))) ?_
                  refine KT.step rfl rfl (K.band rfl rfl (show IntKind.i64.wrap (BitVec.ofInt IntKind.i64.bits ((nx.getD (Q.getD i 0).toNat 0 / 2 ^ (Q.getD (i + 1) 0).toNat : Nat) : Int) &&& BitVec.ofInt IntKind.i64.bits (1 : Int)).toNat = ((nx.getD (Q.getD i 0).toNat 0 / 2 ^ (Q.getD (i + 1) 0).toNat &&& 1 : Nat) : Int) from andI (b := 1) (Nat.lt_of_le_of_lt (Nat.div_le_self _ _) (lt63 (hS.hnx _))) (by decide))) ?_
                  refine KT.step rfl rfl (K.eql rfl rfl) ?_
                  refine KT.step rfl rfl (K.pick rfl (fun h => by cases h) (fun _ => rfl)) ?_
                  refine KT.nil ?_
                  refine thenK_n ?_
                  refine KC.cond rfl (fun hc73 => ?_) (fun hc73 => ?_)
                  · skip
                    replace hc73 := of_decide_eq_true hc73
                    refine KC.seq ?_
                    refine KC.region ?_
                    refine KT.step rfl rfl (K.assign rfl) ?_
                    refine KT.nil ?_
                    refine thenK_n ?_
                    refine KC.ret ?_
                    refine blockK_r ?_
                    refine thenK_r ?_
                    refine thenK_r ?_
                    refine blockK_r ?_
                    refine thenK_r ?_
                    have hs : stepB nx Q lp i = false := by
                      unfold stepB
                      rw [ea]
                      first
                        | (rw [Bool.not_eq_true'] at hb57; rw [hb57]; rfl)
                        | (rw [Bool.not_eq_true'] at hb63; rw [hb63, Bool.and_false]; rfl)
                        | (rw [show (nx.getD (Q.getD i 0).toNat 0).testBit _ = false from bit_no hc73, Bool.and_false])
                    exact ⟨.inl rfl, _, rfl, fin_b (fits_no (by omega) hs)⟩
                  · skip
                    replace hc73 := of_decide_eq_false hc73
                    refine KC.skip ?_
                    refine blockK_n ?_
                    refine thenK_n ?_
                    refine KC.region ?_
                    refine KT.step rfl rfl (K.add rfl rfl (wrap_id (by omega))) ?_
                    refine KT.step rfl rfl (K.move rfl) ?_
                    refine KT.nil ?_
                    refine thenK_n ?_
                    have hs : stepB nx Q lp i = true := by
                      unfold stepB
                      rw [Bool.not_eq_false'] at hb57 hb63
                      rw [ea, hb57, hb63, show (nx.getD (Q.getD i 0).toNat 0).testBit _ = true from bit_yes hc73]; rfl
                    refine ⟨i + 1, ⟨by omega, fun j hj => ?_⟩, by omega, rfl, by simp [Go.Vm.look, extK]⟩
                    by_cases e : j = i
                    · subst e; exact hs
                    · exact hall j (by omega)
            · skip
              replace hc46 := of_decide_eq_false hc46
              refine KC.skip ?_
              refine thenK_n ?_
              refine KC.seq ?_
              have ea : aft Q lp i = Q.getD lp.toNat 0 := if_neg (by omega)
              refine KC.region ?_
              refine KT.step rfl rfl (K.loadOA ([dn, dl]) rfl rfl (by decide) Try.agg24 Try.size24 rfl) ?_
              refine KT.step rfl rfl (K.move rfl) ?_
              refine KT.step rfl rfl (K.call2 rfl rfl plainTry_22 (rstate22 hS)) ?_
              refine KT.step rfl rfl (K.not rfl) ?_
              refine KT.step rfl rfl (K.move rfl) ?_
              refine KT.bcase (fun hb57 => ?_) (fun hb57 => ?_)
              · skip
                refine KT.skip rfl rfl ?_
                refine KT.skip rfl rfl ?_
                refine KT.skip rfl rfl ?_
                refine KT.skip rfl rfl ?_
                refine KT.step rfl rfl (K.pick rfl (fun _ => rfl) (fun h => by cases h)) ?_
                refine KT.step rfl rfl (K.move rfl) ?_
                refine KT.skip rfl rfl ?_
                refine KT.skip rfl rfl ?_
                refine KT.skip rfl rfl ?_
                refine KT.skip rfl rfl ?_
                refine KT.skip rfl rfl ?_
                refine KT.skip rfl rfl ?_
                refine KT.skip rfl rfl ?_
                refine KT.skip rfl rfl ?_
                refine KT.skip rfl rfl ?_
                refine KT.step rfl rfl (K.pick rfl (fun _ => rfl) (fun h => by cases h)) ?_
                refine KT.nil ?_
                refine thenK_n ?_
                refine KC.cond rfl (fun hc73 => ?_) (fun hc73 => ?_)
                · skip
                  refine KC.seq ?_
                  refine KC.region ?_
                  refine KT.step rfl rfl (K.assign rfl) ?_
                  refine KT.nil ?_
                  refine thenK_n ?_
                  refine KC.ret ?_
                  refine blockK_r ?_
                  refine thenK_r ?_
                  refine thenK_r ?_
                  refine blockK_r ?_
                  refine thenK_r ?_
                  have hs : stepB nx Q lp i = false := by
                    unfold stepB
                    rw [ea]
                    first
                      | (rw [Bool.not_eq_true'] at hb57; rw [hb57]; rfl)
                      | (rw [Bool.not_eq_true'] at hb63; rw [hb63, Bool.and_false]; rfl)
                      | (rw [show (nx.getD (Q.getD i 0).toNat 0).testBit _ = false from bit_no hc73, Bool.and_false])
                  exact ⟨.inl rfl, _, rfl, fin_b (fits_no (by omega) hs)⟩
                · cases hc73
              · skip
                refine KT.step rfl rfl (K.loadOA ([dn, dl]) rfl rfl (by decide) Try.agg24 Try.size24 rfl) ?_
                refine KT.step rfl rfl (K.move rfl) ?_
                refine KT.step rfl rfl (K.call2 rfl rfl plainTry_22 (rstate22 hS)) ?_
                refine KT.step rfl rfl (K.not rfl) ?_
                refine KT.step rfl rfl (K.pick rfl (fun h => by cases h) (fun _ => rfl)) ?_
                refine KT.step rfl rfl (K.move rfl) ?_
                refine KT.bcase (fun hb63 => ?_) (fun hb63 => ?_)
                · skip
                  refine KT.skip rfl rfl ?_
                  refine KT.skip rfl rfl ?_
                  refine KT.skip rfl rfl ?_
                  refine KT.skip rfl rfl ?_
                  refine KT.skip rfl rfl ?_
                  refine KT.skip rfl rfl ?_
                  refine KT.skip rfl rfl ?_
                  refine KT.skip rfl rfl ?_
                  refine KT.skip rfl rfl ?_
                  refine KT.step rfl rfl (K.pick rfl (fun _ => rfl) (fun h => by cases h)) ?_
                  refine KT.nil ?_
                  refine thenK_n ?_
                  refine KC.cond rfl (fun hc73 => ?_) (fun hc73 => ?_)
                  · skip
                    refine KC.seq ?_
                    refine KC.region ?_
                    refine KT.step rfl rfl (K.assign rfl) ?_
                    refine KT.nil ?_
                    refine thenK_n ?_
                    refine KC.ret ?_
                    refine blockK_r ?_
                    refine thenK_r ?_
                    refine thenK_r ?_
                    refine blockK_r ?_
                    refine thenK_r ?_
                    have hs : stepB nx Q lp i = false := by
                      unfold stepB
                      rw [ea]
                      first
                        | (rw [Bool.not_eq_true'] at hb57; rw [hb57]; rfl)
                        | (rw [Bool.not_eq_true'] at hb63; rw [hb63, Bool.and_false]; rfl)
                        | (rw [show (nx.getD (Q.getD i 0).toNat 0).testBit _ = false from bit_no hc73, Bool.and_false])
                    exact ⟨.inl rfl, _, rfl, fin_b (fits_no (by omega) hs)⟩
                  · cases hc73
                · skip
                  refine KT.step rfl rfl (K.fieldAddrO rfl Try.fld24_0 Try.size22) ?_
                  refine KT.step rfl rfl (K.loadO rfl rfl (by simp) rfl Try.agg22) ?_
                  refine KT.step rfl rfl (K.move rfl) ?_
                  have h16 := hS.n16
                  have hx := inS_iff.1 (by rw [Bool.not_eq_false'] at hb57; exact hb57)
                  have hy' := inS_iff.1 (by rw [Bool.not_eq_false'] at hb63; exact hb63)
                  have hy := And.intro hy'.1 (Int.lt_of_lt_of_le hy'.2 (show (nx.length : Int) ≤ 64 by omega))
                  refine KT.idxN (m := (Q.getD i 0).toNat) rfl rfl rfl hS.hn rfl (Int.toNat_of_nonneg hx.1).symm (by omega) Try.underlying22 Try.size3 fun rest => ?_
                  refine KT.step rfl rfl (K.load rfl Try.agg3) ?_
                  refine KT.step rfl rfl (K.move rfl) ?_
                  refine KT.step rfl rfl (K.shr rfl rfl (show _ ∧ _ from hy).1 (shrII (show _ ∧ _ from hy))) ?_
                  refine KT.step rfl rfl (K.band rfl rfl (show IntKind.i64.wrap (BitVec.ofInt IntKind.i64.bits ((nx.getD (Q.getD i 0).toNat 0 / 2 ^ (Q.getD lp.toNat 0).toNat : Nat) : Int) &&& BitVec.ofInt IntKind.i64.bits (1 : Int)).toNat = ((nx.getD (Q.getD i 0).toNat 0 / 2 ^ (Q.getD lp.toNat 0).toNat &&& 1 : Nat) : Int) from andI (b := 1) (Nat.lt_of_le_of_lt (Nat.div_le_self _ _) (lt63 (hS.hnx _))) (by decide))) ?_
                  refine KT.step rfl rfl (K.eql rfl rfl) ?_
                  refine KT.step rfl rfl (K.pick rfl (fun h => by cases h) (fun _ => rfl)) ?_
                  refine KT.nil ?_
                  refine thenK_n ?_
                  refine KC.cond rfl (fun hc73 => ?_) (fun hc73 => ?_)
                  · skip
                    replace hc73 := of_decide_eq_true hc73
                    refine KC.seq ?_
                    refine KC.region ?_
                    refine KT.step rfl rfl (K.assign rfl) ?_
                    refine KT.nil ?_
                    refine thenK_n ?_
                    refine KC.ret ?_
                    refine blockK_r ?_
                    refine thenK_r ?_
                    refine thenK_r ?_
                    refine blockK_r ?_
                    refine thenK_r ?_
                    have hs : stepB nx Q lp i = false := by
                      unfold stepB
                      rw [ea]
                      first
                        | (rw [Bool.not_eq_true'] at hb57; rw [hb57]; rfl)
                        | (rw [Bool.not_eq_true'] at hb63; rw [hb63, Bool.and_false]; rfl)
                        | (rw [show (nx.getD (Q.getD i 0).toNat 0).testBit _ = false from bit_no hc73, Bool.and_false])
                    exact ⟨.inl rfl, _, rfl, fin_b (fits_no (by omega) hs)⟩
                  · skip
                    replace hc73 := of_decide_eq_false hc73
                    refine KC.skip ?_
                    refine blockK_n ?_
                    refine thenK_n ?_
                    refine KC.region ?_
                    refine KT.step rfl rfl (K.add rfl rfl (wrap_id (by omega))) ?_
                    refine KT.step rfl rfl (K.move rfl) ?_
                    refine KT.nil ?_
                    refine thenK_n ?_
                    have hs : stepB nx Q lp i = true := by
                      unfold stepB
                      rw [Bool.not_eq_false'] at hb57 hb63
                      rw [ea, hb57, hb63, show (nx.getD (Q.getD i 0).toNat 0).testBit _ = true from bit_yes hc73]; rfl
                    refine ⟨i + 1, ⟨by omega, fun j hj => ?_⟩, by omega, rfl, by simp [Go.Vm.look, extK]⟩
                    by_cases e : j = i
                    · subst e; exact hs
                    · exact hall j (by omega)
          · skip
            replace hc33 := of_decide_eq_false hc33
            refine KC.exit ?_
            refine thenK_x ?_
            refine thenK_x ?_
            refine blockK_e ?_
            refine thenK_n ?_
            refine KC.seq ?_
            refine KC.region ?_
            refine KT.step rfl rfl (K.assign rfl) ?_
            refine KT.nil ?_
            refine thenK_n ?_
            refine KC.ret ?_
            exact ⟨.inl rfl, _, rfl, fin_b (fits_yes hd fun j hj => hall j (by omega))⟩
end Go.Proofs.Ytcjcchceeidgkaa

