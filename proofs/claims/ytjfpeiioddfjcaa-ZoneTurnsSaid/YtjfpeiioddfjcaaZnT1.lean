import Derived.Test.YtjfpeiioddfjcaaZnTe
/-
  Zones: the law ZoneTurns.
-/
namespace Go.Proofs.Ytjfpeiioddfjcaa
open Go.Vm Go.Zn
theorem plainTry_4 : plainFn Try.prog 4 = true := by kernel_rfl
set_option maxRecDepth 10000 in
theorem law4 {d : DV} {z : List (List Int)} {gi gj gb s : Int} (hd : Mat d z) (hl : z.length ≤ 9223372036854775807) (hr : ∀ r ∈ z, r.length ≤ 9223372036854775807) : DeepCall Try.prog 4 [d, .agg [DI gi, DI gj, DI gb], DI s] (DB true) := by
  have fz := few_len z
  have kz := fewZ_len z
  have hmz := few_mat hd
  obtain ⟨a1, a2⟩ := few_an (z := z) (i := gi) (j := gj) (b := gb)
  obtain ⟨b1, b2⟩ := few_dl (z := z)
  obtain ⟨c1, c2⟩ := few_rs (z := z) (s := s)
  obtain ⟨a3, a4⟩ := an_ra (z := z) (i := gi) (j := gj) (b := gb)
  obtain ⟨b3, b4⟩ := dl_rd (z := z)
  obtain ⟨c3, c4⟩ := rs_rr (z := z) (s := s)
  generalize hZ : fewZ z = Z at *
  refine deepCall_K 5 Try.func4 rfl (Nat.le_of_ble_eq_true rfl) fun M W0 => ?_
  refine KC.seq ?_
  refine KC.region ?_
  refine KT.step rfl rfl (K.box rfl) ?_
  refine KT.step rfl rfl (K.assign rfl) ?_
  refine KT.nil ?_
  refine thenK_n ?_
  refine KC.seq ?_
  refine KC.draw Try.mixed ?_
  refine KT.step rfl rfl (K.move rfl) ?_
  refine KT.step rfl rfl (K.call1 rfl plainTry_16 (few16 hd hl hr)) ?_
  refine KT.step rfl rfl (K.fieldAddrO rfl Try.fld36_0 Try.size3) ?_
  refine KT.step rfl rfl (K.loadO rfl rfl (by simp) rfl Try.agg3) ?_
  refine KT.step rfl rfl (K.fieldAddrO rfl Try.fld36_1 Try.size3) ?_
  refine KT.step rfl rfl (K.loadO rfl rfl (by simp) rfl Try.agg3) ?_
  refine KT.step rfl rfl (K.fieldAddrO rfl Try.fld36_2 Try.size3) ?_
  refine KT.step rfl rfl (K.loadO rfl rfl (by simp) rfl Try.agg3) ?_
  refine KT.step rfl rfl (K.buildL rfl (build38 _ _ _)) ?_
  refine KT.step rfl rfl (K.call2 rfl rfl plainTry_23 (And23_lit hmz fz.1 fz.2)) ?_
  refine KT.step rfl rfl (K.move rfl) ?_
  refine KT.step rfl rfl (K.extract rfl rfl) ?_
  refine KT.step rfl rfl (K.extract rfl rfl) ?_
  refine KT.step rfl rfl (K.assign rfl) ?_
  refine KT.step rfl rfl (K.assign rfl) ?_
  refine KT.nil ?_
  refine ⟨by kernel_rfl, ?_⟩
  refine thenK_n ?_
  refine KC.seq ?_
  refine KC.region ?_
  refine KT.step rfl rfl (K.move rfl) ?_
  refine KT.step rfl rfl (K.loadOA ([DI gi, DI gj, DI gb]) rfl rfl (by decide) Try.agg36 Try.size36 rfl) ?_
  refine KT.step rfl rfl (K.call2 rfl rfl plainTry_24 (rAnd24 hd hl hr)) ?_
  refine KT.step rfl rfl (K.move rfl) ?_
  refine KT.step rfl rfl (K.extract rfl rfl) ?_
  refine KT.step rfl rfl (K.extract rfl rfl) ?_
  refine KT.step rfl rfl (K.assign rfl) ?_
  refine KT.step rfl rfl (K.assign rfl) ?_
  refine KT.nil ?_
  refine thenK_n ?_
  refine KC.seq ?_
  refine KC.seq ?_
  refine KC.region ?_
  refine KT.step rfl rfl (K.move rfl) ?_
  refine KT.step rfl rfl (K.move rfl) ?_
  refine KT.step rfl rfl (K.call2 rfl rfl plainTry_20 (same20 (resD_mat (e := anE Z gi gj gb) (n := Z.length) (a := tightM Z.length (andM Z gi.toNat gj.toNat gb))) (raD_mat z gi gj gb) (resZ_len (kz.1) _).1 (resZ_len (kz.1) _).2)) ?_
  refine KT.step rfl rfl (K.not rfl) ?_
  refine KT.step rfl rfl (K.move rfl) ?_
  refine KT.bcase (fun hb34 => ?_) (fun hb34 => ?_)
  · skip
    rw [Bool.not_eq_true'] at hb34
    exact absurd (a2.trans a4) (of_decide_eq_false hb34)
  · skip
    refine KT.step rfl rfl (K.move rfl) ?_
    refine KT.step rfl rfl (K.move rfl) ?_
    refine KT.step rfl rfl (K.neq rfl rfl) ?_
    refine KT.step rfl rfl (K.pick rfl (fun h => by cases h) (fun _ => rfl)) ?_
    refine KT.step rfl rfl (K.move rfl) ?_
    refine KT.bcase (fun hb39 => ?_) (fun hb39 => ?_)
    · skip
      exact absurd (a1.trans a3) (of_decide_eq_true hb39)
    · skip
      replace hb39 := of_decide_eq_false hb39
      refine KT.step rfl rfl (K.call0 plainTry_21 (awake21)) ?_
      refine KT.step rfl rfl (K.not rfl) ?_
      refine KT.step rfl rfl (K.pick rfl (fun h => by cases h) (fun _ => rfl)) ?_
      refine KT.nil ?_
      refine thenK_n ?_
      refine KC.cond rfl (fun hc42 => ?_) (fun hc42 => ?_)
      · skip
        cases hc42
      · skip
        refine KC.skip ?_
        refine thenK_n ?_
        refine KC.seq ?_
        refine KC.region ?_
        refine KT.step rfl rfl (K.move rfl) ?_
        refine KT.step rfl rfl (K.call1 rfl plainTry_16 (few16 hd hl hr)) ?_
        refine KT.step rfl rfl (K.call1 rfl plainTry_25 (Delay25 hmz fz.1 fz.2)) ?_
        refine KT.step rfl rfl (K.move rfl) ?_
        refine KT.step rfl rfl (K.extract rfl rfl) ?_
        refine KT.step rfl rfl (K.extract rfl rfl) ?_
        refine KT.step rfl rfl (K.assign rfl) ?_
        refine KT.step rfl rfl (K.assign rfl) ?_
        refine KT.nil ?_
        refine thenK_n ?_
        refine KC.seq ?_
        refine KC.region ?_
        refine KT.step rfl rfl (K.move rfl) ?_
        refine KT.step rfl rfl (K.call1 rfl plainTry_26 (rDelay26 hd hl hr)) ?_
        refine KT.step rfl rfl (K.move rfl) ?_
        refine KT.step rfl rfl (K.extract rfl rfl) ?_
        refine KT.step rfl rfl (K.extract rfl rfl) ?_
        refine KT.step rfl rfl (K.assign rfl) ?_
        refine KT.step rfl rfl (K.assign rfl) ?_
        refine KT.nil ?_
        refine thenK_n ?_
        refine KC.seq ?_
        refine KC.seq ?_
        refine KC.region ?_
        refine KT.step rfl rfl (K.move rfl) ?_
        refine KT.step rfl rfl (K.move rfl) ?_
        refine KT.step rfl rfl (K.call2 rfl rfl plainTry_20 (same20 (resD_mat (e := dlE Z) (n := Z.length) (a := delM Z.length (tightM Z.length (zf Z)))) (rdD_mat z) (resZ_len (kz.1) _).1 (resZ_len (kz.1) _).2)) ?_
        refine KT.step rfl rfl (K.not rfl) ?_
        refine KT.step rfl rfl (K.move rfl) ?_
        refine KT.bcase (fun hb58 => ?_) (fun hb58 => ?_)
        · skip
          rw [Bool.not_eq_true'] at hb58
          exact absurd (b2.trans b4) (of_decide_eq_false hb58)
        · skip
          refine KT.step rfl rfl (K.move rfl) ?_
          refine KT.step rfl rfl (K.move rfl) ?_
          refine KT.step rfl rfl (K.neq rfl rfl) ?_
          refine KT.step rfl rfl (K.pick rfl (fun h => by cases h) (fun _ => rfl)) ?_
          refine KT.nil ?_
          refine thenK_n ?_
          refine KC.cond rfl (fun hc62 => ?_) (fun hc62 => ?_)
          · skip
            exact absurd (b1.trans b3) (of_decide_eq_true hc62)
          · skip
            replace hc62 := of_decide_eq_false hc62
            refine KC.skip ?_
            refine thenK_n ?_
            refine KC.seq ?_
            refine KC.region ?_
            refine KT.step rfl rfl (K.move rfl) ?_
            refine KT.step rfl rfl (K.call1 rfl plainTry_16 (few16 hd hl hr)) ?_
            refine KT.step rfl rfl (K.move rfl) ?_
            refine KT.step rfl rfl (K.call2 rfl rfl plainTry_27 (Reset27 hmz fz.1 fz.2 kz.1)) ?_
            refine KT.step rfl rfl (K.move rfl) ?_
            refine KT.step rfl rfl (K.extract rfl rfl) ?_
            refine KT.step rfl rfl (K.extract rfl rfl) ?_
            refine KT.step rfl rfl (K.assign rfl) ?_
            refine KT.step rfl rfl (K.assign rfl) ?_
            refine KT.nil ?_
            refine thenK_n ?_
            refine KC.seq ?_
            refine KC.region ?_
            refine KT.step rfl rfl (K.move rfl) ?_
            refine KT.step rfl rfl (K.move rfl) ?_
            refine KT.step rfl rfl (K.call2 rfl rfl plainTry_28 (rReset28 hd hl hr)) ?_
            refine KT.step rfl rfl (K.move rfl) ?_
            refine KT.step rfl rfl (K.extract rfl rfl) ?_
            refine KT.step rfl rfl (K.extract rfl rfl) ?_
            refine KT.step rfl rfl (K.assign rfl) ?_
            refine KT.step rfl rfl (K.assign rfl) ?_
            refine KT.nil ?_
            refine thenK_n ?_
            refine KC.seq ?_
            refine KC.region ?_
            refine KT.step rfl rfl (K.move rfl) ?_
            refine KT.step rfl rfl (K.move rfl) ?_
            refine KT.step rfl rfl (K.call2 rfl rfl plainTry_20 (same20 (resD_mat (e := rsE Z s) (n := Z.length) (a := resM Z.length s.toNat (tightM Z.length (zf Z)))) (rrD_mat z s) (resZ_len (kz.1) _).1 (resZ_len (kz.1) _).2)) ?_
            refine KT.step rfl rfl (K.move rfl) ?_
            refine KT.bcase (fun hb79 => ?_) (fun hb79 => ?_)
            · skip
              refine KT.step rfl rfl (K.move rfl) ?_
              refine KT.step rfl rfl (K.move rfl) ?_
              refine KT.step rfl rfl (K.eql rfl rfl) ?_
              refine KT.step rfl rfl (K.pick rfl (fun _ => rfl) (fun h => by cases h)) ?_
              refine KT.step rfl rfl (K.assign rfl) ?_
              refine KT.nil ?_
              refine thenK_n ?_
              refine KC.ret ?_
              exact ⟨.inl rfl, _, rfl, fin_b (decide_eq_true (c1.trans c3)).symm⟩
            · skip
              exact absurd (c2.trans c4) (of_decide_eq_false hb79)
end Go.Proofs.Ytjfpeiioddfjcaa

