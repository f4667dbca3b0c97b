import Derived.Test.YtcjcchceeidgkaaLgCa
import Derived.Test.YtcjcchceeidgkaaLgPb
/-
  Logic: clauses of the program.
-/
namespace Go.Proofs.Ytcjcchceeidgkaa
open Go.Vm Go.Lg
theorem Try.agg90 : isAggT Try.prog 90 = some true := by kernel_rfl
theorem Try.size90 : sizeT Try.prog 90 = some 3 := by kernel_rfl
theorem Try.zero90 : zeroT Try.prog 90 = some (.agg #[.string "".toUTF8, .int .i64 0, .int .i64 0]) := by kernel_rfl
theorem Try.fld90_0 : fieldT Try.prog 90 0 = some { name := "Op", type := 9, offset := 0, embedded := false, tag := "", pkgPath := "", byteOffset := 0 } := by kernel_rfl
theorem Try.fld90_1 : fieldT Try.prog 90 1 = some { name := "X", type := 3, offset := 1, embedded := false, tag := "", pkgPath := "", byteOffset := 16 } := by kernel_rfl
theorem Try.fld90_2 : fieldT Try.prog 90 2 = some { name := "Y", type := 3, offset := 2, embedded := false, tag := "", pkgPath := "", byteOffset := 24 } := by kernel_rfl
theorem Try.places90 : (match Try.prog.underlying 90 with | some (.struct fs) => placesT Try.prog fs | _ => none) = some #[(0, 1), (1, 1), (2, 1)] := by kernel_rfl
theorem Try.agg49 : isAggT Try.prog 49 = some false := by kernel_rfl
theorem Try.size49 : sizeT Try.prog 49 = some 1 := by kernel_rfl
theorem Try.one49 : OneT Try.prog 49 (.slice none 0 0) := ⟨by kernel_rfl, by kernel_rfl, rfl, of_decide_eq_true (by kernel_rfl)⟩
theorem plainTry_77 : plainFn Try.prog 77 = true := by kernel_rfl
theorem plainTry_43 : plainFn Try.prog 43 = true := by kernel_rfl
theorem plainTry_45 : plainFn Try.prog 45 = true := by kernel_rfl
theorem plainTry_46 : plainFn Try.prog 46 = true := by kernel_rfl
set_option maxRecDepth 10000 in
theorem follows77 {c : Cl} {i : Nat} (hi : i ≤ 5000) : DeepCall Try.prog 77 [.agg [.lit (.string c.op), DI c.x, DI c.y], DI (i : Nat)] (DB (follB c i)) := by
  refine deepCall_K 5 Try.func77 rfl (Nat.le_of_ble_eq_true rfl) fun M W0 => ?_
  refine KC.seq ?_
  refine KC.region ?_
  refine KT.step rfl rfl (K.box rfl) ?_
  refine KT.step rfl rfl (K.assign rfl) ?_
  refine KT.nil ?_
  refine thenK_n ?_
  refine KC.seq ?_
  refine KC.seq ?_
  refine KC.region ?_
  refine KT.step rfl rfl (K.fieldAddrO rfl Try.fld91_0 Try.size9) ?_
  refine KT.step rfl rfl (K.loadO rfl rfl (by simp) rfl Try.agg9) ?_
  refine KT.nil ?_
  refine thenK_n ?_
  refine KC.block ?_
  refine KC.seq ?_
  refine KC.seq ?_
  refine KC.region ?_
  refine KT.step rfl rfl (K.eqlS rfl rfl) ?_
  refine KT.step rfl rfl (K.assign rfl) ?_
  refine KT.nil ?_
  refine thenK_n ?_
  refine KC.cond rfl (fun hc7 => ?_) (fun hc7 => ?_)
  · skip
    have hk7 := hc7
    replace hc7 := of_decide_eq_true hc7
    have hop := hc7
    refine KC.skip ?_
    refine thenK_n ?_
    refine KC.cond rfl (fun hc7 => ?_) (fun hc7 => ?_)
    · skip
      refine KC.seq ?_
      refine KC.region ?_
      refine KT.step rfl rfl (K.fieldAddrO rfl Try.fld91_1 Try.size3) ?_
      refine KT.step rfl rfl (K.loadO rfl rfl (by simp) rfl Try.agg3) ?_
      refine KT.step rfl rfl (K.eql rfl rfl) ?_
      refine KT.step rfl rfl (K.move rfl) ?_
      refine KT.bcase (fun hb18 => ?_) (fun hb18 => ?_)
      · skip
        replace hb18 := of_decide_eq_true hb18
        refine KT.step rfl rfl (K.fieldAddrO rfl Try.fld91_2 Try.size3) ?_
        refine KT.step rfl rfl (K.loadO rfl rfl (by simp) rfl Try.agg3) ?_
        refine KT.step rfl rfl (K.eql rfl rfl) ?_
        refine KT.step rfl rfl (K.pick rfl (fun _ => rfl) (fun h => by cases h)) ?_
        refine KT.step rfl rfl (K.assign rfl) ?_
        refine KT.nil ?_
        refine thenK_n ?_
        refine KC.ret ?_
        refine blockK_r ?_
        refine thenK_r ?_
        have hk : kd c = 0 := kind_of (k := 0) (by rw [hop]; rfl)
        exact ⟨.inl rfl, _, rfl, fin_b (by rw [fol0 hk, decide_eq_true hb18, Bool.true_and])⟩
      · skip
        replace hb18 := of_decide_eq_false hb18
        refine KT.skip rfl rfl ?_
        refine KT.skip rfl rfl ?_
        refine KT.skip rfl rfl ?_
        refine KT.step rfl rfl (K.pick rfl (fun h => by cases h) (fun _ => rfl)) ?_
        refine KT.step rfl rfl (K.assign rfl) ?_
        refine KT.nil ?_
        refine thenK_n ?_
        refine KC.ret ?_
        refine blockK_r ?_
        refine thenK_r ?_
        have hk : kd c = 0 := kind_of (k := 0) (by rw [hop]; rfl)
        exact ⟨.inl rfl, _, rfl, fin_b (by rw [fol0 hk, decide_eq_false hb18, Bool.false_and])⟩
    · exact absurd (hk7.symm.trans hc7) (by decide)
  · skip
    have hk7 := hc7
    replace hc7 := of_decide_eq_false hc7
    refine KC.seq ?_
    refine KC.region ?_
    refine KT.step rfl rfl (K.eqlS rfl rfl) ?_
    refine KT.step rfl rfl (K.assign rfl) ?_
    refine KT.nil ?_
    refine thenK_n ?_
    refine KC.cond rfl (fun hc7 => ?_) (fun hc7 => ?_)
    · skip
      have hk7 := hc7
      replace hc7 := of_decide_eq_true hc7
      have hop := hc7
      refine KC.skip ?_
      refine thenK_n ?_
      refine KC.cond rfl (fun hc7 => ?_) (fun hc7 => ?_)
      · skip
        refine KC.seq ?_
        refine KC.region ?_
        refine KT.step rfl rfl (K.fieldAddrO rfl Try.fld91_1 Try.size3) ?_
        refine KT.step rfl rfl (K.loadO rfl rfl (by simp) rfl Try.agg3) ?_
        refine KT.step rfl rfl (K.eql rfl rfl) ?_
        refine KT.step rfl rfl (K.move rfl) ?_
        refine KT.bcase (fun hb18 => ?_) (fun hb18 => ?_)
        · skip
          replace hb18 := of_decide_eq_true hb18
          refine KT.step rfl rfl (K.fieldAddrO rfl Try.fld91_2 Try.size3) ?_
          refine KT.step rfl rfl (K.loadO rfl rfl (by simp) rfl Try.agg3) ?_
          refine KT.step rfl rfl (K.eql rfl rfl) ?_
          refine KT.step rfl rfl (K.pick rfl (fun _ => rfl) (fun h => by cases h)) ?_
          refine KT.step rfl rfl (K.assign rfl) ?_
          refine KT.nil ?_
          refine thenK_n ?_
          refine KC.ret ?_
          refine blockK_r ?_
          refine thenK_r ?_
          have hk : kd c = 0 := kind_of (k := 12) (by rw [hop]; rfl)
          exact ⟨.inl rfl, _, rfl, fin_b (by rw [fol0 hk, decide_eq_true hb18, Bool.true_and])⟩
        · skip
          replace hb18 := of_decide_eq_false hb18
          refine KT.skip rfl rfl ?_
          refine KT.skip rfl rfl ?_
          refine KT.skip rfl rfl ?_
          refine KT.step rfl rfl (K.pick rfl (fun h => by cases h) (fun _ => rfl)) ?_
          refine KT.step rfl rfl (K.assign rfl) ?_
          refine KT.nil ?_
          refine thenK_n ?_
          refine KC.ret ?_
          refine blockK_r ?_
          refine thenK_r ?_
          have hk : kd c = 0 := kind_of (k := 12) (by rw [hop]; rfl)
          exact ⟨.inl rfl, _, rfl, fin_b (by rw [fol0 hk, decide_eq_false hb18, Bool.false_and])⟩
      · exact absurd (hk7.symm.trans hc7) (by decide)
    · skip
      have hk7 := hc7
      replace hc7 := of_decide_eq_false hc7
      refine KC.seq ?_
      refine KC.region ?_
      refine KT.step rfl rfl (K.eqlS rfl rfl) ?_
      refine KT.step rfl rfl (K.assign rfl) ?_
      refine KT.nil ?_
      refine thenK_n ?_
      refine KC.cond rfl (fun hc7 => ?_) (fun hc7 => ?_)
      · skip
        have hk7 := hc7
        replace hc7 := of_decide_eq_true hc7
        have hop := hc7
        refine KC.skip ?_
        refine thenK_n ?_
        refine KC.cond rfl (fun hc7 => ?_) (fun hc7 => ?_)
        · skip
          refine KC.seq ?_
          refine KC.region ?_
          refine KT.step rfl rfl (K.fieldAddrO rfl Try.fld91_1 Try.size3) ?_
          refine KT.step rfl rfl (K.loadO rfl rfl (by simp) rfl Try.agg3) ?_
          refine KT.step rfl rfl (K.eql rfl rfl) ?_
          refine KT.step rfl rfl (K.move rfl) ?_
          refine KT.bcase (fun hb18 => ?_) (fun hb18 => ?_)
          · skip
            replace hb18 := of_decide_eq_true hb18
            refine KT.step rfl rfl (K.fieldAddrO rfl Try.fld91_2 Try.size3) ?_
            refine KT.step rfl rfl (K.loadO rfl rfl (by simp) rfl Try.agg3) ?_
            refine KT.step rfl rfl (K.eql rfl rfl) ?_
            refine KT.step rfl rfl (K.pick rfl (fun _ => rfl) (fun h => by cases h)) ?_
            refine KT.step rfl rfl (K.assign rfl) ?_
            refine KT.nil ?_
            refine thenK_n ?_
            refine KC.ret ?_
            refine blockK_r ?_
            refine thenK_r ?_
            have hk : kd c = 0 := kind_of (k := 13) (by rw [hop]; rfl)
            exact ⟨.inl rfl, _, rfl, fin_b (by rw [fol0 hk, decide_eq_true hb18, Bool.true_and])⟩
          · skip
            replace hb18 := of_decide_eq_false hb18
            refine KT.skip rfl rfl ?_
            refine KT.skip rfl rfl ?_
            refine KT.skip rfl rfl ?_
            refine KT.step rfl rfl (K.pick rfl (fun h => by cases h) (fun _ => rfl)) ?_
            refine KT.step rfl rfl (K.assign rfl) ?_
            refine KT.nil ?_
            refine thenK_n ?_
            refine KC.ret ?_
            refine blockK_r ?_
            refine thenK_r ?_
            have hk : kd c = 0 := kind_of (k := 13) (by rw [hop]; rfl)
            exact ⟨.inl rfl, _, rfl, fin_b (by rw [fol0 hk, decide_eq_false hb18, Bool.false_and])⟩
        · exact absurd (hk7.symm.trans hc7) (by decide)
      · skip
        have hk7 := hc7
        replace hc7 := of_decide_eq_false hc7
        refine KC.seq ?_
        refine KC.region ?_
        refine KT.step rfl rfl (K.eqlS rfl rfl) ?_
        refine KT.step rfl rfl (K.assign rfl) ?_
        refine KT.nil ?_
        refine thenK_n ?_
        refine KC.cond rfl (fun hc7 => ?_) (fun hc7 => ?_)
        · skip
          have hk7 := hc7
          replace hc7 := of_decide_eq_true hc7
          have hop := hc7
          refine KC.skip ?_
          refine thenK_n ?_
          refine KC.cond rfl (fun hc7 => ?_) (fun hc7 => ?_)
          · skip
            refine KC.seq ?_
            refine KC.region ?_
            refine KT.step rfl rfl (K.fieldAddrO rfl Try.fld91_1 Try.size3) ?_
            refine KT.step rfl rfl (K.loadO rfl rfl (by simp) rfl Try.agg3) ?_
            refine KT.step rfl rfl (K.eql rfl rfl) ?_
            refine KT.step rfl rfl (K.move rfl) ?_
            refine KT.bcase (fun hb18 => ?_) (fun hb18 => ?_)
            · skip
              replace hb18 := of_decide_eq_true hb18
              refine KT.step rfl rfl (K.fieldAddrO rfl Try.fld91_2 Try.size3) ?_
              refine KT.step rfl rfl (K.loadO rfl rfl (by simp) rfl Try.agg3) ?_
              refine KT.step rfl rfl (K.eql rfl rfl) ?_
              refine KT.step rfl rfl (K.pick rfl (fun _ => rfl) (fun h => by cases h)) ?_
              refine KT.step rfl rfl (K.assign rfl) ?_
              refine KT.nil ?_
              refine thenK_n ?_
              refine KC.ret ?_
              refine blockK_r ?_
              refine thenK_r ?_
              have hk : kd c = 0 := kind_of (k := 14) (by rw [hop]; rfl)
              exact ⟨.inl rfl, _, rfl, fin_b (by rw [fol0 hk, decide_eq_true hb18, Bool.true_and])⟩
            · skip
              replace hb18 := of_decide_eq_false hb18
              refine KT.skip rfl rfl ?_
              refine KT.skip rfl rfl ?_
              refine KT.skip rfl rfl ?_
              refine KT.step rfl rfl (K.pick rfl (fun h => by cases h) (fun _ => rfl)) ?_
              refine KT.step rfl rfl (K.assign rfl) ?_
              refine KT.nil ?_
              refine thenK_n ?_
              refine KC.ret ?_
              refine blockK_r ?_
              refine thenK_r ?_
              have hk : kd c = 0 := kind_of (k := 14) (by rw [hop]; rfl)
              exact ⟨.inl rfl, _, rfl, fin_b (by rw [fol0 hk, decide_eq_false hb18, Bool.false_and])⟩
          · exact absurd (hk7.symm.trans hc7) (by decide)
        · skip
          have hk7 := hc7
          replace hc7 := of_decide_eq_false hc7
          refine KC.seq ?_
          refine KC.region ?_
          refine KT.step rfl rfl (K.eqlS rfl rfl) ?_
          refine KT.step rfl rfl (K.assign rfl) ?_
          refine KT.nil ?_
          refine thenK_n ?_
          refine KC.cond rfl (fun hc7 => ?_) (fun hc7 => ?_)
          · skip
            have hk7 := hc7
            replace hc7 := of_decide_eq_true hc7
            have hop := hc7
            refine KC.skip ?_
            refine thenK_n ?_
            refine KC.cond rfl (fun hc7 => ?_) (fun hc7 => ?_)
            · skip
              refine KC.seq ?_
              refine KC.region ?_
              refine KT.step rfl rfl (K.fieldAddrO rfl Try.fld91_1 Try.size3) ?_
              refine KT.step rfl rfl (K.loadO rfl rfl (by simp) rfl Try.agg3) ?_
              refine KT.step rfl rfl (K.eql rfl rfl) ?_
              refine KT.step rfl rfl (K.move rfl) ?_
              refine KT.bcase (fun hb18 => ?_) (fun hb18 => ?_)
              · skip
                replace hb18 := of_decide_eq_true hb18
                refine KT.step rfl rfl (K.fieldAddrO rfl Try.fld91_2 Try.size3) ?_
                refine KT.step rfl rfl (K.loadO rfl rfl (by simp) rfl Try.agg3) ?_
                refine KT.step rfl rfl (K.eql rfl rfl) ?_
                refine KT.step rfl rfl (K.pick rfl (fun _ => rfl) (fun h => by cases h)) ?_
                refine KT.step rfl rfl (K.assign rfl) ?_
                refine KT.nil ?_
                refine thenK_n ?_
                refine KC.ret ?_
                refine blockK_r ?_
                refine thenK_r ?_
                have hk : kd c = 0 := kind_of (k := 15) (by rw [hop]; rfl)
                exact ⟨.inl rfl, _, rfl, fin_b (by rw [fol0 hk, decide_eq_true hb18, Bool.true_and])⟩
              · skip
                replace hb18 := of_decide_eq_false hb18
                refine KT.skip rfl rfl ?_
                refine KT.skip rfl rfl ?_
                refine KT.skip rfl rfl ?_
                refine KT.step rfl rfl (K.pick rfl (fun h => by cases h) (fun _ => rfl)) ?_
                refine KT.step rfl rfl (K.assign rfl) ?_
                refine KT.nil ?_
                refine thenK_n ?_
                refine KC.ret ?_
                refine blockK_r ?_
                refine thenK_r ?_
                have hk : kd c = 0 := kind_of (k := 15) (by rw [hop]; rfl)
                exact ⟨.inl rfl, _, rfl, fin_b (by rw [fol0 hk, decide_eq_false hb18, Bool.false_and])⟩
            · exact absurd (hk7.symm.trans hc7) (by decide)
          · skip
            have hk7 := hc7
            replace hc7 := of_decide_eq_false hc7
            refine KC.seq ?_
            refine KC.region ?_
            refine KT.step rfl rfl (K.eqlS rfl rfl) ?_
            refine KT.step rfl rfl (K.assign rfl) ?_
            refine KT.nil ?_
            refine thenK_n ?_
            refine KC.cond rfl (fun hc7 => ?_) (fun hc7 => ?_)
            · skip
              have hk7 := hc7
              replace hc7 := of_decide_eq_true hc7
              have hop := hc7
              refine KC.skip ?_
              refine thenK_n ?_
              refine KC.cond rfl (fun hc7 => ?_) (fun hc7 => ?_)
              · skip
                refine KC.seq ?_
                refine KC.region ?_
                refine KT.step rfl rfl (K.fieldAddrO rfl Try.fld91_1 Try.size3) ?_
                refine KT.step rfl rfl (K.loadO rfl rfl (by simp) rfl Try.agg3) ?_
                refine KT.step rfl rfl (K.eql rfl rfl) ?_
                refine KT.step rfl rfl (K.move rfl) ?_
                refine KT.bcase (fun hb18 => ?_) (fun hb18 => ?_)
                · skip
                  replace hb18 := of_decide_eq_true hb18
                  refine KT.step rfl rfl (K.fieldAddrO rfl Try.fld91_2 Try.size3) ?_
                  refine KT.step rfl rfl (K.loadO rfl rfl (by simp) rfl Try.agg3) ?_
                  refine KT.step rfl rfl (K.eql rfl rfl) ?_
                  refine KT.step rfl rfl (K.pick rfl (fun _ => rfl) (fun h => by cases h)) ?_
                  refine KT.step rfl rfl (K.assign rfl) ?_
                  refine KT.nil ?_
                  refine thenK_n ?_
                  refine KC.ret ?_
                  refine blockK_r ?_
                  refine thenK_r ?_
                  have hk : kd c = 0 := kind_of (k := 16) (by rw [hop]; rfl)
                  exact ⟨.inl rfl, _, rfl, fin_b (by rw [fol0 hk, decide_eq_true hb18, Bool.true_and])⟩
                · skip
                  replace hb18 := of_decide_eq_false hb18
                  refine KT.skip rfl rfl ?_
                  refine KT.skip rfl rfl ?_
                  refine KT.skip rfl rfl ?_
                  refine KT.step rfl rfl (K.pick rfl (fun h => by cases h) (fun _ => rfl)) ?_
                  refine KT.step rfl rfl (K.assign rfl) ?_
                  refine KT.nil ?_
                  refine thenK_n ?_
                  refine KC.ret ?_
                  refine blockK_r ?_
                  refine thenK_r ?_
                  have hk : kd c = 0 := kind_of (k := 16) (by rw [hop]; rfl)
                  exact ⟨.inl rfl, _, rfl, fin_b (by rw [fol0 hk, decide_eq_false hb18, Bool.false_and])⟩
              · exact absurd (hk7.symm.trans hc7) (by decide)
            · skip
              have hk7 := hc7
              replace hc7 := of_decide_eq_false hc7
              refine KC.region ?_
              refine KT.step rfl rfl (K.eqlS rfl rfl) ?_
              refine KT.step rfl rfl (K.assign rfl) ?_
              refine KT.nil ?_
              refine thenK_n ?_
              refine KC.cond rfl (fun hc7 => ?_) (fun hc7 => ?_)
              · skip
                have hk7 := hc7
                replace hc7 := of_decide_eq_true hc7
                have hop := hc7
                refine KC.seq ?_
                refine KC.region ?_
                refine KT.step rfl rfl (K.fieldAddrO rfl Try.fld91_1 Try.size3) ?_
                refine KT.step rfl rfl (K.loadO rfl rfl (by simp) rfl Try.agg3) ?_
                refine KT.step rfl rfl (K.eql rfl rfl) ?_
                refine KT.step rfl rfl (K.move rfl) ?_
                refine KT.bcase (fun hb18 => ?_) (fun hb18 => ?_)
                · skip
                  replace hb18 := of_decide_eq_true hb18
                  refine KT.step rfl rfl (K.fieldAddrO rfl Try.fld91_2 Try.size3) ?_
                  refine KT.step rfl rfl (K.loadO rfl rfl (by simp) rfl Try.agg3) ?_
                  refine KT.step rfl rfl (K.eql rfl rfl) ?_
                  refine KT.step rfl rfl (K.pick rfl (fun _ => rfl) (fun h => by cases h)) ?_
                  refine KT.step rfl rfl (K.assign rfl) ?_
                  refine KT.nil ?_
                  refine thenK_n ?_
                  refine KC.ret ?_
                  refine blockK_r ?_
                  refine thenK_r ?_
                  have hk : kd c = 0 := kind_of (k := 17) (by rw [hop]; rfl)
                  exact ⟨.inl rfl, _, rfl, fin_b (by rw [fol0 hk, decide_eq_true hb18, Bool.true_and])⟩
                · skip
                  replace hb18 := of_decide_eq_false hb18
                  refine KT.skip rfl rfl ?_
                  refine KT.skip rfl rfl ?_
                  refine KT.skip rfl rfl ?_
                  refine KT.step rfl rfl (K.pick rfl (fun h => by cases h) (fun _ => rfl)) ?_
                  refine KT.step rfl rfl (K.assign rfl) ?_
                  refine KT.nil ?_
                  refine thenK_n ?_
                  refine KC.ret ?_
                  refine blockK_r ?_
                  refine thenK_r ?_
                  have hk : kd c = 0 := kind_of (k := 17) (by rw [hop]; rfl)
                  exact ⟨.inl rfl, _, rfl, fin_b (by rw [fol0 hk, decide_eq_false hb18, Bool.false_and])⟩
              · skip
                have hk7 := hc7
                replace hc7 := of_decide_eq_false hc7
                refine KC.seq ?_
                refine KC.seq ?_
                refine KC.region ?_
                refine KT.step rfl rfl (K.eqlS rfl rfl) ?_
                refine KT.step rfl rfl (K.assign rfl) ?_
                refine KT.nil ?_
                refine thenK_n ?_
                refine KC.cond rfl (fun hc23 => ?_) (fun hc23 => ?_)
                · skip
                  have hk23 := hc23
                  replace hc23 := of_decide_eq_true hc23
                  have hop := hc23
                  refine KC.skip ?_
                  refine thenK_n ?_
                  refine KC.cond rfl (fun hc23 => ?_) (fun hc23 => ?_)
                  · skip
                    refine KC.seq ?_
                    refine KC.region ?_
                    refine KT.step rfl rfl (K.fieldAddrO rfl Try.fld91_1 Try.size3) ?_
                    refine KT.step rfl rfl (K.loadO rfl rfl (by simp) rfl Try.agg3) ?_
                    refine KT.step rfl rfl (K.move rfl) ?_
                    refine KT.step rfl rfl (K.sub rfl rfl (wrap_id (by omega))) ?_
                    refine KT.step rfl rfl (K.call3 rfl rfl rfl plainTry_49 (in49 _ _ _)) ?_
                    refine KT.step rfl rfl (K.move rfl) ?_
                    refine KT.bcase (fun hb31 => ?_) (fun hb31 => ?_)
                    · skip
                      refine KT.step rfl rfl (K.fieldAddrO rfl Try.fld91_2 Try.size3) ?_
                      refine KT.step rfl rfl (K.loadO rfl rfl (by simp) rfl Try.agg3) ?_
                      refine KT.step rfl rfl (K.eql rfl rfl) ?_
                      refine KT.step rfl rfl (K.pick rfl (fun _ => rfl) (fun h => by cases h)) ?_
                      refine KT.step rfl rfl (K.assign rfl) ?_
                      refine KT.nil ?_
                      refine thenK_n ?_
                      refine KC.ret ?_
                      refine blockK_r ?_
                      refine thenK_r ?_
                      have hk : kd c = 1 := kind_of (k := 1) (by rw [hop]; rfl)
                      exact ⟨.inl rfl, _, rfl, fin_b (by rw [fol1 hk, hb31, Bool.true_and])⟩
                    · skip
                      refine KT.skip rfl rfl ?_
                      refine KT.skip rfl rfl ?_
                      refine KT.skip rfl rfl ?_
                      refine KT.step rfl rfl (K.pick rfl (fun h => by cases h) (fun _ => rfl)) ?_
                      refine KT.step rfl rfl (K.assign rfl) ?_
                      refine KT.nil ?_
                      refine thenK_n ?_
                      refine KC.ret ?_
                      refine blockK_r ?_
                      refine thenK_r ?_
                      have hk : kd c = 1 := kind_of (k := 1) (by rw [hop]; rfl)
                      exact ⟨.inl rfl, _, rfl, fin_b (by rw [fol1 hk, hb31, Bool.false_and])⟩
                  · exact absurd (hk23.symm.trans hc23) (by decide)
                · skip
                  have hk23 := hc23
                  replace hc23 := of_decide_eq_false hc23
                  refine KC.region ?_
                  refine KT.step rfl rfl (K.eqlS rfl rfl) ?_
                  refine KT.step rfl rfl (K.assign rfl) ?_
                  refine KT.nil ?_
                  refine thenK_n ?_
                  refine KC.cond rfl (fun hc23 => ?_) (fun hc23 => ?_)
                  · skip
                    have hk23 := hc23
                    replace hc23 := of_decide_eq_true hc23
                    have hop := hc23
                    refine KC.seq ?_
                    refine KC.region ?_
                    refine KT.step rfl rfl (K.fieldAddrO rfl Try.fld91_1 Try.size3) ?_
                    refine KT.step rfl rfl (K.loadO rfl rfl (by simp) rfl Try.agg3) ?_
                    refine KT.step rfl rfl (K.move rfl) ?_
                    refine KT.step rfl rfl (K.sub rfl rfl (wrap_id (by omega))) ?_
                    refine KT.step rfl rfl (K.call3 rfl rfl rfl plainTry_49 (in49 _ _ _)) ?_
                    refine KT.step rfl rfl (K.move rfl) ?_
                    refine KT.bcase (fun hb31 => ?_) (fun hb31 => ?_)
                    · skip
                      refine KT.step rfl rfl (K.fieldAddrO rfl Try.fld91_2 Try.size3) ?_
                      refine KT.step rfl rfl (K.loadO rfl rfl (by simp) rfl Try.agg3) ?_
                      refine KT.step rfl rfl (K.eql rfl rfl) ?_
                      refine KT.step rfl rfl (K.pick rfl (fun _ => rfl) (fun h => by cases h)) ?_
                      refine KT.step rfl rfl (K.assign rfl) ?_
                      refine KT.nil ?_
                      refine thenK_n ?_
                      refine KC.ret ?_
                      refine blockK_r ?_
                      refine thenK_r ?_
                      have hk : kd c = 1 := kind_of (k := 4) (by rw [hop]; rfl)
                      exact ⟨.inl rfl, _, rfl, fin_b (by rw [fol1 hk, hb31, Bool.true_and])⟩
                    · skip
                      refine KT.skip rfl rfl ?_
                      refine KT.skip rfl rfl ?_
                      refine KT.skip rfl rfl ?_
                      refine KT.step rfl rfl (K.pick rfl (fun h => by cases h) (fun _ => rfl)) ?_
                      refine KT.step rfl rfl (K.assign rfl) ?_
                      refine KT.nil ?_
                      refine thenK_n ?_
                      refine KC.ret ?_
                      refine blockK_r ?_
                      refine thenK_r ?_
                      have hk : kd c = 1 := kind_of (k := 4) (by rw [hop]; rfl)
                      exact ⟨.inl rfl, _, rfl, fin_b (by rw [fol1 hk, hb31, Bool.false_and])⟩
                  · skip
                    have hk23 := hc23
                    replace hc23 := of_decide_eq_false hc23
                    refine KC.seq ?_
                    refine KC.seq ?_
                    refine KC.region ?_
                    refine KT.step rfl rfl (K.eqlS rfl rfl) ?_
                    refine KT.step rfl rfl (K.assign rfl) ?_
                    refine KT.nil ?_
                    refine thenK_n ?_
                    refine KC.cond rfl (fun hc36 => ?_) (fun hc36 => ?_)
                    · skip
                      have hk36 := hc36
                      replace hc36 := of_decide_eq_true hc36
                      have hop := hc36
                      refine KC.skip ?_
                      refine thenK_n ?_
                      refine KC.cond rfl (fun hc36 => ?_) (fun hc36 => ?_)
                      · skip
                        refine KC.seq ?_
                        refine KC.region ?_
                        refine KT.step rfl rfl (K.fieldAddrO rfl Try.fld91_1 Try.size3) ?_
                        refine KT.step rfl rfl (K.loadO rfl rfl (by simp) rfl Try.agg3) ?_
                        refine KT.step rfl rfl (K.move rfl) ?_
                        refine KT.step rfl rfl (K.sub rfl rfl (wrap_id (by omega))) ?_
                        refine KT.step rfl rfl (K.call3 rfl rfl rfl plainTry_49 (in49 _ _ _)) ?_
                        refine KT.step rfl rfl (K.move rfl) ?_
                        refine KT.bcase (fun hb44 => ?_) (fun hb44 => ?_)
                        · skip
                          refine KT.step rfl rfl (K.fieldAddrO rfl Try.fld91_2 Try.size3) ?_
                          refine KT.step rfl rfl (K.loadO rfl rfl (by simp) rfl Try.agg3) ?_
                          refine KT.step rfl rfl (K.move rfl) ?_
                          refine KT.step rfl rfl (K.sub rfl rfl (wrap_id (by omega))) ?_
                          refine KT.step rfl rfl (K.call3 rfl rfl rfl plainTry_49 (in49 _ _ _)) ?_
                          refine KT.step rfl rfl (K.pick rfl (fun _ => rfl) (fun h => by cases h)) ?_
                          refine KT.step rfl rfl (K.assign rfl) ?_
                          refine KT.nil ?_
                          refine thenK_n ?_
                          refine KC.ret ?_
                          refine blockK_r ?_
                          refine thenK_r ?_
                          have hk : kd c = 2 := kind_of (k := 2) (by rw [hop]; rfl)
                          exact ⟨.inl rfl, _, rfl, fin_b (by rw [fol2 hk, hb44, Bool.true_and])⟩
                        · skip
                          refine KT.skip rfl rfl ?_
                          refine KT.skip rfl rfl ?_
                          refine KT.skip rfl rfl ?_
                          refine KT.skip rfl rfl ?_
                          refine KT.skip rfl rfl ?_
                          refine KT.step rfl rfl (K.pick rfl (fun h => by cases h) (fun _ => rfl)) ?_
                          refine KT.step rfl rfl (K.assign rfl) ?_
                          refine KT.nil ?_
                          refine thenK_n ?_
                          refine KC.ret ?_
                          refine blockK_r ?_
                          refine thenK_r ?_
                          have hk : kd c = 2 := kind_of (k := 2) (by rw [hop]; rfl)
                          exact ⟨.inl rfl, _, rfl, fin_b (by rw [fol2 hk, hb44, Bool.false_and])⟩
                      · exact absurd (hk36.symm.trans hc36) (by decide)
                    · skip
                      have hk36 := hc36
                      replace hc36 := of_decide_eq_false hc36
                      refine KC.region ?_
                      refine KT.step rfl rfl (K.eqlS rfl rfl) ?_
                      refine KT.step rfl rfl (K.assign rfl) ?_
                      refine KT.nil ?_
                      refine thenK_n ?_
                      refine KC.cond rfl (fun hc36 => ?_) (fun hc36 => ?_)
                      · skip
                        have hk36 := hc36
                        replace hc36 := of_decide_eq_true hc36
                        have hop := hc36
                        refine KC.seq ?_
                        refine KC.region ?_
                        refine KT.step rfl rfl (K.fieldAddrO rfl Try.fld91_1 Try.size3) ?_
                        refine KT.step rfl rfl (K.loadO rfl rfl (by simp) rfl Try.agg3) ?_
                        refine KT.step rfl rfl (K.move rfl) ?_
                        refine KT.step rfl rfl (K.sub rfl rfl (wrap_id (by omega))) ?_
                        refine KT.step rfl rfl (K.call3 rfl rfl rfl plainTry_49 (in49 _ _ _)) ?_
                        refine KT.step rfl rfl (K.move rfl) ?_
                        refine KT.bcase (fun hb44 => ?_) (fun hb44 => ?_)
                        · skip
                          refine KT.step rfl rfl (K.fieldAddrO rfl Try.fld91_2 Try.size3) ?_
                          refine KT.step rfl rfl (K.loadO rfl rfl (by simp) rfl Try.agg3) ?_
                          refine KT.step rfl rfl (K.move rfl) ?_
                          refine KT.step rfl rfl (K.sub rfl rfl (wrap_id (by omega))) ?_
                          refine KT.step rfl rfl (K.call3 rfl rfl rfl plainTry_49 (in49 _ _ _)) ?_
                          refine KT.step rfl rfl (K.pick rfl (fun _ => rfl) (fun h => by cases h)) ?_
                          refine KT.step rfl rfl (K.assign rfl) ?_
                          refine KT.nil ?_
                          refine thenK_n ?_
                          refine KC.ret ?_
                          refine blockK_r ?_
                          refine thenK_r ?_
                          have hk : kd c = 2 := kind_of (k := 3) (by rw [hop]; rfl)
                          exact ⟨.inl rfl, _, rfl, fin_b (by rw [fol2 hk, hb44, Bool.true_and])⟩
                        · skip
                          refine KT.skip rfl rfl ?_
                          refine KT.skip rfl rfl ?_
                          refine KT.skip rfl rfl ?_
                          refine KT.skip rfl rfl ?_
                          refine KT.skip rfl rfl ?_
                          refine KT.step rfl rfl (K.pick rfl (fun h => by cases h) (fun _ => rfl)) ?_
                          refine KT.step rfl rfl (K.assign rfl) ?_
                          refine KT.nil ?_
                          refine thenK_n ?_
                          refine KC.ret ?_
                          refine blockK_r ?_
                          refine thenK_r ?_
                          have hk : kd c = 2 := kind_of (k := 3) (by rw [hop]; rfl)
                          exact ⟨.inl rfl, _, rfl, fin_b (by rw [fol2 hk, hb44, Bool.false_and])⟩
                      · skip
                        have hk36 := hc36
                        replace hc36 := of_decide_eq_false hc36
                        refine KC.skip ?_
                        refine blockK_n ?_
                        refine thenK_n ?_
                        refine KC.seq ?_
                        refine KC.region ?_
                        refine KT.step rfl rfl (K.assign rfl) ?_
                        refine KT.nil ?_
                        refine thenK_n ?_
                        refine KC.ret ?_
                        have hk : kd c = 3 := (kind3 (by assumption) (by assumption) (by assumption) (by assumption) (by assumption) (by assumption) (by assumption) (by assumption) (by assumption) (by assumption) (by assumption))
                        exact ⟨.inl rfl, _, rfl, fin_b (fol3 hk)⟩
set_option maxRecDepth 10000 in
theorem areClauses43 {d : DV} {l : List Cl} (hd : ClsD d l) (hl : l.length ≤ 9223372036854775807) : DeepCall Try.prog 43 [d] (DB (okC l)) := by
  refine deepCall_K 5 Try.func43 rfl (Nat.le_of_ble_eq_true rfl) fun M W0 => ?_
  refine KC.seq ?_
  refine KC.region ?_
  refine KT.step rfl rfl (K.assign rfl) ?_
  refine KT.nil ?_
  refine thenK_n ?_
  refine KC.seq ?_
  refine KC.seq ?_
  refine KC.region ?_
  refine KT.step rfl rfl (K.move rfl) ?_
  refine KT.step rfl rfl (K.lenCls rfl hd Try.underlying52) ?_
  refine KT.step rfl rfl (K.call3 rfl rfl rfl plainTry_49 (in49 _ _ _)) ?_
  refine KT.step rfl rfl (K.not rfl) ?_
  refine KT.nil ?_
  refine thenK_n ?_
  refine KC.cond rfl (fun hc8 => ?_) (fun hc8 => ?_)
  · skip
    refine KC.seq ?_
    refine KC.region ?_
    refine KT.step rfl rfl (K.assign rfl) ?_
    refine KT.nil ?_
    refine thenK_n ?_
    refine KC.ret ?_
    refine thenK_r ?_
    exact ⟨.inl rfl, _, rfl, fin_b (okC_len (fun h => by
      rw [Bool.not_eq_true'] at hc8
      simp only [Bool.and_eq_false_iff, decide_eq_false_iff_not] at hc8
      omega))⟩
  · skip
    simp only [Bool.not_eq_false', Bool.and_eq_true, decide_eq_true_iff] at hc8
    refine KC.skip ?_
    refine thenK_n ?_
    refine KC.seq ?_
    refine KC.seq ?_
    refine KC.region ?_
    refine KT.step rfl rfl (K.move rfl) ?_
    refine KT.step rfl rfl (K.lenCls rfl hd Try.underlying52) ?_
    refine KT.step rfl rfl (K.move rfl) ?_
    refine KT.nil ?_
    refine thenK_n ?_
    refine KC.block ?_
    refine KC.loop (fun p : List VObj × Nat => p.1) (fun p => [(0, .d d), (9, .d d), (10, .d (DI (l.length : Nat))), (11, .d (DI (p.2 : Nat)))]) (fun p => p.2 ≤ l.length ∧ ∀ j, j < p.2 → follB (cg l j) j = true) (fun p => l.length - p.2) (_, 0) ⟨Nat.zero_le _, fun j hj => absurd hj (Nat.not_lt_zero _)⟩ rfl (by simp [Go.Vm.look, extK, enterK]) ?_
    intro p hp
    obtain ⟨hi, hall⟩ := hp
    refine KC.seq ?_
    refine KC.region ?_
    refine KT.step rfl rfl (K.lss rfl rfl) ?_
    refine KT.nil ?_
    refine thenK_n ?_
    refine KC.seq ?_
    refine KC.cond rfl (fun hc12 => ?_) (fun hc12 => ?_)
    · skip
      replace hc12 := of_decide_eq_true hc12
      refine KC.skip ?_
      refine thenK_n ?_
      refine KC.seq ?_
      refine KC.block ?_
      refine KC.seq ?_
      refine KC.region ?_
      refine KT.step rfl rfl (K.move rfl) ?_
      refine KT.idxCls (m := p.2) rfl rfl rfl hd rfl (by omega) Try.underlying52 Try.size91 fun rest => ?_
      refine KT.step rfl rfl (K.loadAgg (cs := .lit (.string (cg l p.2).op) :: DI (cg l p.2).x :: DI (cg l p.2).y :: rest) (m := 3) rfl Try.agg91 Try.size91 (by simp)) ?_
      refine KT.step rfl rfl (K.alloc Try.zero91) ?_
      refine KT.step rfl rfl (K.assign rfl) ?_
      refine KT.storeL (cs := [.d (.lit (.string (cg l p.2).op)), .d (DI (cg l p.2).x), .d (DI (cg l p.2).y)]) rfl rfl rfl rfl rfl rfl rfl Try.size91 ?_
      refine KT.nil ?_
      refine thenK_n ?_
      refine KC.seq ?_
      refine KC.region ?_
      refine KT.step rfl rfl (K.loadOA [.lit (.string (cg l p.2).op), DI (cg l p.2).x, DI (cg l p.2).y] rfl (List.getElem?_concat_length ..) (by decide) Try.agg91 Try.size91 rfl) ?_
      refine KT.step rfl rfl (K.move rfl) ?_
      refine KT.step rfl rfl (K.call2 rfl rfl plainTry_77 (follows77 (by omega))) ?_
      refine KT.step rfl rfl (K.not rfl) ?_
      refine KT.nil ?_
      refine thenK_n ?_
      refine KC.cond rfl (fun hc19 => ?_) (fun hc19 => ?_)
      · skip
        refine KC.seq ?_
        refine KC.region ?_
        refine KT.step rfl rfl (K.assign rfl) ?_
        refine KT.nil ?_
        refine thenK_n ?_
        refine KC.ret ?_
        refine blockK_r ?_
        refine thenK_r ?_
        refine thenK_r ?_
        refine blockK_r ?_
        refine thenK_r ?_
        rw [Bool.not_eq_true'] at hc19
        exact ⟨.inl rfl, _, rfl, fin_b (okC_no (by omega) hc19)⟩
      · skip
        refine KC.skip ?_
        refine blockK_n ?_
        refine thenK_n ?_
        refine KC.region ?_
        refine KT.step rfl rfl (K.add rfl rfl (wrap_id (by omega))) ?_
        refine KT.step rfl rfl (K.move rfl) ?_
        refine KT.nil ?_
        refine thenK_n ?_
        rw [Bool.not_eq_false'] at hc19
        refine ⟨(_, p.2 + 1), ⟨by simp only; omega, fun j hj => ?_⟩, by simp only; omega, rfl, by simp [Go.Vm.look, extK]⟩
        by_cases e : j = p.2
        · subst e; exact hc19
        · exact hall j (by simp only at hj; omega)
    · skip
      replace hc12 := of_decide_eq_false hc12
      refine KC.exit ?_
      refine thenK_x ?_
      refine thenK_x ?_
      refine blockK_e ?_
      refine thenK_n ?_
      refine KC.seq ?_
      refine KC.region ?_
      refine KT.step rfl rfl (K.assign rfl) ?_
      refine KT.nil ?_
      refine thenK_n ?_
      refine KC.ret ?_
      exact ⟨.inl rfl, _, rfl, fin_b (okC_yes (by omega) (by omega) (fun j hj => hall j (by omega)))⟩
set_option maxRecDepth 10000 in
theorem last45 {dn dl : DV} {nx lb : List Nat} (hS : Str dn dl nx lb) {d : DV} {l : List Cl} (hd : ClsD d l) (hok : okC l = true) : DeepCall Try.prog 45 [tabD dn dl, d] (DI ((satC nx lb l l.length).getD (l.length - 1) 0 : Nat)) := by
  obtain ⟨n1, n5, hfol⟩ := okC_all hok
  refine deepCall_K 5 Try.func45 rfl (Nat.le_of_ble_eq_true rfl) fun M W0 => ?_
  refine KC.seq ?_
  refine KC.region ?_
  refine KT.step rfl rfl (K.assign rfl) ?_
  refine KT.nil ?_
  refine thenK_n ?_
  refine KC.seq ?_
  refine KC.region ?_
  refine KT.step rfl rfl (K.move rfl) ?_
  refine KT.step rfl rfl (K.lenCls rfl hd Try.underlying52) ?_
  refine KT.step rfl rfl (K.make rfl rfl (Nat.le_refl _) (by omega) Try.underlying22 Try.one3) ?_
  refine KT.step rfl rfl (K.assign rfl) ?_
  refine KT.nil ?_
  refine thenK_n ?_
  refine KC.seq ?_
  refine KC.seq ?_
  refine KC.region ?_
  refine KT.step rfl rfl (K.move rfl) ?_
  refine KT.step rfl rfl (K.lenCls rfl hd Try.underlying52) ?_
  refine KT.step rfl rfl (K.move rfl) ?_
  refine KT.nil ?_
  refine thenK_n ?_
  refine KC.block ?_
  refine KC.loop (fun p : List VObj × Nat => p.1) (fun p => [(0, .d (tabD dn dl)), (1, .d d), (5, .osl 0 0 l.length 1 l.length true), (11, .d d), (12, .d (DI (l.length : Nat))), (13, .d (DI (p.2 : Nat)))]) (fun p => p.2 ≤ l.length ∧ p.1[0]? = some ⟨sX nx lb l l.length p.2, 0⟩) (fun p => l.length - p.2) (_, 0) ⟨Nat.zero_le _, congrArg (fun c => some (VObj.mk c 0)) (nX_zero _)⟩ rfl (by simp [Go.Vm.look, extK, enterK]) ?_
  intro p hp
  obtain ⟨hi, y0⟩ := hp
  refine KC.seq ?_
  refine KC.region ?_
  refine KT.step rfl rfl (K.lss rfl rfl) ?_
  refine KT.nil ?_
  refine thenK_n ?_
  refine KC.seq ?_
  refine KC.cond rfl (fun hc14 => ?_) (fun hc14 => ?_)
  · skip
    replace hc14 := of_decide_eq_true hc14
    have hin := fol_in (hfol p.2 (by omega)) (show p.2 < l.length by omega)
    refine KC.skip ?_
    refine thenK_n ?_
    refine KC.seq ?_
    refine KC.block ?_
    refine KC.seq ?_
    refine KC.region ?_
    refine KT.step rfl rfl (K.move rfl) ?_
    refine KT.idxCls (m := p.2) rfl rfl rfl hd rfl (by omega) Try.underlying52 Try.size91 fun rest => ?_
    refine KT.step rfl rfl (K.loadAgg (cs := .lit (.string (cg l p.2).op) :: DI (cg l p.2).x :: DI (cg l p.2).y :: rest) (m := 3) rfl Try.agg91 Try.size91 (by simp)) ?_
    refine KT.step rfl rfl (K.alloc Try.zero91) ?_
    refine KT.step rfl rfl (K.assign rfl) ?_
    refine KT.storeL (cs := [.d (.lit (.string (cg l p.2).op)), .d (DI (cg l p.2).x), .d (DI (cg l p.2).y)]) rfl rfl rfl rfl rfl rfl rfl Try.size91 ?_
    refine KT.nil ?_
    refine thenK_n ?_
    refine KC.draw Try.mixed ?_
    refine KT.step rfl rfl (K.move rfl) ?_
    refine KT.step rfl rfl (K.move rfl) ?_
    refine KT.step rfl rfl (K.move rfl) ?_
    refine KT.step rfl rfl (K.fieldAddrO rfl Try.fld91_0 Try.size9) ?_
    refine KT.step rfl rfl (K.loadO rfl (List.getElem?_concat_length ..) (by simp) rfl Try.agg9) ?_
    refine KT.step rfl rfl (K.lookupD (names := NM) (i := opc (cg l p.2).op) rfl rfl (opc_get hin.2.2) (fun j hj => (NM_nodup _ _ _ (opc_get hin.2.2) hj).symm) (y := vO dn dl (opc (cg l p.2).op)) (by rw [List.getElem?_map, List.getElem?_range hin.2.2]; rfl) Try.underlying68 Try.underlying9) ?_
    refine KT.step rfl rfl (K.move rfl) ?_
    refine KT.step rfl rfl (K.fieldAddrO rfl Try.fld91_1 Try.size3) ?_
    refine KT.step rfl rfl (K.loadO rfl (List.getElem?_concat_length ..) (by simp) rfl Try.agg3) ?_
    refine KT.step rfl rfl (K.idxO (m := (cg l p.2).x.toNat) rfl (congrArg (fun z => some (XV.d (DI z))) (Int.toNat_of_nonneg hin.1.1).symm) hin.1.2 Try.underlying22 Try.size3) ?_
    refine KT.step rfl rfl (K.loadO rfl (get_left y0) (by simp) (nX_get _ hin.1.2) Try.agg3) ?_
    refine KT.step rfl rfl (K.move rfl) ?_
    refine KT.step rfl rfl (K.fieldAddrO rfl Try.fld91_2 Try.size3) ?_
    refine KT.step rfl rfl (K.loadO rfl (List.getElem?_concat_length ..) (by simp) rfl Try.agg3) ?_
    refine KT.step rfl rfl (K.idxO (m := (cg l p.2).y.toNat) rfl (congrArg (fun z => some (XV.d (DI z))) (Int.toNat_of_nonneg hin.2.1.1).symm) hin.2.1.2 Try.underlying22 Try.size3) ?_
    refine KT.step rfl rfl (K.loadO rfl (get_left y0) (by simp) (nX_get _ hin.2.1.2) Try.agg3) ?_
    refine KT.step rfl rfl (K.callC (ds := [DI ((satC nx lb l p.2).getD (cg l p.2).x.toNat 0 : Nat), DI ((satC nx lb l p.2).getD (cg l p.2).y.toNat 0 : Nat)]) (cs := cpO dn dl (opc (cg l p.2).op)) rfl rfl rfl (plainO _) (opCall hS (satC_lt hS.len l _ _) (satC_lt hS.len l _ _) _ hin.2.2)) ?_
    refine KT.step rfl rfl (K.idxO (m := p.2) rfl rfl (by omega) Try.underlying22 Try.size3) ?_
    refine KT.storeG rfl rfl rfl rfl (get_left y0) (by rw [nX_len]; omega) rfl rfl Try.size3 fun σ1 l1 u1 v1 => ?_
    refine KT.nil ?_
    refine ⟨by kernel_rfl, ?_⟩
    refine blockK_n ?_
    refine thenK_n ?_
    refine KC.region ?_
    refine KT.step rfl rfl (K.add rfl rfl (wrap_id (by omega))) ?_
    refine KT.step rfl rfl (K.move rfl) ?_
    refine KT.nil ?_
    refine thenK_n ?_
    refine ⟨(σ1, p.2 + 1), ⟨by simp only; omega, ?_⟩, by simp only; omega, rfl, by simp [Go.Vm.look, extK]⟩
    exact u1.trans (congrArg (fun c => some (VObj.mk c 0)) sX_set)
  · skip
    replace hc14 := of_decide_eq_false hc14
    refine KC.exit ?_
    refine thenK_x ?_
    refine thenK_x ?_
    refine blockK_e ?_
    refine thenK_n ?_
    refine KC.seq ?_
    refine KC.region ?_
    refine KT.step rfl rfl (K.move rfl) ?_
    refine KT.step rfl rfl (K.move rfl) ?_
    refine KT.step rfl rfl (K.lenCls rfl hd Try.underlying52) ?_
    refine KT.step rfl rfl (K.sub rfl rfl (wrap_id (by omega))) ?_
    refine KT.step rfl rfl (K.idxO (m := l.length - 1) rfl (congrArg (fun z => some (XV.d (DI z))) (show (l.length : Int) - 1 = ((l.length - 1 : Nat) : Int) by omega)) (by omega) Try.underlying22 Try.size3) ?_
    refine KT.step rfl rfl (K.loadO rfl y0 (by simp) (nX_get _ (by omega)) Try.agg3) ?_
    refine KT.step rfl rfl (K.assign rfl) ?_
    refine KT.nil ?_
    refine thenK_n ?_
    refine KC.ret ?_
    have e : p.2 = l.length := by omega
    rw [e]
    exact ⟨.inl rfl, _, rfl, fin_d rfl⟩
set_option maxRecDepth 10000 in
theorem deepest46 {d : DV} {l : List Cl} (hd : ClsD d l) (hok : okC l = true) : DeepCall Try.prog 46 [d] (DI ((depC l l.length).getD (l.length - 1) 0)) := by
  obtain ⟨n1, n5, hfol⟩ := okC_all hok
  refine deepCall_K 5 Try.func46 rfl (Nat.le_of_ble_eq_true rfl) fun M W0 => ?_
  refine KC.seq ?_
  refine KC.region ?_
  refine KT.step rfl rfl (K.assign rfl) ?_
  refine KT.nil ?_
  refine thenK_n ?_
  refine KC.seq ?_
  refine KC.region ?_
  refine KT.step rfl rfl (K.move rfl) ?_
  refine KT.step rfl rfl (K.lenCls rfl hd Try.underlying52) ?_
  refine KT.step rfl rfl (K.make rfl rfl (Nat.le_refl _) (by omega) Try.underlying22 Try.one3) ?_
  refine KT.step rfl rfl (K.assign rfl) ?_
  refine KT.nil ?_
  refine thenK_n ?_
  refine KC.seq ?_
  refine KC.seq ?_
  refine KC.region ?_
  refine KT.step rfl rfl (K.move rfl) ?_
  refine KT.step rfl rfl (K.lenCls rfl hd Try.underlying52) ?_
  refine KT.step rfl rfl (K.move rfl) ?_
  refine KT.nil ?_
  refine thenK_n ?_
  refine KC.block ?_
  refine KC.loop (fun p : List VObj × Nat => p.1) (fun p => [(0, .d d), (3, .osl 0 0 l.length 1 l.length true), (9, .d d), (10, .d (DI (l.length : Nat))), (11, .d (DI (p.2 : Nat)))]) (fun p => p.2 ≤ l.length ∧ p.1[0]? = some ⟨dX l l.length p.2, 0⟩) (fun p => l.length - p.2) (_, 0) ⟨Nat.zero_le _, congrArg (fun c => some (VObj.mk c 0)) (nX_zero _)⟩ rfl (by simp [Go.Vm.look, extK, enterK]) ?_
  intro p hp
  obtain ⟨hi, y0⟩ := hp
  refine KC.seq ?_
  refine KC.region ?_
  refine KT.step rfl rfl (K.lss rfl rfl) ?_
  refine KT.nil ?_
  refine thenK_n ?_
  refine KC.seq ?_
  refine KC.cond rfl (fun hc12 => ?_) (fun hc12 => ?_)
  · skip
    replace hc12 := of_decide_eq_true hc12
    have hin := fol_in (hfol p.2 (by omega)) (show p.2 < l.length by omega)
    refine KC.skip ?_
    refine thenK_n ?_
    refine KC.seq ?_
    refine KC.block ?_
    refine KC.seq ?_
    refine KC.region ?_
    refine KT.step rfl rfl (K.move rfl) ?_
    refine KT.idxCls (m := p.2) rfl rfl rfl hd rfl (by omega) Try.underlying52 Try.size91 fun rest => ?_
    refine KT.step rfl rfl (K.loadAgg (cs := .lit (.string (cg l p.2).op) :: DI (cg l p.2).x :: DI (cg l p.2).y :: rest) (m := 3) rfl Try.agg91 Try.size91 (by simp)) ?_
    refine KT.step rfl rfl (K.alloc Try.zero91) ?_
    refine KT.step rfl rfl (K.assign rfl) ?_
    refine KT.storeL (cs := [.d (.lit (.string (cg l p.2).op)), .d (DI (cg l p.2).x), .d (DI (cg l p.2).y)]) rfl rfl rfl rfl rfl rfl rfl Try.size91 ?_
    refine KT.nil ?_
    refine thenK_n ?_
    refine KC.seq ?_
    refine KC.draw Try.mixed ?_
    refine KT.step rfl rfl (K.move rfl) ?_
    refine KT.step rfl rfl (K.move rfl) ?_
    refine KT.step rfl rfl (K.move rfl) ?_
    refine KT.step rfl rfl (K.fieldAddrO rfl Try.fld91_1 Try.size3) ?_
    refine KT.step rfl rfl (K.loadO rfl (List.getElem?_concat_length ..) (by simp) rfl Try.agg3) ?_
    refine KT.step rfl rfl (K.idxO (m := (cg l p.2).x.toNat) rfl (congrArg (fun z => some (XV.d (DI z))) (Int.toNat_of_nonneg hin.1.1).symm) hin.1.2 Try.underlying22 Try.size3) ?_
    refine KT.step rfl rfl (K.loadO rfl (get_left y0) (by simp) (nX_get _ hin.1.2) Try.agg3) ?_
    refine KT.step rfl rfl (K.move rfl) ?_
    refine KT.step rfl rfl (K.fieldAddrO rfl Try.fld91_2 Try.size3) ?_
    refine KT.step rfl rfl (K.loadO rfl (List.getElem?_concat_length ..) (by simp) rfl Try.agg3) ?_
    refine KT.step rfl rfl (K.idxO (m := (cg l p.2).y.toNat) rfl (congrArg (fun z => some (XV.d (DI z))) (Int.toNat_of_nonneg hin.2.1.1).symm) hin.2.1.2 Try.underlying22 Try.size3) ?_
    refine KT.step rfl rfl (K.loadO rfl (get_left y0) (by simp) (nX_get _ hin.2.1.2) Try.agg3) ?_
    refine KT.step rfl rfl (K.max2 rfl rfl) ?_
    refine KT.step rfl rfl (K.idxO (m := p.2) rfl rfl (by omega) Try.underlying22 Try.size3) ?_
    refine KT.storeG rfl rfl rfl rfl (get_left y0) (by rw [nX_len]; omega) rfl rfl Try.size3 fun σ1 l1 u1 v1 => ?_
    refine KT.nil ?_
    refine ⟨by kernel_rfl, ?_⟩
    refine thenK_n ?_
    refine KC.seq ?_
    have z1 := (v1 p.1.length (by have := len_of y0; omega)).trans (List.getElem?_concat_length ..)
    replace u1 := u1.trans (congrArg (fun c => some (VObj.mk c 0)) (nX_set (f' := fun k => if k = p.2 then max ((depC l p.2).getD (cg l p.2).x.toNat 0) ((depC l p.2).getD (cg l p.2).y.toNat 0) else (depC l p.2).getD k 0) fun k _ => rfl))
    refine KC.region ?_
    refine KT.step rfl rfl (K.fieldAddrO rfl Try.fld91_0 Try.size9) ?_
    refine KT.step rfl rfl (K.loadO rfl z1 (by simp) rfl Try.agg9) ?_
    refine KT.step rfl rfl (K.eqlS rfl rfl) ?_
    refine KT.nil ?_
    refine thenK_n ?_
    refine KC.cond rfl (fun hc32 => ?_) (fun hc32 => ?_)
    · skip
      replace hc32 := of_decide_eq_true hc32
      refine KC.region ?_
      refine KT.step rfl rfl (K.move rfl) ?_
      refine KT.step rfl rfl (K.move rfl) ?_
      refine KT.step rfl rfl (K.idxO (m := p.2) rfl rfl (by omega) Try.underlying22 Try.size3) ?_
      refine KT.step rfl rfl (K.loadO rfl u1 (by simp) (nX_get (fun k => if k = p.2 then max ((depC l p.2).getD (cg l p.2).x.toNat 0) ((depC l p.2).getD (cg l p.2).y.toNat 0) else (depC l p.2).getD k 0) (by omega)) Try.agg3) ?_
      refine KT.step rfl rfl (K.add rfl rfl (wrap_id (by rw [if_pos rfl]; have := depC_in l p.2 (cg l p.2).x.toNat; have := depC_in l p.2 (cg l p.2).y.toNat; omega))) ?_
      refine KT.step rfl rfl (K.idxO (m := p.2) rfl rfl (by omega) Try.underlying22 Try.size3) ?_
      refine KT.storeG rfl rfl rfl rfl u1 (by rw [nX_len]; omega) rfl rfl Try.size3 fun σ2 l2 u2 v2 => ?_
      refine KT.nil ?_
      refine blockK_n ?_
      refine thenK_n ?_
      refine KC.region ?_
      refine KT.step rfl rfl (K.add rfl rfl (wrap_id (by omega))) ?_
      refine KT.step rfl rfl (K.move rfl) ?_
      refine KT.nil ?_
      refine thenK_n ?_
      refine ⟨(σ2, p.2 + 1), ⟨by simp only; omega, ?_⟩, by simp only; omega, rfl, by simp [Go.Vm.look, extK]⟩
      refine u2.trans (congrArg (fun c => some (VObj.mk c 0)) (nX_set fun k _ => ?_))
      rw [depC, getD_snoc, depC_len, if_pos (show (cg l p.2).op = EX' from hc32)]
      by_cases e : k = p.2
      · simp only [if_pos e, if_true]
      · simp only [if_neg e]
    · skip
      replace hc32 := of_decide_eq_false hc32
      refine KC.skip ?_
      refine blockK_n ?_
      refine thenK_n ?_
      refine KC.region ?_
      refine KT.step rfl rfl (K.add rfl rfl (wrap_id (by omega))) ?_
      refine KT.step rfl rfl (K.move rfl) ?_
      refine KT.nil ?_
      refine thenK_n ?_
      refine ⟨(σ1, p.2 + 1), ⟨by simp only; omega, ?_⟩, by simp only; omega, rfl, by simp [Go.Vm.look, extK]⟩
      refine u1.trans (congrArg (fun c => some (VObj.mk (nX l.length c) 0)) (funext fun k => ?_))
      rw [depC, getD_snoc, depC_len, if_neg (show ¬ (cg l p.2).op = EX' from hc32), Int.add_zero]
  · skip
    replace hc12 := of_decide_eq_false hc12
    refine KC.exit ?_
    refine thenK_x ?_
    refine thenK_x ?_
    refine blockK_e ?_
    refine thenK_n ?_
    refine KC.seq ?_
    refine KC.region ?_
    refine KT.step rfl rfl (K.move rfl) ?_
    refine KT.step rfl rfl (K.move rfl) ?_
    refine KT.step rfl rfl (K.lenCls rfl hd Try.underlying52) ?_
    refine KT.step rfl rfl (K.sub rfl rfl (wrap_id (by omega))) ?_
    refine KT.step rfl rfl (K.idxO (m := l.length - 1) rfl (congrArg (fun z => some (XV.d (DI z))) (show (l.length : Int) - 1 = ((l.length - 1 : Nat) : Int) by omega)) (by omega) Try.underlying22 Try.size3) ?_
    refine KT.step rfl rfl (K.loadO rfl y0 (by simp) (nX_get _ (by omega)) Try.agg3) ?_
    refine KT.step rfl rfl (K.assign rfl) ?_
    refine KT.nil ?_
    refine thenK_n ?_
    refine KC.ret ?_
    have e : p.2 = l.length := by omega
    rw [e]
    exact ⟨.inl rfl, _, rfl, fin_d rfl⟩
end Go.Proofs.Ytcjcchceeidgkaa

