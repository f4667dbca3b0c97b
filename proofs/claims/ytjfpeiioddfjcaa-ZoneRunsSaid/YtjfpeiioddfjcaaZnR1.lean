import Derived.Test.YtjfpeiioddfjcaaZnZj
/-
  Automata: the law ZoneRuns.
-/
namespace Go.Proofs.Ytjfpeiioddfjcaa
open Go.Vm Go.Zn
theorem plainTry_11 : plainFn Try.prog 11 = true := by kernel_rfl

theorem rep_run {w : World} {M : Nat → Prop} {v : Value} {a : Int} {b c : DV} (hb : SlD b) (hc : SlD c) (h : DRep w M v (runV a b c)) : DRep w M v (.agg [DI a, b, c]) := by
  cases hb with
  | sl => exact h
  | nil => cases hc with
    | sl => exact h
    | nil =>
      have h : DRep w M v (.lit (.agg #[.int .i64 a, .slice none 0 0, .slice none 0 0])) := h
      cases h
      refine .agg rfl fun i v x hv hx => ?_
      match i with
      | 0 => simp at hv hx; subst hv hx; exact .lit _
      | 1 => simp at hv hx; subst hv hx; exact .lit _
      | 2 => simp at hv hx; subst hv hx; exact .lit _
      | i + 3 => simp at hv
theorem CheckRunV {iD eD wD kD : DV} {I : List (List G3)} {E : List Ed} {W Q : List Int} {c den : Int} (hI : GdsL iD I) (hE : Eds eD E) (hIl : I.length ≤ 9223372036854775807) (hEl : E.length ≤ 9223372036854775807) (hIr : ∀ L ∈ I, L.length ≤ 9223372036854775807) (hEr : ∀ e ∈ E, e.2.2.1.length ≤ 9223372036854775807) (hW : Ints wD W) (hK : Ints kD Q) (hWl : W.length ≤ 9223372036854775807) (hKl : Q.length ≤ 9223372036854775807) : DeepCall Try.prog 48 [.agg [DI c, iD, eD], runV den wD kD] (.tup [DI (crR c I E den W Q).1, DB (crR c I E den W Q).2, DI (crE c I E)]) :=
  DeepCall.conv (CheckRun48 hI hE hIl hEl hIr hEr hW hK hWl hKl) rfl fun w M v k x x' h' h hx => by
    match k with
    | 0 => simp at h' h; subst h' h; exact hx
    | 1 => simp at h' h; subst h' h; exact rep_run (SlD.of hW) (SlD.of hK) hx
    | k + 2 => simp at h'
theorem CR_bad {iD eD wD kD : DV} {I : List (List G3)} {E : List Ed} {W Q : List Int} {c den : Int} (hI : GdsL iD I) (hE : Eds eD E) (hIl : I.length ≤ 9223372036854775807) (hEl : E.length ≤ 9223372036854775807) (hIr : ∀ L ∈ I, L.length ≤ 9223372036854775807) (hEr : ∀ e ∈ E, e.2.2.1.length ≤ 9223372036854775807) (hW : Ints wD W) (hK : Ints kD Q) (hWl : W.length ≤ 9223372036854775807) (hKl : Q.length ≤ 9223372036854775807) (hr : rightB c I E = false) : DeepCall Try.prog 48 [.agg [DI c, ofI I, ofE E], runV den wD kD] (.tup [DI 0, DB false, DI 2]) := by
  obtain ⟨⟨a1, a2⟩, a3, a4⟩ := tr_len I E
  have h := CheckRunV (c := c) (den := den) (ofI_gds I) (ofE_eds E) a1 a2 a3 a4 hW hK hWl hKl
  unfold crR crE at h
  rw [right_tr, hr] at h
  exact h
theorem CR_ok {iD eD wD kD : DV} {I : List (List G3)} {E : List Ed} {W Q : List Int} {c den : Int} (hI : GdsL iD I) (hE : Eds eD E) (hIl : I.length ≤ 9223372036854775807) (hEl : E.length ≤ 9223372036854775807) (hIr : ∀ L ∈ I, L.length ≤ 9223372036854775807) (hEr : ∀ e ∈ E, e.2.2.1.length ≤ 9223372036854775807) (hW : Ints wD W) (hK : Ints kD Q) (hWl : W.length ≤ 9223372036854775807) (hKl : Q.length ≤ 9223372036854775807) (hr : rightB c I E = true) : DeepCall Try.prog 48 [.agg [DI c, ofI I, ofE E], runV den wD kD] (.tup [DI (runM 4 0 I E den W Q).1, DB (runM 4 0 I E den W Q).2, DI 0]) := by
  obtain ⟨⟨a1, a2⟩, a3, a4⟩ := tr_len I E
  have h := CheckRunV (c := c) (den := den) (ofI_gds I) (ofE_eds E) a1 a2 a3 a4 hW hK hWl hKl
  unfold crR crE at h
  rw [right_tr, hr, (tr_id hr).1, (tr_id hr).2] at h
  exact h
theorem CR_ref {iD eD wD kD : DV} {I : List (List G3)} {E : List Ed} {W Q : List Int} {c den : Int} (hI : GdsL iD I) (hE : Eds eD E) (hIl : I.length ≤ 9223372036854775807) (hEl : E.length ≤ 9223372036854775807) (hIr : ∀ L ∈ I, L.length ≤ 9223372036854775807) (hEr : ∀ e ∈ E, e.2.2.1.length ≤ 9223372036854775807) (hW : Ints wD W) (hK : Ints kD Q) (hWl : W.length ≤ 9223372036854775807) (hKl : Q.length ≤ 9223372036854775807) (hr : rightB c I E = true) : DeepCall Try.prog 47 [.agg [DI c, iD, eD], .agg [DI den, wD, kD]] (.tup [DI (runM 4 0 I E den W Q).1, DB (runM 4 0 I E den W Q).2]) := by
  obtain ⟨c, rfl⟩ := Int.eq_ofNat_of_zero_le (show 0 ≤ c by have := (rightB_iff.1 hr).1.1.1; omega)
  rw [run_eq hr]
  exact CheckRun47 hI hE hW hK hr hWl hKl
set_option maxRecDepth 10000 in
theorem law11_bad {iD eD wD kD : DV} {I : List (List G3)} {E : List Ed} {W Q : List Int} {c den : Int} (hI : GdsL iD I) (hE : Eds eD E) (hIl : I.length ≤ 9223372036854775807) (hEl : E.length ≤ 9223372036854775807) (hIr : ∀ L ∈ I, L.length ≤ 9223372036854775807) (hEr : ∀ e ∈ E, e.2.2.1.length ≤ 9223372036854775807) (hW : Ints wD W) (hK : Ints kD Q) (hWl : W.length ≤ 9223372036854775807) (hKl : Q.length ≤ 9223372036854775807) (hr : rightB c I E = false) : DeepCall Try.prog 11 [.agg [DI c, iD, eD], .agg [DI den, wD, kD]] (DB true) := by
  refine deepCall_K 5 Try.func11 rfl (Nat.le_of_ble_eq_true rfl) fun M W0 => ?_
  refine KC.seq ?_
  refine KC.region ?_
  refine KT.step rfl rfl (K.box rfl) ?_
  refine KT.step rfl rfl (K.box rfl) ?_
  refine KT.step rfl rfl (K.assign rfl) ?_
  refine KT.nil ?_
  refine thenK_n ?_
  refine KC.seq ?_
  refine KC.draw Try.mixed ?_
  refine KT.step rfl rfl (K.loadOA [DI c, iD, eD] rfl rfl (by decide) Try.agg56 Try.size56 rfl) ?_
  refine KT.step rfl rfl (K.call1 rfl plainTry_42 (of42 hI hE hIl hEl hIr hEr)) ?_
  refine KT.step rfl rfl (K.fieldAddrO rfl Try.fld73_0 Try.size3) ?_
  refine KT.step rfl rfl (K.loadO rfl rfl (by simp) rfl Try.agg3) ?_
  refine KT.step rfl rfl (K.fieldAddrO rfl Try.fld73_1 Try.size23) ?_
  refine KT.step rfl rfl (K.loadO rfl rfl (by simp) rfl Try.agg23) ?_
  refine KT.step rfl rfl (K.fieldAddrO rfl Try.fld73_2 Try.size23) ?_
  refine KT.step rfl rfl (K.loadO rfl rfl (by simp) rfl Try.agg23) ?_
  refine KT.step rfl rfl (K.buildRun rfl rfl rfl (SlD.of hW) (SlD.of hK) Try.zero67 rfl Try.places67 buildR67) ?_
  refine KT.step rfl rfl (K.call2 rfl rfl plainTry_48 (CR_bad hI hE hIl hEl hIr hEr hW hK hWl hKl hr)) ?_
  refine KT.step rfl rfl (K.move rfl) ?_
  refine KT.step rfl rfl (K.extract rfl rfl) ?_
  refine KT.step rfl rfl (K.extract rfl rfl) ?_
  refine KT.step rfl rfl (K.extract rfl rfl) ?_
  refine KT.step rfl rfl (K.assign rfl) ?_
  refine KT.step rfl rfl (K.assign rfl) ?_
  refine KT.step rfl rfl (K.assign rfl) ?_
  refine KT.nil ?_
  refine ⟨by kernel_rfl, ?_⟩
  refine thenK_n ?_
  refine KC.seq ?_
  refine KC.seq ?_
  refine KC.region ?_
  refine KT.step rfl rfl (K.loadOA [DI c, iD, eD] rfl rfl (by decide) Try.agg56 Try.size56 rfl) ?_
  refine KT.step rfl rfl (K.call1 rfl plainTry_45 (Right45 hI hE hIl hEl hIr hEr)) ?_
  refine KT.step rfl rfl (K.not rfl) ?_
  refine KT.nil ?_
  refine thenK_n ?_
  refine KC.cond rfl (fun hc26 => ?_) (fun hc26 => ?_)
  · skip
    refine KC.seq ?_
    refine KC.region ?_
    refine KT.step rfl rfl (K.move rfl) ?_
    refine KT.step rfl rfl (K.eql rfl rfl) ?_
    refine KT.step rfl rfl (K.move rfl) ?_
    refine KT.bcase (fun hb29 => ?_) (fun hb29 => ?_)
    · skip
      replace hb29 := of_decide_eq_true hb29
      refine KT.step rfl rfl (K.move rfl) ?_
      refine KT.step rfl rfl (K.not rfl) ?_
      refine KT.step rfl rfl (K.pick rfl (fun _ => rfl) (fun h => by cases h)) ?_
      refine KT.step rfl rfl (K.move rfl) ?_
      refine KT.bcase (fun hb33 => ?_) (fun hb33 => ?_)
      · skip
        refine KT.step rfl rfl (K.move rfl) ?_
        refine KT.step rfl rfl (K.eql rfl rfl) ?_
        refine KT.step rfl rfl (K.pick rfl (fun _ => rfl) (fun h => by cases h)) ?_
        refine KT.step rfl rfl (K.move rfl) ?_
        refine KT.bcase (fun hb37 => ?_) (fun hb37 => ?_)
        · skip
          replace hb37 := of_decide_eq_true hb37
          refine KT.step rfl rfl (K.call0 plainTry_21 (awake21)) ?_
          refine KT.step rfl rfl (K.pick rfl (fun _ => rfl) (fun h => by cases h)) ?_
          refine KT.step rfl rfl (K.assign rfl) ?_
          refine KT.nil ?_
          refine thenK_n ?_
          refine KC.ret ?_
          refine thenK_r ?_
          exact ⟨.inl rfl, _, rfl, rfl⟩
        · skip
          simp at hb37
      · skip
        cases hb33
    · skip
      simp at hb29
  · skip
    rw [hr] at hc26; cases hc26
set_option maxRecDepth 10000 in
theorem law11_ok {iD eD wD kD : DV} {I : List (List G3)} {E : List Ed} {W Q : List Int} {c den : Int} (hI : GdsL iD I) (hE : Eds eD E) (hIl : I.length ≤ 9223372036854775807) (hEl : E.length ≤ 9223372036854775807) (hIr : ∀ L ∈ I, L.length ≤ 9223372036854775807) (hEr : ∀ e ∈ E, e.2.2.1.length ≤ 9223372036854775807) (hW : Ints wD W) (hK : Ints kD Q) (hWl : W.length ≤ 9223372036854775807) (hKl : Q.length ≤ 9223372036854775807) (hr : rightB c I E = true) : DeepCall Try.prog 11 [.agg [DI c, iD, eD], .agg [DI den, wD, kD]] (DB true) := by
  refine deepCall_K 5 Try.func11 rfl (Nat.le_of_ble_eq_true rfl) fun M W0 => ?_
  refine KC.seq ?_
  refine KC.region ?_
  refine KT.step rfl rfl (K.box rfl) ?_
  refine KT.step rfl rfl (K.box rfl) ?_
  refine KT.step rfl rfl (K.assign rfl) ?_
  refine KT.nil ?_
  refine thenK_n ?_
  refine KC.seq ?_
  refine KC.draw Try.mixed ?_
  refine KT.step rfl rfl (K.loadOA [DI c, iD, eD] rfl rfl (by decide) Try.agg56 Try.size56 rfl) ?_
  refine KT.step rfl rfl (K.call1 rfl plainTry_42 (of42 hI hE hIl hEl hIr hEr)) ?_
  refine KT.step rfl rfl (K.fieldAddrO rfl Try.fld73_0 Try.size3) ?_
  refine KT.step rfl rfl (K.loadO rfl rfl (by simp) rfl Try.agg3) ?_
  refine KT.step rfl rfl (K.fieldAddrO rfl Try.fld73_1 Try.size23) ?_
  refine KT.step rfl rfl (K.loadO rfl rfl (by simp) rfl Try.agg23) ?_
  refine KT.step rfl rfl (K.fieldAddrO rfl Try.fld73_2 Try.size23) ?_
  refine KT.step rfl rfl (K.loadO rfl rfl (by simp) rfl Try.agg23) ?_
  refine KT.step rfl rfl (K.buildRun rfl rfl rfl (SlD.of hW) (SlD.of hK) Try.zero67 rfl Try.places67 buildR67) ?_
  refine KT.step rfl rfl (K.call2 rfl rfl plainTry_48 (CR_ok hI hE hIl hEl hIr hEr hW hK hWl hKl hr)) ?_
  refine KT.step rfl rfl (K.move rfl) ?_
  refine KT.step rfl rfl (K.extract rfl rfl) ?_
  refine KT.step rfl rfl (K.extract rfl rfl) ?_
  refine KT.step rfl rfl (K.extract rfl rfl) ?_
  refine KT.step rfl rfl (K.assign rfl) ?_
  refine KT.step rfl rfl (K.assign rfl) ?_
  refine KT.step rfl rfl (K.assign rfl) ?_
  refine KT.nil ?_
  refine ⟨by kernel_rfl, ?_⟩
  refine thenK_n ?_
  refine KC.seq ?_
  refine KC.seq ?_
  refine KC.region ?_
  refine KT.step rfl rfl (K.loadOA [DI c, iD, eD] rfl rfl (by decide) Try.agg56 Try.size56 rfl) ?_
  refine KT.step rfl rfl (K.call1 rfl plainTry_45 (Right45 hI hE hIl hEl hIr hEr)) ?_
  refine KT.step rfl rfl (K.not rfl) ?_
  refine KT.nil ?_
  refine thenK_n ?_
  refine KC.cond rfl (fun hc26 => ?_) (fun hc26 => ?_)
  · skip
    rw [hr] at hc26; cases hc26
  · skip
    refine KC.skip ?_
    refine thenK_n ?_
    refine KC.seq ?_
    refine KC.region ?_
    refine KT.step rfl rfl (K.loadOA [DI c, iD, eD] rfl rfl (by decide) Try.agg56 Try.size56 rfl) ?_
    refine KT.step rfl rfl (K.loadOA [DI den, wD, kD] rfl rfl (by decide) Try.agg73 Try.size73 rfl) ?_
    refine KT.step rfl rfl (K.call2 rfl rfl plainTry_47 (CR_ref hI hE hIl hEl hIr hEr hW hK hWl hKl hr)) ?_
    refine KT.step rfl rfl (K.move rfl) ?_
    refine KT.step rfl rfl (K.extract rfl rfl) ?_
    refine KT.step rfl rfl (K.extract rfl rfl) ?_
    refine KT.step rfl rfl (K.assign rfl) ?_
    refine KT.step rfl rfl (K.assign rfl) ?_
    refine KT.nil ?_
    refine thenK_n ?_
    refine KC.seq ?_
    refine KC.region ?_
    refine KT.step rfl rfl (K.move rfl) ?_
    refine KT.step rfl rfl (K.move rfl) ?_
    refine KT.step rfl rfl (K.eql rfl rfl) ?_
    refine KT.step rfl rfl (K.move rfl) ?_
    refine KT.bcase (fun hb49 => ?_) (fun hb49 => ?_)
    · skip
      replace hb49 := of_decide_eq_true hb49
      refine KT.step rfl rfl (K.move rfl) ?_
      refine KT.step rfl rfl (K.move rfl) ?_
      refine KT.step rfl rfl (K.eqB Try.underlying4 rfl rfl) ?_
      refine KT.step rfl rfl (K.pick rfl (fun _ => rfl) (fun h => by cases h)) ?_
      refine KT.step rfl rfl (K.move rfl) ?_
      refine KT.bcase (fun hb54 => ?_) (fun hb54 => ?_)
      · skip
        refine KT.step rfl rfl (K.move rfl) ?_
        refine KT.step rfl rfl (K.eql rfl rfl) ?_
        refine KT.step rfl rfl (K.pick rfl (fun _ => rfl) (fun h => by cases h)) ?_
        refine KT.step rfl rfl (K.move rfl) ?_
        refine KT.bcase (fun hb58 => ?_) (fun hb58 => ?_)
        · skip
          replace hb58 := of_decide_eq_true hb58
          refine KT.step rfl rfl (K.call0 plainTry_21 (awake21)) ?_
          refine KT.step rfl rfl (K.pick rfl (fun _ => rfl) (fun h => by cases h)) ?_
          refine KT.step rfl rfl (K.assign rfl) ?_
          refine KT.nil ?_
          refine thenK_n ?_
          refine KC.ret ?_
          exact ⟨.inl rfl, _, rfl, rfl⟩
        · skip
          simp at hb58
      · skip
        simp at hb54
    · skip
      simp at hb49

theorem law11 {iD eD wD kD : DV} {I : List (List G3)} {E : List Ed} {W Q : List Int} {c den : Int} (hI : GdsL iD I) (hE : Eds eD E) (hIl : I.length ≤ 9223372036854775807) (hEl : E.length ≤ 9223372036854775807) (hIr : ∀ L ∈ I, L.length ≤ 9223372036854775807) (hEr : ∀ e ∈ E, e.2.2.1.length ≤ 9223372036854775807) (hW : Ints wD W) (hK : Ints kD Q) (hWl : W.length ≤ 9223372036854775807) (hKl : Q.length ≤ 9223372036854775807) : DeepCall Try.prog 11 [.agg [DI c, iD, eD], .agg [DI den, wD, kD]] (DB true) := by
  cases hr : rightB c I E with
  | false => exact law11_bad hI hE hIl hEl hIr hEr hW hK hWl hKl hr
  | true => exact law11_ok hI hE hIl hEl hIr hEr hW hK hWl hKl hr
end Go.Proofs.Ytjfpeiioddfjcaa

