import Derived.Test.YtcjcchceeidgkaaLgU
import Derived.Test.YtcjcchceeidgkaaLgX
/-
  Logic: the reference on formulas.
-/
namespace Go.Proofs.Ytcjcchceeidgkaa
open Go.Vm Go.Lg
theorem plainTry_48 : plainFn Try.prog 48 = true := by kernel_rfl
theorem plainTry_33 : plainFn Try.prog 33 = true := by kernel_rfl
theorem plainTry_13 : plainFn Try.prog 13 = true := by kernel_rfl
theorem plainTry_15 : plainFn Try.prog 15 = true := by kernel_rfl
theorem c_true : opc ⟨#[116, 114, 117, 101]⟩ = 0 := by decide
theorem Try.zero76' : True := trivial
theorem kids48_0 : DeepCall Try.prog 48 [.lit (.string ⟨#[116, 114, 117, 101]⟩)] (DI (arC 0)) := runFn_sound (inl := fun f => f == 9999) (len := 2000) (k := 12) (f := 48) Try.mixed (by kernel_rfl)
theorem kids48_1 : DeepCall Try.prog 48 [.lit (.string ⟨#[33]⟩)] (DI (arC 1)) := runFn_sound (inl := fun f => f == 9999) (len := 2000) (k := 12) (f := 48) Try.mixed (by kernel_rfl)
theorem kids48_2 : DeepCall Try.prog 48 [.lit (.string ⟨#[38]⟩)] (DI (arC 2)) := runFn_sound (inl := fun f => f == 9999) (len := 2000) (k := 12) (f := 48) Try.mixed (by kernel_rfl)
theorem kids48_3 : DeepCall Try.prog 48 [.lit (.string ⟨#[124]⟩)] (DI (arC 3)) := runFn_sound (inl := fun f => f == 9999) (len := 2000) (k := 12) (f := 48) Try.mixed (by kernel_rfl)
theorem kids48_4 : DeepCall Try.prog 48 [.lit (.string ⟨#[69, 88]⟩)] (DI (arC 4)) := runFn_sound (inl := fun f => f == 9999) (len := 2000) (k := 12) (f := 48) Try.mixed (by kernel_rfl)
theorem kids48_5 : DeepCall Try.prog 48 [.lit (.string ⟨#[69, 70]⟩)] (DI (arC 5)) := runFn_sound (inl := fun f => f == 9999) (len := 2000) (k := 12) (f := 48) Try.mixed (by kernel_rfl)
theorem kids48_6 : DeepCall Try.prog 48 [.lit (.string ⟨#[69, 71]⟩)] (DI (arC 6)) := runFn_sound (inl := fun f => f == 9999) (len := 2000) (k := 12) (f := 48) Try.mixed (by kernel_rfl)
theorem kids48_7 : DeepCall Try.prog 48 [.lit (.string ⟨#[69, 85]⟩)] (DI (arC 7)) := runFn_sound (inl := fun f => f == 9999) (len := 2000) (k := 12) (f := 48) Try.mixed (by kernel_rfl)
theorem kids48_8 : DeepCall Try.prog 48 [.lit (.string ⟨#[65, 88]⟩)] (DI (arC 8)) := runFn_sound (inl := fun f => f == 9999) (len := 2000) (k := 12) (f := 48) Try.mixed (by kernel_rfl)
theorem kids48_9 : DeepCall Try.prog 48 [.lit (.string ⟨#[65, 70]⟩)] (DI (arC 9)) := runFn_sound (inl := fun f => f == 9999) (len := 2000) (k := 12) (f := 48) Try.mixed (by kernel_rfl)
theorem kids48_10 : DeepCall Try.prog 48 [.lit (.string ⟨#[65, 71]⟩)] (DI (arC 10)) := runFn_sound (inl := fun f => f == 9999) (len := 2000) (k := 12) (f := 48) Try.mixed (by kernel_rfl)
theorem kids48_11 : DeepCall Try.prog 48 [.lit (.string ⟨#[65, 85]⟩)] (DI (arC 11)) := runFn_sound (inl := fun f => f == 9999) (len := 2000) (k := 12) (f := 48) Try.mixed (by kernel_rfl)
theorem kids48_12 : DeepCall Try.prog 48 [.lit (.string ⟨#[97]⟩)] (DI (arC 12)) := runFn_sound (inl := fun f => f == 9999) (len := 2000) (k := 12) (f := 48) Try.mixed (by kernel_rfl)
theorem kids48_13 : DeepCall Try.prog 48 [.lit (.string ⟨#[98]⟩)] (DI (arC 13)) := runFn_sound (inl := fun f => f == 9999) (len := 2000) (k := 12) (f := 48) Try.mixed (by kernel_rfl)
theorem kids48_14 : DeepCall Try.prog 48 [.lit (.string ⟨#[99]⟩)] (DI (arC 14)) := runFn_sound (inl := fun f => f == 9999) (len := 2000) (k := 12) (f := 48) Try.mixed (by kernel_rfl)
theorem kids48_15 : DeepCall Try.prog 48 [.lit (.string ⟨#[100]⟩)] (DI (arC 15)) := runFn_sound (inl := fun f => f == 9999) (len := 2000) (k := 12) (f := 48) Try.mixed (by kernel_rfl)
theorem kids48_16 : DeepCall Try.prog 48 [.lit (.string ⟨#[101]⟩)] (DI (arC 16)) := runFn_sound (inl := fun f => f == 9999) (len := 2000) (k := 12) (f := 48) Try.mixed (by kernel_rfl)
theorem kids48_17 : DeepCall Try.prog 48 [.lit (.string ⟨#[102]⟩)] (DI (arC 17)) := runFn_sound (inl := fun f => f == 9999) (len := 2000) (k := 12) (f := 48) Try.mixed (by kernel_rfl)
set_option maxRecDepth 10000 in
theorem kidsN {op : ByteArray} (hn : ∀ x ∈ NM, op ≠ x) (h18 : ¬ opc op < 18) : DeepCall Try.prog 48 [.lit (.string op)] (DI (-1)) := by
  refine deepCall_K 5 Try.func48 rfl (Nat.le_of_ble_eq_true rfl) fun M W0 => ?_
  refine KC.seq ?_
  refine KC.region ?_
  refine KT.step rfl rfl (K.assign rfl) ?_
  refine KT.nil ?_
  refine thenK_n ?_
  refine KC.seq ?_
  refine KC.seq ?_
  refine KC.region ?_
  refine KT.step rfl rfl (K.move rfl) ?_
  refine KT.nil ?_
  refine thenK_n ?_
  refine KC.block ?_
  refine KC.seq ?_
  refine KC.region ?_
  refine KT.step rfl rfl (K.eqlS rfl rfl) ?_
  refine KT.step rfl rfl (K.assign rfl) ?_
  refine KT.nil ?_
  refine thenK_n ?_
  refine KC.cond rfl (fun hc4 => ?_) (fun hc4 => ?_)
  · skip
    exact absurd (of_decide_eq_true hc4) (hn _ (by repeat (first | exact List.Mem.head _ | apply List.Mem.tail)))
  · skip
    refine KC.seq ?_
    refine KC.seq ?_
    refine KC.region ?_
    refine KT.step rfl rfl (K.eqlS rfl rfl) ?_
    refine KT.step rfl rfl (K.assign rfl) ?_
    refine KT.nil ?_
    refine thenK_n ?_
    refine KC.cond rfl (fun hc6 => ?_) (fun hc6 => ?_)
    · skip
      exact absurd (of_decide_eq_true hc6) (hn _ (by repeat (first | exact List.Mem.head _ | apply List.Mem.tail)))
    · skip
      refine KC.seq ?_
      refine KC.region ?_
      refine KT.step rfl rfl (K.eqlS rfl rfl) ?_
      refine KT.step rfl rfl (K.assign rfl) ?_
      refine KT.nil ?_
      refine thenK_n ?_
      refine KC.cond rfl (fun hc6 => ?_) (fun hc6 => ?_)
      · skip
        exact absurd (of_decide_eq_true hc6) (hn _ (by repeat (first | exact List.Mem.head _ | apply List.Mem.tail)))
      · skip
        refine KC.seq ?_
        refine KC.region ?_
        refine KT.step rfl rfl (K.eqlS rfl rfl) ?_
        refine KT.step rfl rfl (K.assign rfl) ?_
        refine KT.nil ?_
        refine thenK_n ?_
        refine KC.cond rfl (fun hc6 => ?_) (fun hc6 => ?_)
        · skip
          exact absurd (of_decide_eq_true hc6) (hn _ (by repeat (first | exact List.Mem.head _ | apply List.Mem.tail)))
        · skip
          refine KC.seq ?_
          refine KC.region ?_
          refine KT.step rfl rfl (K.eqlS rfl rfl) ?_
          refine KT.step rfl rfl (K.assign rfl) ?_
          refine KT.nil ?_
          refine thenK_n ?_
          refine KC.cond rfl (fun hc6 => ?_) (fun hc6 => ?_)
          · skip
            exact absurd (of_decide_eq_true hc6) (hn _ (by repeat (first | exact List.Mem.head _ | apply List.Mem.tail)))
          · skip
            refine KC.seq ?_
            refine KC.region ?_
            refine KT.step rfl rfl (K.eqlS rfl rfl) ?_
            refine KT.step rfl rfl (K.assign rfl) ?_
            refine KT.nil ?_
            refine thenK_n ?_
            refine KC.cond rfl (fun hc6 => ?_) (fun hc6 => ?_)
            · skip
              exact absurd (of_decide_eq_true hc6) (hn _ (by repeat (first | exact List.Mem.head _ | apply List.Mem.tail)))
            · skip
              refine KC.seq ?_
              refine KC.region ?_
              refine KT.step rfl rfl (K.eqlS rfl rfl) ?_
              refine KT.step rfl rfl (K.assign rfl) ?_
              refine KT.nil ?_
              refine thenK_n ?_
              refine KC.cond rfl (fun hc6 => ?_) (fun hc6 => ?_)
              · skip
                exact absurd (of_decide_eq_true hc6) (hn _ (by repeat (first | exact List.Mem.head _ | apply List.Mem.tail)))
              · skip
                refine KC.region ?_
                refine KT.step rfl rfl (K.eqlS rfl rfl) ?_
                refine KT.step rfl rfl (K.assign rfl) ?_
                refine KT.nil ?_
                refine thenK_n ?_
                refine KC.cond rfl (fun hc6 => ?_) (fun hc6 => ?_)
                · skip
                  exact absurd (of_decide_eq_true hc6) (hn _ (by repeat (first | exact List.Mem.head _ | apply List.Mem.tail)))
                · skip
                  refine KC.seq ?_
                  refine KC.seq ?_
                  refine KC.region ?_
                  refine KT.step rfl rfl (K.eqlS rfl rfl) ?_
                  refine KT.step rfl rfl (K.assign rfl) ?_
                  refine KT.nil ?_
                  refine thenK_n ?_
                  refine KC.cond rfl (fun hc14 => ?_) (fun hc14 => ?_)
                  · skip
                    exact absurd (of_decide_eq_true hc14) (hn _ (by repeat (first | exact List.Mem.head _ | apply List.Mem.tail)))
                  · skip
                    refine KC.seq ?_
                    refine KC.region ?_
                    refine KT.step rfl rfl (K.eqlS rfl rfl) ?_
                    refine KT.step rfl rfl (K.assign rfl) ?_
                    refine KT.nil ?_
                    refine thenK_n ?_
                    refine KC.cond rfl (fun hc14 => ?_) (fun hc14 => ?_)
                    · skip
                      exact absurd (of_decide_eq_true hc14) (hn _ (by repeat (first | exact List.Mem.head _ | apply List.Mem.tail)))
                    · skip
                      refine KC.seq ?_
                      refine KC.region ?_
                      refine KT.step rfl rfl (K.eqlS rfl rfl) ?_
                      refine KT.step rfl rfl (K.assign rfl) ?_
                      refine KT.nil ?_
                      refine thenK_n ?_
                      refine KC.cond rfl (fun hc14 => ?_) (fun hc14 => ?_)
                      · skip
                        exact absurd (of_decide_eq_true hc14) (hn _ (by repeat (first | exact List.Mem.head _ | apply List.Mem.tail)))
                      · skip
                        refine KC.region ?_
                        refine KT.step rfl rfl (K.eqlS rfl rfl) ?_
                        refine KT.step rfl rfl (K.assign rfl) ?_
                        refine KT.nil ?_
                        refine thenK_n ?_
                        refine KC.cond rfl (fun hc14 => ?_) (fun hc14 => ?_)
                        · skip
                          exact absurd (of_decide_eq_true hc14) (hn _ (by repeat (first | exact List.Mem.head _ | apply List.Mem.tail)))
                        · skip
                          refine KC.skip ?_
                          refine blockK_n ?_
                          refine thenK_n ?_
                          refine KC.seq ?_
                          refine KC.region ?_
                          refine KT.step rfl rfl (K.move rfl) ?_
                          refine KT.step rfl rfl (K.call1 rfl plainTry_37 (letter37 op)) ?_
                          refine KT.step rfl rfl (K.min2 rfl rfl) ?_
                          refine KT.step rfl rfl (K.assign rfl) ?_
                          refine KT.nil ?_
                          refine thenK_n ?_
                          refine KC.ret ?_
                          exact ⟨.inl rfl, _, rfl, fin_d (by unfold letN; rw [if_neg (fun h => h18 h.2)]; rfl)⟩
theorem kids48 (op : ByteArray) : DeepCall Try.prog 48 [.lit (.string op)] (DI (arI op)) := by
  by_cases h : opc op < 18
  · have hg := opc_get h
    unfold arI
    revert hg
    generalize opc op = c at h
    intro hg
    match c, h with
    | 0, _ => cases hg; exact kids48_0
    | 1, _ => cases hg; exact kids48_1
    | 2, _ => cases hg; exact kids48_2
    | 3, _ => cases hg; exact kids48_3
    | 4, _ => cases hg; exact kids48_4
    | 5, _ => cases hg; exact kids48_5
    | 6, _ => cases hg; exact kids48_6
    | 7, _ => cases hg; exact kids48_7
    | 8, _ => cases hg; exact kids48_8
    | 9, _ => cases hg; exact kids48_9
    | 10, _ => cases hg; exact kids48_10
    | 11, _ => cases hg; exact kids48_11
    | 12, _ => cases hg; exact kids48_12
    | 13, _ => cases hg; exact kids48_13
    | 14, _ => cases hg; exact kids48_14
    | 15, _ => cases hg; exact kids48_15
    | 16, _ => cases hg; exact kids48_16
    | 17, _ => cases hg; exact kids48_17
    | c + 18, h => omega
  · rw [arI_none h]
    exact kidsN (opc_none h) h
set_option maxRecDepth 10000 in
theorem measureS33 {kd : DV} {op : ByteArray} {ks : List Fo} {left : Nat} (hk : KidsD kd ks) (hlf : left ≤ 1000)
    (hrec : ∀ op1 ks1 kd1 left', Fo.mk op1 ks1 ∈ ks → KidsD kd1 ks1 → left' ≤ 1000 → DeepCall Try.prog 33 [.agg [.lit (.string op1), kd1], DI (left' : Nat)] (.tup [DI ((meaF (.mk op1 ks1) left').1 : Nat), DB (meaF (.mk op1 ks1) left').2])) :
    DeepCall Try.prog 33 [.agg [.lit (.string op), kd], DI (left : Nat)] (.tup [DI ((meaF (.mk op ks) left).1 : Nat), DB (meaF (.mk op ks) left).2]) := by
  have har := arI_lo op
  refine deepCall_K 5 Try.func33 rfl (Nat.le_of_ble_eq_true rfl) fun M W0 => ?_
  refine KC.seq ?_
  refine KC.region ?_
  refine KT.step rfl rfl (K.box rfl) ?_
  refine KT.step rfl rfl (K.assign rfl) ?_
  refine KT.step rfl rfl (K.assign rfl) ?_
  refine KT.nil ?_
  refine thenK_n ?_
  refine KC.seq ?_
  refine KC.region ?_
  refine KT.step rfl rfl (K.assign rfl) ?_
  refine KT.nil ?_
  refine thenK_n ?_
  refine KC.seq ?_
  refine KC.seq ?_
  refine KC.draw Try.mixed ?_
  refine KT.step rfl rfl (K.move rfl) ?_
  refine KT.step rfl rfl (K.lss rfl rfl) ?_
  refine KT.step rfl rfl (K.move rfl) ?_
  refine KT.bcase (fun hb13 => ?_) (fun hb13 => ?_)
  · skip
    replace hb13 := of_decide_eq_true hb13
    refine KT.skip rfl rfl ?_
    refine KT.skip rfl rfl ?_
    refine KT.skip rfl rfl ?_
    refine KT.skip rfl rfl ?_
    refine KT.step rfl rfl (K.pick rfl (fun _ => rfl) (fun h => by cases h)) ?_
    refine KT.step rfl rfl (K.move rfl) ?_
    refine KT.skip rfl rfl ?_
    refine KT.skip rfl rfl ?_
    refine KT.skip rfl rfl ?_
    refine KT.skip rfl rfl ?_
    refine KT.skip rfl rfl ?_
    refine KT.skip rfl rfl ?_
    refine KT.skip rfl rfl ?_
    refine KT.step rfl rfl (K.pick rfl (fun _ => rfl) (fun h => by cases h)) ?_
    refine KT.nil ?_
    refine ⟨by kernel_rfl, ?_⟩
    refine thenK_n ?_
    refine KC.cond rfl (fun hc27 => ?_) (fun hc27 => ?_)
    · skip
      refine KC.seq ?_
      refine KC.region ?_
      refine KT.step rfl rfl (K.move rfl) ?_
      refine KT.step rfl rfl (K.assign rfl) ?_
      refine KT.step rfl rfl (K.assign rfl) ?_
      refine KT.nil ?_
      refine thenK_n ?_
      refine KC.ret ?_
      refine thenK_r ?_
      have e : meaF (.mk op ks) left = (1, false) := by
        rw [meaF_mk]
        exact if_pos (by omega)
      rw [e]
      exact ⟨.inl rfl, _, rfl, rfl⟩
    · cases hc27
  · skip
    replace hb13 := of_decide_eq_false hb13
    refine KT.step rfl rfl (K.fieldAddrO rfl Try.fld27_0 Try.size9) ?_
    refine KT.step rfl rfl (K.loadO rfl rfl (by simp) rfl Try.agg9) ?_
    refine KT.step rfl rfl (K.call1 rfl plainTry_48 (kids48 op)) ?_
    refine KT.step rfl rfl (K.lss rfl rfl) ?_
    refine KT.step rfl rfl (K.pick rfl (fun h => by cases h) (fun _ => rfl)) ?_
    refine KT.step rfl rfl (K.move rfl) ?_
    refine KT.bcase (fun hb19 => ?_) (fun hb19 => ?_)
    · skip
      replace hb19 := of_decide_eq_true hb19
      refine KT.skip rfl rfl ?_
      refine KT.skip rfl rfl ?_
      refine KT.skip rfl rfl ?_
      refine KT.skip rfl rfl ?_
      refine KT.skip rfl rfl ?_
      refine KT.skip rfl rfl ?_
      refine KT.skip rfl rfl ?_
      refine KT.step rfl rfl (K.pick rfl (fun _ => rfl) (fun h => by cases h)) ?_
      refine KT.nil ?_
      refine ⟨by kernel_rfl, ?_⟩
      refine thenK_n ?_
      refine KC.cond rfl (fun hc27 => ?_) (fun hc27 => ?_)
      · skip
        refine KC.seq ?_
        refine KC.region ?_
        refine KT.step rfl rfl (K.move rfl) ?_
        refine KT.step rfl rfl (K.assign rfl) ?_
        refine KT.step rfl rfl (K.assign rfl) ?_
        refine KT.nil ?_
        refine thenK_n ?_
        refine KC.ret ?_
        refine thenK_r ?_
        have e : meaF (.mk op ks) left = (1, false) := by
          rw [meaF_mk]
          exact if_pos (by omega)
        rw [e]
        exact ⟨.inl rfl, _, rfl, rfl⟩
      · cases hc27
    · skip
      replace hb19 := of_decide_eq_false hb19
      refine KT.step rfl rfl (K.fieldAddrO rfl Try.fld27_1 Try.size25) ?_
      refine KT.step rfl rfl (K.loadO rfl rfl (by simp) rfl Try.agg25) ?_
      refine KT.step rfl rfl (K.lenKids rfl hk Try.underlying25) ?_
      refine KT.step rfl rfl (K.fieldAddrO rfl Try.fld27_0 Try.size9) ?_
      refine KT.step rfl rfl (K.loadO rfl rfl (by simp) rfl Try.agg9) ?_
      refine KT.step rfl rfl (K.call1 rfl plainTry_48 (kids48 op)) ?_
      refine KT.step rfl rfl (K.neq rfl rfl) ?_
      refine KT.step rfl rfl (K.pick rfl (fun h => by cases h) (fun _ => rfl)) ?_
      refine KT.nil ?_
      refine ⟨by kernel_rfl, ?_⟩
      refine thenK_n ?_
      refine KC.cond rfl (fun hc27 => ?_) (fun hc27 => ?_)
      · skip
        replace hc27 := of_decide_eq_true hc27
        refine KC.seq ?_
        refine KC.region ?_
        refine KT.step rfl rfl (K.move rfl) ?_
        refine KT.step rfl rfl (K.assign rfl) ?_
        refine KT.step rfl rfl (K.assign rfl) ?_
        refine KT.nil ?_
        refine thenK_n ?_
        refine KC.ret ?_
        refine thenK_r ?_
        have e : meaF (.mk op ks) left = (1, false) := by
          rw [meaF_mk]
          exact if_pos (by omega)
        rw [e]
        exact ⟨.inl rfl, _, rfl, rfl⟩
      · skip
        replace hc27 := of_decide_eq_false hc27
        refine KC.skip ?_
        refine thenK_n ?_
        refine KC.seq ?_
        refine KC.seq ?_
        refine KC.region ?_
        refine KT.step rfl rfl (K.fieldAddrO rfl Try.fld27_1 Try.size25) ?_
        refine KT.step rfl rfl (K.loadO rfl rfl (by simp) rfl Try.agg25) ?_
        refine KT.step rfl rfl (K.lenKids rfl hk Try.underlying25) ?_
        refine KT.step rfl rfl (K.move rfl) ?_
        refine KT.nil ?_
        refine thenK_n ?_
        refine KC.block ?_
        have hdm : ((left : Nat) : Int) - 1 = ((left - 1 : Nat) : Int) := by omega
        have hmk : meaF (.mk op ks) left = meaL ks (left - 1) 1 := by
          rw [meaF_mk]
          exact if_neg (by omega)
        refine KC.loop (fun p : List VObj × Nat × Nat => p.1) (fun p => [(1, .d (DI (left : Nat))), (6, .d (DI (p.2.2 : Nat))), (30, .d kd), (31, .d (DI (ks.length : Nat))), (32, .d (DI (p.2.1 : Nat)))]) (fun p => p.2.1 ≤ ks.length ∧ p.2.2 ≤ 200 ∧ meaL (ks.drop p.2.1) (left - 1) p.2.2 = meaF (.mk op ks) left) (fun p => ks.length - p.2.1) (_, 0, 1) ⟨Nat.zero_le _, by simp, hmk.symm⟩ rfl (by simp [Go.Vm.look, extK, enterK]) ?_
        intro p hp
        obtain ⟨hp2, hp200, hfl⟩ := hp
        refine KC.seq ?_
        refine KC.region ?_
        refine KT.step rfl rfl (K.lss rfl rfl) ?_
        refine KT.nil ?_
        refine thenK_n ?_
        refine KC.seq ?_
        refine KC.cond rfl (fun hc33 => ?_) (fun hc33 => ?_)
        · skip
          replace hc33 := of_decide_eq_true hc33
          have hil : p.2.1 < ks.length := by omega
          refine KC.skip ?_
          refine thenK_n ?_
          refine KC.seq ?_
          refine KC.block ?_
          refine KC.seq ?_
          refine KC.region ?_
          refine KT.idxKid rfl rfl rfl hk rfl hil Try.underlying25 Try.size27 fun op1 ks1 kd1 rest hq1 hq2 => ?_
          refine KT.step rfl rfl (K.loadAgg (cs := .lit (.string op1) :: kd1 :: rest) (m := 2) rfl Try.agg27 Try.size27 (by simp)) ?_
          refine KT.step rfl rfl (K.alloc Try.zero27) ?_
          refine KT.storeL (cs := [.d (.lit (.string op1)), .d kd1]) rfl rfl rfl rfl rfl rfl (two_one rfl hq2) Try.size27 ?_
          refine KT.nil ?_
          refine thenK_n ?_
          refine KC.seq ?_
          refine KC.region ?_
          refine KT.step rfl rfl (K.loadOA [.lit (.string op1), kd1] rfl (List.getElem?_concat_length ..) (by decide) Try.agg27 Try.size27 rfl) ?_
          refine KT.step rfl rfl (K.move rfl) ?_
          refine KT.step rfl rfl (K.sub rfl rfl (wrap_id (by omega))) ?_
          refine KT.step rfl rfl (K.call (ds := [.agg [.lit (.string op1), kd1], DI ((left - 1 : Nat) : Nat)]) (by simp [evK, Go.Vm.look, extK, hdm]) plainTry_33 (hrec op1 ks1 kd1 _ (List.mem_of_getElem? hq1) hq2 (by omega))) ?_
          refine KT.step rfl rfl (K.move rfl) ?_
          refine KT.step rfl rfl (K.extract rfl rfl) ?_
          refine KT.step rfl rfl (K.extract rfl rfl) ?_
          refine KT.step rfl rfl (K.assign rfl) ?_
          refine KT.step rfl rfl (K.assign rfl) ?_
          refine KT.nil ?_
          refine thenK_n ?_
          refine KC.seq ?_
          refine KC.region ?_
          refine KT.step rfl rfl (K.move rfl) ?_
          refine KT.step rfl rfl (K.move rfl) ?_
          refine KT.step rfl rfl (K.add rfl rfl (wrap_id (by have := meaF_le (.mk op1 ks1) (left - 1); omega))) ?_
          refine KT.step rfl rfl (K.assign rfl) ?_
          refine KT.nil ?_
          refine thenK_n ?_
          refine KC.seq ?_
          refine KC.region ?_
          refine KT.step rfl rfl (K.move rfl) ?_
          refine KT.step rfl rfl (K.not rfl) ?_
          refine KT.step rfl rfl (K.move rfl) ?_
          refine KT.bcase (fun hb48 => ?_) (fun hb48 => ?_)
          · skip
            refine KT.skip rfl rfl ?_
            refine KT.skip rfl rfl ?_
            refine KT.step rfl rfl (K.pick rfl (fun _ => rfl) (fun h => by cases h)) ?_
            refine KT.nil ?_
            refine thenK_n ?_
            refine KC.cond rfl (fun hc51 => ?_) (fun hc51 => ?_)
            · skip
              refine KC.seq ?_
              refine KC.region ?_
              refine KT.step rfl rfl (K.move rfl) ?_
              refine KT.step rfl rfl (K.assign rfl) ?_
              refine KT.step rfl rfl (K.assign rfl) ?_
              refine KT.nil ?_
              refine thenK_n ?_
              refine KC.ret ?_
              refine blockK_r ?_
              refine thenK_r ?_
              refine thenK_r ?_
              refine blockK_r ?_
              refine thenK_r ?_
              have hdrop : ks.drop p.2.1 = Fo.mk op1 ks1 :: ks.drop (p.2.1 + 1) := by
                obtain ⟨q1, q2⟩ := List.getElem?_eq_some_iff.1 hq1
                rw [List.drop_eq_getElem_cons q1, q2]
              have e : meaF (.mk op ks) left = (p.2.2 + (meaF (.mk op1 ks1) (left - 1)).1, false) := by
                rw [← hfl, hdrop, meaL_cons]
                exact if_pos (by first | exact .inl (by simpa using hb48) | exact .inr (by omega))
              rw [e]
              exact ⟨.inl rfl, _, rfl, rfl⟩
            · cases hc51
          · skip
            refine KT.step rfl rfl (K.move rfl) ?_
            refine KT.step rfl rfl (K.gtr rfl rfl) ?_
            refine KT.step rfl rfl (K.pick rfl (fun h => by cases h) (fun _ => rfl)) ?_
            refine KT.nil ?_
            refine thenK_n ?_
            refine KC.cond rfl (fun hc51 => ?_) (fun hc51 => ?_)
            · skip
              replace hc51 := of_decide_eq_true hc51
              refine KC.seq ?_
              refine KC.region ?_
              refine KT.step rfl rfl (K.move rfl) ?_
              refine KT.step rfl rfl (K.assign rfl) ?_
              refine KT.step rfl rfl (K.assign rfl) ?_
              refine KT.nil ?_
              refine thenK_n ?_
              refine KC.ret ?_
              refine blockK_r ?_
              refine thenK_r ?_
              refine thenK_r ?_
              refine blockK_r ?_
              refine thenK_r ?_
              have hdrop : ks.drop p.2.1 = Fo.mk op1 ks1 :: ks.drop (p.2.1 + 1) := by
                obtain ⟨q1, q2⟩ := List.getElem?_eq_some_iff.1 hq1
                rw [List.drop_eq_getElem_cons q1, q2]
              have e : meaF (.mk op ks) left = (p.2.2 + (meaF (.mk op1 ks1) (left - 1)).1, false) := by
                rw [← hfl, hdrop, meaL_cons]
                exact if_pos (by first | exact .inl (by simpa using hb48) | exact .inr (by omega))
              rw [e]
              exact ⟨.inl rfl, _, rfl, rfl⟩
            · skip
              replace hc51 := of_decide_eq_false hc51
              refine KC.skip ?_
              refine blockK_n ?_
              refine thenK_n ?_
              refine KC.region ?_
              refine KT.step rfl rfl (K.add rfl rfl (wrap_id (by omega))) ?_
              refine KT.step rfl rfl (K.move rfl) ?_
              refine KT.nil ?_
              refine thenK_n ?_
              have hdrop : ks.drop p.2.1 = Fo.mk op1 ks1 :: ks.drop (p.2.1 + 1) := by
                obtain ⟨q1, q2⟩ := List.getElem?_eq_some_iff.1 hq1
                rw [List.drop_eq_getElem_cons q1, q2]
              have hok : (meaF (.mk op1 ks1) (left - 1)).2 = true := by simpa using hb48
              refine ⟨(_, p.2.1 + 1, p.2.2 + (meaF (.mk op1 ks1) (left - 1)).1), ⟨by simp only; omega, by simp only; omega, ?_⟩, by simp only; omega, rfl, by simp [Go.Vm.look, extK]⟩
              simp only
              rw [← hfl, hdrop, meaL_cons, if_neg (by rw [hok]; simp; omega)]
        · skip
          replace hc33 := of_decide_eq_false hc33
          refine KC.exit ?_
          refine thenK_x ?_
          refine thenK_x ?_
          refine blockK_e ?_
          refine thenK_n ?_
          refine KC.seq ?_
          refine KC.region ?_
          refine KT.step rfl rfl (K.move rfl) ?_
          refine KT.step rfl rfl (K.assign rfl) ?_
          refine KT.step rfl rfl (K.assign rfl) ?_
          refine KT.nil ?_
          refine thenK_n ?_
          refine KC.ret ?_
          have e : meaF (.mk op ks) left = (p.2.2, true) := by
            rw [← hfl, List.drop_eq_nil_of_le (by omega), meaL_nil]
          rw [e]
          exact ⟨.inl rfl, _, rfl, rfl⟩

theorem measure33 : ∀ (op : ByteArray) (ks : List Fo) (kd : DV) (left : Nat), KidsD kd ks → left ≤ 1000 → DeepCall Try.prog 33 [.agg [.lit (.string op), kd], DI (left : Nat)] (.tup [DI ((meaF (.mk op ks) left).1 : Nat), DB (meaF (.mk op ks) left).2])
  | op, ks, kd, left, hk, hl => by
    refine measureS33 hk hl fun op1 ks1 kd1 left' hm hk1 hl1 => ?_
    have : SizeOf.sizeOf ks1 < SizeOf.sizeOf ks := by
      have := List.sizeOf_lt_of_mem hm
      simp at this; omega
    exact measure33 op1 ks1 kd1 left' hk1 hl1
  termination_by _ ks => SizeOf.sizeOf ks
set_option maxRecDepth 10000 in
theorem right13 {kd : DV} {op : ByteArray} {ks : List Fo} (hk : KidsD kd ks) : DeepCall Try.prog 13 [.agg [.lit (.string op), kd]] (DB (rightB (.mk op ks))) := by
  refine deepCall_K 5 Try.func13 rfl (Nat.le_of_ble_eq_true rfl) fun M W0 => ?_
  refine KC.seq ?_
  refine KC.region ?_
  refine KT.step rfl rfl (K.box rfl) ?_
  refine KT.step rfl rfl (K.assign rfl) ?_
  refine KT.nil ?_
  refine thenK_n ?_
  refine KC.seq ?_
  refine KC.region ?_
  refine KT.step rfl rfl (K.loadOA ([.lit (.string op), kd]) rfl rfl (by decide) Try.agg27 Try.size27 rfl) ?_
  refine KT.step rfl rfl (K.call (ds := [.agg [.lit (.string op), kd], DI ((60 : Nat) : Nat)]) rfl plainTry_33 (measure33 op ks kd 60 hk (by decide))) ?_
  refine KT.step rfl rfl (K.move rfl) ?_
  refine KT.step rfl rfl (K.extract rfl rfl) ?_
  refine KT.step rfl rfl (K.extract rfl rfl) ?_
  refine KT.step rfl rfl (K.assign rfl) ?_
  refine KT.step rfl rfl (K.assign rfl) ?_
  refine KT.nil ?_
  refine thenK_n ?_
  refine KC.seq ?_
  refine KC.region ?_
  refine KT.step rfl rfl (K.move rfl) ?_
  refine KT.step rfl rfl (K.move rfl) ?_
  refine KT.bcase (fun hb11 => ?_) (fun hb11 => ?_)
  · skip
    refine KT.step rfl rfl (K.move rfl) ?_
    refine KT.step rfl rfl (K.leq rfl rfl) ?_
    refine KT.step rfl rfl (K.pick rfl (fun _ => rfl) (fun h => by cases h)) ?_
    refine KT.step rfl rfl (K.assign rfl) ?_
    refine KT.nil ?_
    refine thenK_n ?_
    refine KC.ret ?_
    exact ⟨.inl rfl, _, rfl, fin_b (by unfold rightB; rw [show (meaF (.mk op ks) 60).2 = true from hb11, Bool.true_and]; exact decide_eq_decide.2 (by omega))⟩
  · skip
    refine KT.skip rfl rfl ?_
    refine KT.skip rfl rfl ?_
    refine KT.step rfl rfl (K.pick rfl (fun h => by cases h) (fun _ => rfl)) ?_
    refine KT.step rfl rfl (K.assign rfl) ?_
    refine KT.nil ?_
    refine thenK_n ?_
    refine KC.ret ?_
    exact ⟨.inl rfl, _, rfl, fin_b (by unfold rightB; rw [show (meaF (.mk op ks) 60).2 = false from hb11, Bool.false_and])⟩
set_option maxHeartbeats 1000000 in
set_option maxRecDepth 10000 in
theorem rsatS15 {dn dl : DV} {nx lb : List Nat} (hS : Str dn dl nx lb) (ht : Tot nx) {kd : DV} {op : ByteArray} {ks : List Fo} (hk : KidsD kd ks) (hop : opc op < 18) (hl2 : ks.length ≤ 2)
    (hrec : ∀ op1 ks1 kd1, Fo.mk op1 ks1 ∈ ks → KidsD kd1 ks1 → DeepCall Try.prog 15 [.agg [dn, dl], .agg [.lit (.string op1), kd1]] (DI (satF nx lb (.mk op1 ks1) : Nat))) :
    DeepCall Try.prog 15 [.agg [dn, dl], .agg [.lit (.string op), kd]] (DI (satF nx lb (.mk op ks) : Nat)) := by
  have al := allN_lt nx.length
  have al' := pow16 hS.n16 al
  have hA0 := satL_lt (nx := nx) (lb := lb) hS.len ks 0
  have hA1 := satL_lt (nx := nx) (lb := lb) hS.len ks 1
  refine deepCall_K 5 Try.func15 rfl (Nat.le_of_ble_eq_true rfl) fun M W0 => ?_
  refine KC.seq ?_
  refine KC.region ?_
  refine KT.step rfl rfl (K.box rfl) ?_
  refine KT.step rfl rfl (K.box rfl) ?_
  refine KT.step rfl rfl (K.assign rfl) ?_
  refine KT.nil ?_
  refine thenK_n ?_
  refine KC.seq ?_
  refine KC.region ?_
  refine KT.step rfl rfl (K.fieldAddrO rfl Try.fld24_0 Try.size22) ?_
  refine KT.step rfl rfl (K.loadO rfl rfl (by simp) rfl Try.agg22) ?_
  refine KT.step rfl rfl (K.len rfl hS.hn Try.underlying22) ?_
  refine KT.step rfl rfl (K.shl rfl rfl (by omega) (shlI (i := nx.length) (by have := hS.n16; omega))) ?_
  refine KT.step rfl rfl (K.sub rfl rfl (show IntKind.i64.wrap (((2 ^ nx.length : Nat) : Int) - 1) = ((allN nx.length : Nat) : Int) from by rw [allI]; exact wrap_id (by omega))) ?_
  refine KT.step rfl rfl (K.assign rfl) ?_
  refine KT.nil ?_
  refine thenK_n ?_
  refine KC.seq ?_
  refine KC.region ?_
  refine KT.step rfl rfl (K.alloc Try.zero76) ?_
  refine KT.nil ?_
  refine thenK_n ?_
  refine KC.seq ?_
  refine KC.seq ?_
  refine KC.region ?_
  refine KT.step rfl rfl (K.fieldAddrO rfl Try.fld27_1 Try.size25) ?_
  refine KT.step rfl rfl (K.loadO rfl rfl (by simp) rfl Try.agg25) ?_
  refine KT.step rfl rfl (K.lenKids rfl hk Try.underlying25) ?_
  refine KT.step rfl rfl (K.move rfl) ?_
  refine KT.nil ?_
  refine thenK_n ?_
  refine KC.block ?_
  refine KC.loop (fun p : List VObj × Nat => p.1) (fun p => [(2, .optr 0 0), (3, .optr 1 0), (5, .d (DI (allN nx.length : Nat))), (6, .optr 2 0), (18, .d kd), (19, .d (DI (ks.length : Nat))), (20, .d (DI (p.2 : Nat)))]) (fun p => p.1[0]? = some ⟨[.d dn, .d dl], 0⟩ ∧ p.1[1]? = some ⟨[.d (.lit (.string op)), .d kd], 0⟩ ∧ p.1[2]? = some ⟨[.d (DI (svN (satL nx lb ks) p.2 0 : Nat)), .d (DI (svN (satL nx lb ks) p.2 1 : Nat))], 0⟩ ∧ p.2 ≤ ks.length) (fun p => ks.length - p.2) (_, 0) ⟨rfl, rfl, by rw [svN_zero, svN_zero]; rfl, Nat.zero_le _⟩ rfl (by simp [Go.Vm.look, extK, enterK]) ?_
  intro p hp
  obtain ⟨y0, y1, y2, hp2⟩ := hp
  refine KC.seq ?_
  refine KC.region ?_
  refine KT.step rfl rfl (K.lss rfl rfl) ?_
  refine KT.nil ?_
  refine thenK_n ?_
  refine KC.seq ?_
  refine KC.cond rfl (fun hc21 => ?_) (fun hc21 => ?_)
  · skip
    replace hc21 := of_decide_eq_true hc21
    have hil : p.2 < ks.length := by omega
    refine KC.skip ?_
    refine thenK_n ?_
    refine KC.seq ?_
    refine KC.block ?_
    refine KC.seq ?_
    refine KC.region ?_
    refine KT.step rfl rfl (K.move rfl) ?_
    refine KT.idxKid rfl rfl rfl hk rfl hil Try.underlying25 Try.size27 fun op1 ks1 kd1 rest hq1 hq2 => ?_
    refine KT.step rfl rfl (K.loadAgg (cs := .lit (.string op1) :: kd1 :: rest) (m := 2) rfl Try.agg27 Try.size27 (by simp)) ?_
    refine KT.step rfl rfl (K.alloc Try.zero27) ?_
    refine KT.step rfl rfl (K.assign rfl) ?_
    refine KT.storeL (cs := [.d (.lit (.string op1)), .d kd1]) rfl rfl rfl rfl rfl rfl (two_one rfl hq2) Try.size27 ?_
    refine KT.nil ?_
    refine thenK_n ?_
    refine KC.region ?_
    refine KT.step rfl rfl (K.move rfl) ?_
    refine KT.step rfl rfl (K.loadOA [dn, dl] rfl (get_left y0) (by decide) Try.agg24 Try.size24 rfl) ?_
    refine KT.step rfl rfl (K.loadOA [.lit (.string op1), kd1] rfl (List.getElem?_concat_length ..) (by decide) Try.agg27 Try.size27 rfl) ?_
    refine KT.step rfl rfl (K.call2 rfl rfl plainTry_15 (hrec op1 ks1 kd1 (List.mem_of_getElem? hq1) hq2)) ?_
    refine KT.step rfl rfl (K.idxA rfl rfl (show p.2 < 2 by omega) Try.underlying76 Try.size3) ?_
    refine KT.storeG rfl rfl rfl rfl (get_left y2) (by show 0 + p.2 * 1 < 2; omega) rfl rfl Try.size3 fun σr lr ur vr => ?_
    refine KT.nil ?_
    refine blockK_n ?_
    refine thenK_n ?_
    refine KC.region ?_
    refine KT.step rfl rfl (K.add rfl rfl (wrap_id (by omega))) ?_
    refine KT.step rfl rfl (K.move rfl) ?_
    refine KT.nil ?_
    refine thenK_n ?_
    refine ⟨(σr, p.2 + 1), ⟨?_, ?_, ?_, by simp only; omega⟩, by simp only; omega, rfl, by simp [Go.Vm.look, extK]⟩
    · exact (vr 0 (by decide)).trans (get_left y0)
    · exact (vr 1 (by decide)).trans (get_left y1)
    · rw [svN_put (by omega) (satL_get hq1)] at ur
      exact ur
  · skip
    replace hc21 := of_decide_eq_false hc21
    refine KC.exit ?_
    refine thenK_x ?_
    refine thenK_x ?_
    refine blockK_e ?_
    refine thenK_n ?_
    refine KC.seq ?_
    refine KC.seq ?_
    rw [svN_end (j := 0) (by rw [satL_len]; omega), svN_end (j := 1) (by rw [satL_len]; omega)] at y2
    generalize hgA : (satL nx lb ks).getD 0 0 = a0 at y2 hA0
    generalize hgB : (satL nx lb ks).getD 1 0 = a1 at y2 hA1
    have a0' := pow16 hS.n16 hA0
    have a1' := pow16 hS.n16 hA1
    have n0 := notN_lt nx.length a0
    have n0' := pow16 hS.n16 n0
    have n1 := notN_lt nx.length a1
    have n1' := pow16 hS.n16 n1
    have o01 := or_lt hA0 hA1
    have o01' := pow16 hS.n16 o01
    have no := notN_lt nx.length (a0 ||| a1)
    have bx := pow16 hS.n16 (befN_lt nx (notN nx.length a0))
    have w0 := alwN_lt (nx := nx) (x := notN nx.length a0)
    have w0' := pow16 hS.n16 w0
    have w1 := alwN_lt (nx := nx) (x := notN nx.length a1)
    have w1' := pow16 hS.n16 w1
    have u0 := pow16 hS.n16 (untN_lt (x := allN nx.length) n0)
    have u1 := untN_lt (x := notN nx.length a1) no
    have u1' := pow16 hS.n16 u1
    have ou := pow16 hS.n16 (or_lt u1 w1)
    refine KC.region ?_
    refine KT.step rfl rfl (K.fieldAddrO rfl Try.fld27_0 Try.size9) ?_
    refine KT.step rfl rfl (K.loadO rfl y1 (by simp) rfl Try.agg9) ?_
    refine KT.nil ?_
    refine thenK_n ?_
    refine KC.block ?_
    refine KC.seq ?_
    refine KC.region ?_
    refine KT.step rfl rfl (K.eqlS rfl rfl) ?_
    refine KT.step rfl rfl (K.assign rfl) ?_
    refine KT.nil ?_
    refine thenK_n ?_
    refine KC.cond rfl (fun hc33 => ?_) (fun hc33 => ?_)
    · skip
      replace hc33 := of_decide_eq_true hc33
      refine KC.seq ?_
      refine KC.region ?_
      refine KT.step rfl rfl (K.move rfl) ?_
      refine KT.step rfl rfl (K.assign rfl) ?_
      refine KT.nil ?_
      refine thenK_n ?_
      refine KC.ret ?_
      refine blockK_r ?_
      refine thenK_r ?_
      exact ⟨.inl rfl, _, rfl, fin_d (by rw [satF, hgA, hgB, show opc op = 0 from by rw [hc33]; exact c_true]; rfl)⟩
    · skip
      replace hc33 := of_decide_eq_false hc33
      refine KC.seq ?_
      refine KC.region ?_
      refine KT.step rfl rfl (K.eqlS rfl rfl) ?_
      refine KT.step rfl rfl (K.assign rfl) ?_
      refine KT.nil ?_
      refine thenK_n ?_
      refine KC.cond rfl (fun hc36 => ?_) (fun hc36 => ?_)
      · skip
        replace hc36 := of_decide_eq_true hc36
        refine KC.seq ?_
        refine KC.region ?_
        refine KT.step rfl rfl (K.move rfl) ?_
        refine KT.step rfl rfl (K.idxA (m := 0) rfl rfl (by omega) Try.underlying76 Try.size3) ?_
        refine KT.step rfl rfl (K.loadO rfl y2 (by simp) rfl Try.agg3) ?_
        refine KT.step rfl rfl (K.bandNot rfl rfl (show IntKind.i64.wrap (BitVec.ofInt IntKind.i64.bits ((allN nx.length : Nat) : Int) &&& ~~~ BitVec.ofInt IntKind.i64.bits ((a0 : Nat) : Int)).toNat = ((notN nx.length (a0) : Nat) : Int) from diffI (lt63 al') (lt63 (a0')))) ?_
        refine KT.step rfl rfl (K.assign rfl) ?_
        refine KT.nil ?_
        refine thenK_n ?_
        refine KC.ret ?_
        refine blockK_r ?_
        refine thenK_r ?_
        exact ⟨.inl rfl, _, rfl, fin_d (by rw [satF, hgA, hgB, show opc op = 1 from by rw [hc36]; exact c_not]; rfl)⟩
      · skip
        replace hc36 := of_decide_eq_false hc36
        refine KC.seq ?_
        refine KC.region ?_
        refine KT.step rfl rfl (K.eqlS rfl rfl) ?_
        refine KT.step rfl rfl (K.assign rfl) ?_
        refine KT.nil ?_
        refine thenK_n ?_
        refine KC.cond rfl (fun hc42 => ?_) (fun hc42 => ?_)
        · skip
          replace hc42 := of_decide_eq_true hc42
          refine KC.seq ?_
          refine KC.region ?_
          refine KT.step rfl rfl (K.idxA (m := 0) rfl rfl (by omega) Try.underlying76 Try.size3) ?_
          refine KT.step rfl rfl (K.loadO rfl y2 (by simp) rfl Try.agg3) ?_
          refine KT.step rfl rfl (K.idxA (m := 1) rfl rfl (by omega) Try.underlying76 Try.size3) ?_
          refine KT.step rfl rfl (K.loadO rfl y2 (by simp) rfl Try.agg3) ?_
          refine KT.step rfl rfl (K.band rfl rfl (show IntKind.i64.wrap (BitVec.ofInt IntKind.i64.bits ((a0 : Nat) : Int) &&& BitVec.ofInt IntKind.i64.bits ((a1 : Nat) : Int)).toNat = ((a0 &&& a1 : Nat) : Int) from andI (lt63 a0') (lt63 a1'))) ?_
          refine KT.step rfl rfl (K.assign rfl) ?_
          refine KT.nil ?_
          refine thenK_n ?_
          refine KC.ret ?_
          refine blockK_r ?_
          refine thenK_r ?_
          exact ⟨.inl rfl, _, rfl, fin_d (by rw [satF, hgA, hgB, show opc op = 2 from by rw [hc42]; exact c_and]; rfl)⟩
        · skip
          replace hc42 := of_decide_eq_false hc42
          refine KC.seq ?_
          refine KC.region ?_
          refine KT.step rfl rfl (K.eqlS rfl rfl) ?_
          refine KT.step rfl rfl (K.assign rfl) ?_
          refine KT.nil ?_
          refine thenK_n ?_
          refine KC.cond rfl (fun hc49 => ?_) (fun hc49 => ?_)
          · skip
            replace hc49 := of_decide_eq_true hc49
            refine KC.seq ?_
            refine KC.region ?_
            refine KT.step rfl rfl (K.idxA (m := 0) rfl rfl (by omega) Try.underlying76 Try.size3) ?_
            refine KT.step rfl rfl (K.loadO rfl y2 (by simp) rfl Try.agg3) ?_
            refine KT.step rfl rfl (K.idxA (m := 1) rfl rfl (by omega) Try.underlying76 Try.size3) ?_
            refine KT.step rfl rfl (K.loadO rfl y2 (by simp) rfl Try.agg3) ?_
            refine KT.step rfl rfl (K.bor rfl rfl (show IntKind.i64.wrap (BitVec.ofInt IntKind.i64.bits ((a0 : Nat) : Int) ||| BitVec.ofInt IntKind.i64.bits ((a1 : Nat) : Int)).toNat = ((a0 ||| a1 : Nat) : Int) from orI (lt63 a0') (lt63 a1'))) ?_
            refine KT.step rfl rfl (K.assign rfl) ?_
            refine KT.nil ?_
            refine thenK_n ?_
            refine KC.ret ?_
            refine blockK_r ?_
            refine thenK_r ?_
            exact ⟨.inl rfl, _, rfl, fin_d (by rw [satF, hgA, hgB, show opc op = 3 from by rw [hc49]; exact c_or]; rfl)⟩
          · skip
            replace hc49 := of_decide_eq_false hc49
            refine KC.seq ?_
            refine KC.region ?_
            refine KT.step rfl rfl (K.eqlS rfl rfl) ?_
            refine KT.step rfl rfl (K.assign rfl) ?_
            refine KT.nil ?_
            refine thenK_n ?_
            refine KC.cond rfl (fun hc56 => ?_) (fun hc56 => ?_)
            · skip
              replace hc56 := of_decide_eq_true hc56
              refine KC.seq ?_
              refine KC.region ?_
              refine KT.step rfl rfl (K.loadOA [dn, dl] rfl y0 (by decide) Try.agg24 Try.size24 rfl) ?_
              refine KT.step rfl rfl (K.idxA (m := 0) rfl rfl (by omega) Try.underlying76 Try.size3) ?_
              refine KT.step rfl rfl (K.loadO rfl y2 (by simp) rfl Try.agg3) ?_
              refine KT.step rfl rfl (K.call2 rfl rfl plainTry_34 (rbefore34 hS (by assumption))) ?_
              refine KT.step rfl rfl (K.assign rfl) ?_
              refine KT.nil ?_
              refine thenK_n ?_
              refine KC.ret ?_
              refine blockK_r ?_
              refine thenK_r ?_
              exact ⟨.inl rfl, _, rfl, fin_d (by rw [satF, hgA, hgB, show opc op = 4 from by rw [hc56]; exact c_EX]; rfl)⟩
            · skip
              replace hc56 := of_decide_eq_false hc56
              refine KC.seq ?_
              refine KC.region ?_
              refine KT.step rfl rfl (K.eqlS rfl rfl) ?_
              refine KT.step rfl rfl (K.assign rfl) ?_
              refine KT.nil ?_
              refine thenK_n ?_
              refine KC.cond rfl (fun hc62 => ?_) (fun hc62 => ?_)
              · skip
                replace hc62 := of_decide_eq_true hc62
                refine KC.seq ?_
                refine KC.region ?_
                refine KT.step rfl rfl (K.loadOA [dn, dl] rfl y0 (by decide) Try.agg24 Try.size24 rfl) ?_
                refine KT.step rfl rfl (K.move rfl) ?_
                refine KT.step rfl rfl (K.idxA (m := 0) rfl rfl (by omega) Try.underlying76 Try.size3) ?_
                refine KT.step rfl rfl (K.loadO rfl y2 (by simp) rfl Try.agg3) ?_
                refine KT.step rfl rfl (K.call3 rfl rfl rfl plainTry_35 (runtil35 hS (by assumption) (by assumption))) ?_
                refine KT.step rfl rfl (K.assign rfl) ?_
                refine KT.nil ?_
                refine thenK_n ?_
                refine KC.ret ?_
                refine blockK_r ?_
                refine thenK_r ?_
                exact ⟨.inl rfl, _, rfl, fin_d (by rw [satF, hgA, hgB, show opc op = 5 from by rw [hc62]; exact c_EF]; rfl)⟩
              · skip
                replace hc62 := of_decide_eq_false hc62
                refine KC.seq ?_
                refine KC.region ?_
                refine KT.step rfl rfl (K.eqlS rfl rfl) ?_
                refine KT.step rfl rfl (K.assign rfl) ?_
                refine KT.nil ?_
                refine thenK_n ?_
                refine KC.cond rfl (fun hc69 => ?_) (fun hc69 => ?_)
                · skip
                  replace hc69 := of_decide_eq_true hc69
                  refine KC.seq ?_
                  refine KC.region ?_
                  refine KT.step rfl rfl (K.loadOA [dn, dl] rfl y0 (by decide) Try.agg24 Try.size24 rfl) ?_
                  refine KT.step rfl rfl (K.idxA (m := 0) rfl rfl (by omega) Try.underlying76 Try.size3) ?_
                  refine KT.step rfl rfl (K.loadO rfl y2 (by simp) rfl Try.agg3) ?_
                  refine KT.step rfl rfl (K.call2 rfl rfl plainTry_36 (ralways36 hS ht (by assumption))) ?_
                  refine KT.step rfl rfl (K.assign rfl) ?_
                  refine KT.nil ?_
                  refine thenK_n ?_
                  refine KC.ret ?_
                  refine blockK_r ?_
                  refine thenK_r ?_
                  exact ⟨.inl rfl, _, rfl, fin_d (by rw [satF, hgA, hgB, show opc op = 6 from by rw [hc69]; exact c_EG]; rfl)⟩
                · skip
                  replace hc69 := of_decide_eq_false hc69
                  refine KC.seq ?_
                  refine KC.region ?_
                  refine KT.step rfl rfl (K.eqlS rfl rfl) ?_
                  refine KT.step rfl rfl (K.assign rfl) ?_
                  refine KT.nil ?_
                  refine thenK_n ?_
                  refine KC.cond rfl (fun hc75 => ?_) (fun hc75 => ?_)
                  · skip
                    replace hc75 := of_decide_eq_true hc75
                    refine KC.seq ?_
                    refine KC.region ?_
                    refine KT.step rfl rfl (K.loadOA [dn, dl] rfl y0 (by decide) Try.agg24 Try.size24 rfl) ?_
                    refine KT.step rfl rfl (K.idxA (m := 0) rfl rfl (by omega) Try.underlying76 Try.size3) ?_
                    refine KT.step rfl rfl (K.loadO rfl y2 (by simp) rfl Try.agg3) ?_
                    refine KT.step rfl rfl (K.idxA (m := 1) rfl rfl (by omega) Try.underlying76 Try.size3) ?_
                    refine KT.step rfl rfl (K.loadO rfl y2 (by simp) rfl Try.agg3) ?_
                    refine KT.step rfl rfl (K.call3 rfl rfl rfl plainTry_35 (runtil35 hS (by assumption) (by assumption))) ?_
                    refine KT.step rfl rfl (K.assign rfl) ?_
                    refine KT.nil ?_
                    refine thenK_n ?_
                    refine KC.ret ?_
                    refine blockK_r ?_
                    refine thenK_r ?_
                    exact ⟨.inl rfl, _, rfl, fin_d (by rw [satF, hgA, hgB, show opc op = 7 from by rw [hc75]; exact c_EU]; rfl)⟩
                  · skip
                    replace hc75 := of_decide_eq_false hc75
                    refine KC.seq ?_
                    refine KC.region ?_
                    refine KT.step rfl rfl (K.eqlS rfl rfl) ?_
                    refine KT.step rfl rfl (K.assign rfl) ?_
                    refine KT.nil ?_
                    refine thenK_n ?_
                    refine KC.cond rfl (fun hc83 => ?_) (fun hc83 => ?_)
                    · skip
                      replace hc83 := of_decide_eq_true hc83
                      refine KC.seq ?_
                      refine KC.region ?_
                      refine KT.step rfl rfl (K.move rfl) ?_
                      refine KT.step rfl rfl (K.loadOA [dn, dl] rfl y0 (by decide) Try.agg24 Try.size24 rfl) ?_
                      refine KT.step rfl rfl (K.move rfl) ?_
                      refine KT.step rfl rfl (K.idxA (m := 0) rfl rfl (by omega) Try.underlying76 Try.size3) ?_
                      refine KT.step rfl rfl (K.loadO rfl y2 (by simp) rfl Try.agg3) ?_
                      refine KT.step rfl rfl (K.bandNot rfl rfl (show IntKind.i64.wrap (BitVec.ofInt IntKind.i64.bits ((allN nx.length : Nat) : Int) &&& ~~~ BitVec.ofInt IntKind.i64.bits ((a0 : Nat) : Int)).toNat = ((notN nx.length (a0) : Nat) : Int) from diffI (lt63 al') (lt63 (a0')))) ?_
                      refine KT.step rfl rfl (K.call2 rfl rfl plainTry_34 (rbefore34 hS (by assumption))) ?_
                      refine KT.step rfl rfl (K.bandNot rfl rfl (show IntKind.i64.wrap (BitVec.ofInt IntKind.i64.bits ((allN nx.length : Nat) : Int) &&& ~~~ BitVec.ofInt IntKind.i64.bits ((befN nx (notN nx.length a0) : Nat) : Int)).toNat = ((notN nx.length (befN nx (notN nx.length a0)) : Nat) : Int) from diffI (lt63 al') (lt63 (bx)))) ?_
                      refine KT.step rfl rfl (K.assign rfl) ?_
                      refine KT.nil ?_
                      refine thenK_n ?_
                      refine KC.ret ?_
                      refine blockK_r ?_
                      refine thenK_r ?_
                      exact ⟨.inl rfl, _, rfl, fin_d (by rw [satF, hgA, hgB, show opc op = 8 from by rw [hc83]; exact c_AX]; rfl)⟩
                    · skip
                      replace hc83 := of_decide_eq_false hc83
                      refine KC.seq ?_
                      refine KC.region ?_
                      refine KT.step rfl rfl (K.eqlS rfl rfl) ?_
                      refine KT.step rfl rfl (K.assign rfl) ?_
                      refine KT.nil ?_
                      refine thenK_n ?_
                      refine KC.cond rfl (fun hc93 => ?_) (fun hc93 => ?_)
                      · skip
                        replace hc93 := of_decide_eq_true hc93
                        refine KC.seq ?_
                        refine KC.region ?_
                        refine KT.step rfl rfl (K.move rfl) ?_
                        refine KT.step rfl rfl (K.loadOA [dn, dl] rfl y0 (by decide) Try.agg24 Try.size24 rfl) ?_
                        refine KT.step rfl rfl (K.move rfl) ?_
                        refine KT.step rfl rfl (K.idxA (m := 0) rfl rfl (by omega) Try.underlying76 Try.size3) ?_
                        refine KT.step rfl rfl (K.loadO rfl y2 (by simp) rfl Try.agg3) ?_
                        refine KT.step rfl rfl (K.bandNot rfl rfl (show IntKind.i64.wrap (BitVec.ofInt IntKind.i64.bits ((allN nx.length : Nat) : Int) &&& ~~~ BitVec.ofInt IntKind.i64.bits ((a0 : Nat) : Int)).toNat = ((notN nx.length (a0) : Nat) : Int) from diffI (lt63 al') (lt63 (a0')))) ?_
                        refine KT.step rfl rfl (K.call2 rfl rfl plainTry_36 (ralways36 hS ht (by assumption))) ?_
                        refine KT.step rfl rfl (K.bandNot rfl rfl (show IntKind.i64.wrap (BitVec.ofInt IntKind.i64.bits ((allN nx.length : Nat) : Int) &&& ~~~ BitVec.ofInt IntKind.i64.bits ((alwN nx (notN nx.length a0) : Nat) : Int)).toNat = ((notN nx.length (alwN nx (notN nx.length a0)) : Nat) : Int) from diffI (lt63 al') (lt63 (w0')))) ?_
                        refine KT.step rfl rfl (K.assign rfl) ?_
                        refine KT.nil ?_
                        refine thenK_n ?_
                        refine KC.ret ?_
                        refine blockK_r ?_
                        refine thenK_r ?_
                        exact ⟨.inl rfl, _, rfl, fin_d (by rw [satF, hgA, hgB, show opc op = 9 from by rw [hc93]; exact c_AF]; rfl)⟩
                      · skip
                        replace hc93 := of_decide_eq_false hc93
                        refine KC.seq ?_
                        refine KC.region ?_
                        refine KT.step rfl rfl (K.eqlS rfl rfl) ?_
                        refine KT.step rfl rfl (K.assign rfl) ?_
                        refine KT.nil ?_
                        refine thenK_n ?_
                        refine KC.cond rfl (fun hc103 => ?_) (fun hc103 => ?_)
                        · skip
                          replace hc103 := of_decide_eq_true hc103
                          refine KC.seq ?_
                          refine KC.region ?_
                          refine KT.step rfl rfl (K.move rfl) ?_
                          refine KT.step rfl rfl (K.loadOA [dn, dl] rfl y0 (by decide) Try.agg24 Try.size24 rfl) ?_
                          refine KT.step rfl rfl (K.move rfl) ?_
                          refine KT.step rfl rfl (K.move rfl) ?_
                          refine KT.step rfl rfl (K.idxA (m := 0) rfl rfl (by omega) Try.underlying76 Try.size3) ?_
                          refine KT.step rfl rfl (K.loadO rfl y2 (by simp) rfl Try.agg3) ?_
                          refine KT.step rfl rfl (K.bandNot rfl rfl (show IntKind.i64.wrap (BitVec.ofInt IntKind.i64.bits ((allN nx.length : Nat) : Int) &&& ~~~ BitVec.ofInt IntKind.i64.bits ((a0 : Nat) : Int)).toNat = ((notN nx.length (a0) : Nat) : Int) from diffI (lt63 al') (lt63 (a0')))) ?_
                          refine KT.step rfl rfl (K.call3 rfl rfl rfl plainTry_35 (runtil35 hS (by assumption) (by assumption))) ?_
                          refine KT.step rfl rfl (K.bandNot rfl rfl (show IntKind.i64.wrap (BitVec.ofInt IntKind.i64.bits ((allN nx.length : Nat) : Int) &&& ~~~ BitVec.ofInt IntKind.i64.bits ((untN nx (allN nx.length) (notN nx.length a0) : Nat) : Int)).toNat = ((notN nx.length (untN nx (allN nx.length) (notN nx.length a0)) : Nat) : Int) from diffI (lt63 al') (lt63 (u0)))) ?_
                          refine KT.step rfl rfl (K.assign rfl) ?_
                          refine KT.nil ?_
                          refine thenK_n ?_
                          refine KC.ret ?_
                          refine blockK_r ?_
                          refine thenK_r ?_
                          exact ⟨.inl rfl, _, rfl, fin_d (by rw [satF, hgA, hgB, show opc op = 10 from by rw [hc103]; exact c_AG]; rfl)⟩
                        · skip
                          replace hc103 := of_decide_eq_false hc103
                          refine KC.seq ?_
                          refine KC.region ?_
                          refine KT.step rfl rfl (K.eqlS rfl rfl) ?_
                          refine KT.step rfl rfl (K.assign rfl) ?_
                          refine KT.nil ?_
                          refine thenK_n ?_
                          refine KC.cond rfl (fun hc114 => ?_) (fun hc114 => ?_)
                          · skip
                            replace hc114 := of_decide_eq_true hc114
                            refine KC.seq ?_
                            refine KC.draw Try.mixed ?_
                            refine KT.step rfl rfl (K.move rfl) ?_
                            refine KT.step rfl rfl (K.loadOA [dn, dl] rfl y0 (by decide) Try.agg24 Try.size24 rfl) ?_
                            refine KT.step rfl rfl (K.move rfl) ?_
                            refine KT.step rfl rfl (K.idxA (m := 1) rfl rfl (by omega) Try.underlying76 Try.size3) ?_
                            refine KT.step rfl rfl (K.loadO rfl y2 (by simp) rfl Try.agg3) ?_
                            refine KT.step rfl rfl (K.bandNot rfl rfl (show IntKind.i64.wrap (BitVec.ofInt IntKind.i64.bits ((allN nx.length : Nat) : Int) &&& ~~~ BitVec.ofInt IntKind.i64.bits ((a1 : Nat) : Int)).toNat = ((notN nx.length (a1) : Nat) : Int) from diffI (lt63 al') (lt63 (a1')))) ?_
                            refine KT.step rfl rfl (K.move rfl) ?_
                            refine KT.step rfl rfl (K.idxA (m := 0) rfl rfl (by omega) Try.underlying76 Try.size3) ?_
                            refine KT.step rfl rfl (K.loadO rfl y2 (by simp) rfl Try.agg3) ?_
                            refine KT.step rfl rfl (K.idxA (m := 1) rfl rfl (by omega) Try.underlying76 Try.size3) ?_
                            refine KT.step rfl rfl (K.loadO rfl y2 (by simp) rfl Try.agg3) ?_
                            refine KT.step rfl rfl (K.bor rfl rfl (show IntKind.i64.wrap (BitVec.ofInt IntKind.i64.bits ((a0 : Nat) : Int) ||| BitVec.ofInt IntKind.i64.bits ((a1 : Nat) : Int)).toNat = ((a0 ||| a1 : Nat) : Int) from orI (lt63 a0') (lt63 a1'))) ?_
                            refine KT.step rfl rfl (K.bandNot rfl rfl (show IntKind.i64.wrap (BitVec.ofInt IntKind.i64.bits ((allN nx.length : Nat) : Int) &&& ~~~ BitVec.ofInt IntKind.i64.bits ((a0 ||| a1 : Nat) : Int)).toNat = ((notN nx.length (a0 ||| a1) : Nat) : Int) from diffI (lt63 al') (lt63 (o01')))) ?_
                            refine KT.step rfl rfl (K.call3 rfl rfl rfl plainTry_35 (runtil35 hS (by assumption) (by assumption))) ?_
                            refine KT.step rfl rfl (K.loadOA [dn, dl] rfl y0 (by decide) Try.agg24 Try.size24 rfl) ?_
                            refine KT.step rfl rfl (K.move rfl) ?_
                            refine KT.step rfl rfl (K.idxA (m := 1) rfl rfl (by omega) Try.underlying76 Try.size3) ?_
                            refine KT.step rfl rfl (K.loadO rfl y2 (by simp) rfl Try.agg3) ?_
                            refine KT.step rfl rfl (K.bandNot rfl rfl (show IntKind.i64.wrap (BitVec.ofInt IntKind.i64.bits ((allN nx.length : Nat) : Int) &&& ~~~ BitVec.ofInt IntKind.i64.bits ((a1 : Nat) : Int)).toNat = ((notN nx.length (a1) : Nat) : Int) from diffI (lt63 al') (lt63 (a1')))) ?_
                            refine KT.step rfl rfl (K.call2 rfl rfl plainTry_36 (ralways36 hS ht (by assumption))) ?_
                            refine KT.step rfl rfl (K.bor rfl rfl (show IntKind.i64.wrap (BitVec.ofInt IntKind.i64.bits ((untN nx (notN nx.length a1) (notN nx.length (a0 ||| a1)) : Nat) : Int) ||| BitVec.ofInt IntKind.i64.bits ((alwN nx (notN nx.length a1) : Nat) : Int)).toNat = ((untN nx (notN nx.length a1) (notN nx.length (a0 ||| a1)) ||| alwN nx (notN nx.length a1) : Nat) : Int) from orI (lt63 u1') (lt63 w1'))) ?_
                            refine KT.step rfl rfl (K.bandNot rfl rfl (show IntKind.i64.wrap (BitVec.ofInt IntKind.i64.bits ((allN nx.length : Nat) : Int) &&& ~~~ BitVec.ofInt IntKind.i64.bits ((untN nx (notN nx.length a1) (notN nx.length (a0 ||| a1)) ||| alwN nx (notN nx.length a1) : Nat) : Int)).toNat = ((notN nx.length (untN nx (notN nx.length a1) (notN nx.length (a0 ||| a1)) ||| alwN nx (notN nx.length a1)) : Nat) : Int) from diffI (lt63 al') (lt63 (ou)))) ?_
                            refine KT.step rfl rfl (K.assign rfl) ?_
                            refine KT.nil ?_
                            refine ⟨by kernel_rfl, ?_⟩
                            refine thenK_n ?_
                            refine KC.ret ?_
                            refine blockK_r ?_
                            refine thenK_r ?_
                            exact ⟨.inl rfl, _, rfl, fin_d (by rw [satF, hgA, hgB, show opc op = 11 from by rw [hc114]; exact c_AU]; show DI ((notN nx.length (_ ||| _) : Nat) : Int) = DI ((notN nx.length (_ ||| _) : Nat) : Int); rw [Nat.or_comm])⟩
                          · skip
                            replace hc114 := of_decide_eq_false hc114
                            refine KC.skip ?_
                            refine blockK_n ?_
                            refine thenK_n ?_
                            refine KC.seq ?_
                            have h12 : 12 ≤ opc op := by
                              apply Classical.byContradiction
                              intro hlt
                              have hg := opc_get hop
                              revert hg
                              generalize opc op = c at hlt
                              intro hg
                              match c, hlt with
                              | 0, _ => exact hc33 (Option.some.inj hg).symm
                              | 1, _ => exact hc36 (Option.some.inj hg).symm
                              | 2, _ => exact hc42 (Option.some.inj hg).symm
                              | 3, _ => exact hc49 (Option.some.inj hg).symm
                              | 4, _ => exact hc56 (Option.some.inj hg).symm
                              | 5, _ => exact hc62 (Option.some.inj hg).symm
                              | 6, _ => exact hc69 (Option.some.inj hg).symm
                              | 7, _ => exact hc75 (Option.some.inj hg).symm
                              | 8, _ => exact hc83 (Option.some.inj hg).symm
                              | 9, _ => exact hc93 (Option.some.inj hg).symm
                              | 10, _ => exact hc103 (Option.some.inj hg).symm
                              | 11, _ => exact hc114 (Option.some.inj hg).symm
                              | c + 12, h => omega
                            obtain ⟨k, hok⟩ : ∃ k, opc op = k + 12 := ⟨opc op - 12, by omega⟩
                            have hk6 : k < 6 := by omega
                            have hlet : letN op = ((k : Nat) : Int) := by unfold letN; rw [if_pos ⟨h12, hop⟩, hok]; omega
                            refine KC.region ?_
                            refine KT.step rfl rfl (K.assign rfl) ?_
                            refine KT.nil ?_
                            refine thenK_n ?_
                            refine KC.seq ?_
                            refine KC.seq ?_
                            refine KC.region ?_
                            refine KT.step rfl rfl (K.fieldAddrO rfl Try.fld24_1 Try.size22) ?_
                            refine KT.step rfl rfl (K.loadO rfl y0 (by simp) rfl Try.agg22) ?_
                            refine KT.step rfl rfl (K.len rfl hS.hl Try.underlying22) ?_
                            refine KT.step rfl rfl (K.move rfl) ?_
                            refine KT.nil ?_
                            refine thenK_n ?_
                            refine KC.block ?_
                            have hln := hS.n16
                            have hll := hS.len
                            refine KC.loop (fun _ : Nat => p.1) (fun i => [(3, .optr 1 0), (9, .d (DI (coll (wpN lb k) i : Nat))), (139, .d dl), (140, .d (DI (lb.length : Nat))), (141, .d (DI (i : Nat)))]) (fun i => i ≤ lb.length) (fun i => lb.length - i) 0 (Nat.zero_le _) rfl (by simp [Go.Vm.look, extK, enterK, coll]) ?_
                            intro i hi
                            refine KC.seq ?_
                            refine KC.region ?_
                            refine KT.step rfl rfl (K.lss rfl rfl) ?_
                            refine KT.nil ?_
                            refine thenK_n ?_
                            refine KC.seq ?_
                            refine KC.cond rfl (fun hc142 => ?_) (fun hc142 => ?_)
                            · skip
                              replace hc142 := of_decide_eq_true hc142
                              refine KC.skip ?_
                              refine thenK_n ?_
                              refine KC.seq ?_
                              refine KC.block ?_
                              refine KC.seq ?_
                              refine KC.region ?_
                              refine KT.step rfl rfl (K.move rfl) ?_
                              refine KT.idxNat rfl rfl rfl hS.hl rfl (by omega) Try.underlying22 Try.size3 fun rest => ?_
                              refine KT.step rfl rfl (K.load rfl Try.agg3) ?_
                              refine KT.step rfl rfl (K.assign rfl) ?_
                              refine KT.step rfl rfl (K.assign rfl) ?_
                              refine KT.nil ?_
                              refine thenK_n ?_
                              refine KC.seq ?_
                              refine KC.region ?_
                              refine KT.step rfl rfl (K.move rfl) ?_
                              refine KT.step rfl rfl (K.fieldAddrO rfl Try.fld27_0 Try.size9) ?_
                              refine KT.step rfl rfl (K.loadO rfl y1 (by simp) rfl Try.agg9) ?_
                              refine KT.step rfl rfl (K.call1 rfl plainTry_37 (hlet ▸ letter37 op)) ?_
                              refine KT.step rfl rfl (K.shr rfl rfl (by omega) (shrI (a := lb.getD i 0) (i := k) (by omega))) ?_
                              refine KT.step rfl rfl (K.band rfl rfl (show IntKind.i64.wrap (BitVec.ofInt IntKind.i64.bits ((lb.getD i 0 / 2 ^ k : Nat) : Int) &&& BitVec.ofInt IntKind.i64.bits (1 : Int)).toNat = ((lb.getD i 0 / 2 ^ k &&& 1 : Nat) : Int) from andI (b := 1) (Nat.lt_of_le_of_lt (Nat.div_le_self _ _) (lt63 (hS.hlb i))) (by decide))) ?_
                              refine KT.step rfl rfl (K.eql rfl rfl) ?_
                              refine KT.nil ?_
                              refine thenK_n ?_
                              refine KC.cond rfl (fun hc152 => ?_) (fun hc152 => ?_)
                              · skip
                                replace hc152 := of_decide_eq_true hc152
                                have hpi : wpN lb k i = true := by unfold wpN; rw [← bitOne, decide_eq_true hc152]
                                refine KC.region ?_
                                refine KT.step rfl rfl (K.move rfl) ?_
                                refine KT.step rfl rfl (K.move rfl) ?_
                                refine KT.step rfl rfl (K.shl rfl rfl (by omega) (shlI (i := i) (by omega))) ?_
                                have hcl : coll (wpN lb k) i < 2 ^ i := coll_lt _ _
                                have hci : coll (wpN lb k) i < 65536 := pow16 (by omega) hcl
                                have hp2 : 2 ^ i < 65536 := Nat.lt_of_lt_of_le (Nat.pow_lt_pow_right (by decide) (show i < 16 by omega)) (by decide)
                                refine KT.step rfl rfl (K.bor rfl rfl (show IntKind.i64.wrap (BitVec.ofInt IntKind.i64.bits ((coll (wpN lb k) i : Nat) : Int) ||| BitVec.ofInt IntKind.i64.bits ((2 ^ i : Nat) : Int)).toNat = ((coll (wpN lb k) i ||| 2 ^ i : Nat) : Int) from orI (lt63 hci) (lt63 hp2))) ?_
                                refine KT.step rfl rfl (K.assign rfl) ?_
                                refine KT.nil ?_
                                refine blockK_n ?_
                                refine thenK_n ?_
                                refine KC.region ?_
                                refine KT.step rfl rfl (K.add rfl rfl (wrap_id (by omega))) ?_
                                refine KT.step rfl rfl (K.move rfl) ?_
                                refine KT.nil ?_
                                refine thenK_n ?_
                                refine ⟨i + 1, by omega, by omega, rfl, by simp [Go.Vm.look, extK, ← coll_yes (p := wpN lb k) (k := i) hpi]⟩
                              · skip
                                replace hc152 := of_decide_eq_false hc152
                                have hpi : wpN lb k i = false := by unfold wpN; rw [← bitOne, decide_eq_false hc152]
                                refine KC.skip ?_
                                refine blockK_n ?_
                                refine thenK_n ?_
                                refine KC.region ?_
                                refine KT.step rfl rfl (K.add rfl rfl (wrap_id (by omega))) ?_
                                refine KT.step rfl rfl (K.move rfl) ?_
                                refine KT.nil ?_
                                refine thenK_n ?_
                                refine ⟨i + 1, by omega, by omega, rfl, by simp [Go.Vm.look, extK, ← coll_no (p := wpN lb k) (k := i) hpi]⟩
                            · skip
                              replace hc142 := of_decide_eq_false hc142
                              refine KC.exit ?_
                              refine thenK_x ?_
                              refine thenK_x ?_
                              refine blockK_e ?_
                              refine thenK_n ?_
                              refine KC.seq ?_
                              refine KC.region ?_
                              refine KT.step rfl rfl (K.move rfl) ?_
                              refine KT.step rfl rfl (K.assign rfl) ?_
                              refine KT.nil ?_
                              refine thenK_n ?_
                              refine KC.ret ?_
                              have e : i = lb.length := by omega
                              subst e
                              exact ⟨.inl rfl, _, rfl, fin_d (by rw [satF, hgA, hgB, hok]; rfl)⟩

theorem rsat15 {dn dl : DV} {nx lb : List Nat} (hS : Str dn dl nx lb) (ht : Tot nx) : ∀ (op : ByteArray) (ks : List Fo) (kd : DV), wfF (.mk op ks) = true → KidsD kd ks → DeepCall Try.prog 15 [.agg [dn, dl], .agg [.lit (.string op), kd]] (DI (satF nx lb (.mk op ks) : Nat))
  | op, ks, kd, hw, hk => by
    obtain ⟨h1, h2, _, h4⟩ := wfF_mk hw
    refine rsatS15 hS ht hk h1 h2 fun op1 ks1 kd1 hm hk1 => ?_
    have : SizeOf.sizeOf ks1 < SizeOf.sizeOf ks := by
      have := List.sizeOf_lt_of_mem hm
      simp at this; omega
    exact rsat15 hS ht op1 ks1 kd1 (h4 _ hm) hk1
  termination_by _ ks => SizeOf.sizeOf ks
end Go.Proofs.Ytcjcchceeidgkaa

