import Derived.Test.YtmfbakipfobaeaaHtPe
import Derived.Test.YtmfbakipfobaeaaHtPq
/-
  Heat: the law of parts.
-/
namespace Go.Proofs.Ytmfbakipfobaeaa
open Go.Vm Go.Ht
theorem plainTry_13 : plainFn Try.prog 13 = true := by kernel_rfl
theorem Try.agg67 : isAggT Try.prog 67 = some false := by kernel_rfl
theorem Try.size67 : sizeT Try.prog 67 = some 1 := by kernel_rfl
theorem Try.one67 : OneT Try.prog 67 (.slice none 0 0) := ⟨by kernel_rfl, by kernel_rfl, rfl, of_decide_eq_true (by kernel_rfl)⟩
theorem Try.agg66 : isAggT Try.prog 66 = some false := by kernel_rfl
theorem Try.size66 : sizeT Try.prog 66 = some 1 := by kernel_rfl
theorem Try.one66 : OneT Try.prog 66 (.int .u64 0) := ⟨by kernel_rfl, by kernel_rfl, rfl, of_decide_eq_true (by kernel_rfl)⟩
theorem rloads_ok {d0 d1 : DV} {hot cold : List Int} (hh : Ints d0 hot) (hc : Ints d1 cold) (hhl : hot.length ≤ 9223372036854775807) (hcl : cold.length ≤ 9223372036854775807) (hok : okM hot cold = true) : DeepCall Try.prog 39 [d0, d1] (DB true) := by
  have h := rloads39 hh hc hhl hcl
  rwa [hok] at h
set_option maxRecDepth 10000 in
theorem parts_no {d0 d1 d2 : DV} {hot cold part : List Int} (hh : Ints d0 hot) (hc : Ints d1 cold) (hhl : hot.length ≤ 9223372036854775807) (hcl : cold.length ≤ 9223372036854775807) (_ : Ints d2 part) (_ : part.length ≤ 9223372036854775807) (hno : okM hot cold = false) : DeepCall Try.prog 13 [d0, d1, d2] (DB true) := by
  refine deepCall_K 5 Try.func13 rfl (Nat.le_of_ble_eq_true rfl) fun M W0 => ?_
  refine KC.seq ?_
  refine KC.region ?_
  refine KT.step rfl rfl (K.assign rfl) ?_
  refine KT.nil ?_
  refine thenK_n ?_
  refine KC.seq ?_
  refine KC.region ?_
  refine KT.step rfl rfl (K.move rfl) ?_
  refine KT.step rfl rfl (K.move rfl) ?_
  refine KT.step rfl rfl (K.call2 rfl rfl plainTry_37 (matches_no hh hc hhl hcl hno)) ?_
  refine KT.step rfl rfl (K.move rfl) ?_
  refine KT.step rfl rfl (K.extract rfl rfl) ?_
  refine KT.step rfl rfl (K.extract rfl rfl) ?_
  refine KT.step rfl rfl (K.assign rfl) ?_
  refine KT.step rfl rfl (K.assign rfl) ?_
  refine KT.nil ?_
  refine thenK_n ?_
  refine KC.seq ?_
  refine KC.seq ?_
  refine KC.region ?_
  refine KT.step rfl rfl (K.move rfl) ?_
  refine KT.step rfl rfl (K.neq rfl rfl) ?_
  refine KT.step rfl rfl (K.move rfl) ?_
  refine KT.skip rfl rfl ?_
  refine KT.skip rfl rfl ?_
  refine KT.skip rfl rfl ?_
  refine KT.skip rfl rfl ?_
  refine KT.step rfl rfl (K.pick rfl (fun _ => rfl) (fun h => by cases h)) ?_
  refine KT.nil ?_
  refine thenK_n ?_
  refine KC.cond rfl (fun hc30 => ?_) (fun hc30 => ?_)
  · skip
    refine KC.seq ?_
    refine KC.region ?_
    refine KT.step rfl rfl (K.move rfl) ?_
    refine KT.step rfl rfl (K.eql rfl rfl) ?_
    refine KT.step rfl rfl (K.move rfl) ?_
    refine KT.step rfl rfl (K.call0 plainTry_20 (awake20)) ?_
    refine KT.step rfl rfl (K.pick rfl (fun _ => rfl) (fun h => by cases h)) ?_
    refine KT.step rfl rfl (K.assign rfl) ?_
    refine KT.nil ?_
    refine thenK_n ?_
    refine KC.ret ?_
    refine thenK_r ?_
    exact ⟨.inl rfl, _, rfl, fin_b rfl⟩
  · cases hc30
set_option maxHeartbeats 4000000 in
set_option maxRecDepth 10000 in
theorem parts_ok {d0 d1 d2 : DV} {hot cold part : List Int} (hh : Ints d0 hot) (hc : Ints d1 cold) (hhl : hot.length ≤ 9223372036854775807) (hcl : cold.length ≤ 9223372036854775807) (hp : Ints d2 part) (hpl : part.length ≤ 9223372036854775807) (hok : okM hot cold = true) : DeepCall Try.prog 13 [d0, d1, d2] (DB true) := by
  obtain ⟨n1, n2, n3, n4, b1, b2, hsum⟩ := okM_iff.1 hok
  have hzl := zL_len hot cold
  have hbl := bestA_le hok
  have hzb := zL_bd b1 b2
  obtain ⟨cap, rfl⟩ : ∃ cap, d0 = .sl (ints hot) hot.length cap := by
    rcases ints_form hh with ⟨_, e⟩ | h
    · rw [e] at n1; simp at n1
    · exact h
  have hcne : ¬ cold = [] := fun e => by rw [e] at n3; simp at n3
  refine deepCall_K 5 Try.func13 rfl (Nat.le_of_ble_eq_true rfl) fun M W0 => ?_
  refine KC.seq ?_
  refine KC.region ?_
  refine KT.step rfl rfl (K.assign rfl) ?_
  refine KT.nil ?_
  refine thenK_n ?_
  refine KC.seq ?_
  refine KC.region ?_
  refine KT.step rfl rfl (K.move rfl) ?_
  refine KT.step rfl rfl (K.move rfl) ?_
  refine KT.step rfl rfl (K.call2 rfl rfl plainTry_37 (matches_ok hh hc hhl hcl hok)) ?_
  refine KT.step rfl rfl (K.move rfl) ?_
  refine KT.step rfl rfl (K.extract rfl rfl) ?_
  refine KT.step rfl rfl (K.extract rfl rfl) ?_
  refine KT.step rfl rfl (K.assign rfl) ?_
  refine KT.step rfl rfl (K.assign rfl) ?_
  refine KT.nil ?_
  refine thenK_n ?_
  refine KC.seq ?_
  refine KC.seq ?_
  refine KC.region ?_
  refine KT.step rfl rfl (K.move rfl) ?_
  refine KT.step rfl rfl (K.neq rfl rfl) ?_
  refine KT.step rfl rfl (K.move rfl) ?_
  refine KT.step rfl rfl (K.move rfl) ?_
  refine KT.step rfl rfl (K.move rfl) ?_
  refine KT.step rfl rfl (K.call2 rfl rfl plainTry_39 (rloads_ok hh hc hhl hcl hok)) ?_
  refine KT.step rfl rfl (K.not rfl) ?_
  refine KT.step rfl rfl (K.pick rfl (fun h => by cases h) (fun _ => rfl)) ?_
  refine KT.nil ?_
  refine thenK_n ?_
  refine KC.cond rfl (fun hc30 => ?_) (fun hc30 => ?_)
  · cases hc30
  · skip
    refine KC.skip ?_
    refine thenK_n ?_
    refine KC.seq ?_
    refine KC.seq ?_
    refine KC.region ?_
    refine KT.step rfl rfl (K.move rfl) ?_
    refine KT.step rfl rfl (K.move rfl) ?_
    refine KT.step rfl rfl (K.len rfl hh Try.underlying23) ?_
    refine KT.step rfl rfl (K.move rfl) ?_
    refine KT.step rfl rfl (K.len rfl hc Try.underlying23) ?_
    refine KT.step rfl rfl (K.max2 rfl rfl) ?_
    refine KT.step rfl rfl (K.lss rfl rfl) ?_
    refine KT.step rfl rfl (K.move rfl) ?_
    refine KT.bcase (fun hb43 => ?_) (fun hb43 => ?_)
    · skip
      exact absurd (of_decide_eq_true hb43) (by omega)
    · skip
      replace hb43 := of_decide_eq_false hb43
      refine KT.step rfl rfl (K.move rfl) ?_
      refine KT.step rfl rfl (K.move rfl) ?_
      refine KT.step rfl rfl (K.len rfl hh Try.underlying23) ?_
      refine KT.step rfl rfl (K.move rfl) ?_
      refine KT.step rfl rfl (K.len rfl hc Try.underlying23) ?_
      refine KT.step rfl rfl (K.add rfl rfl (wrap_id (by omega))) ?_
      refine KT.step rfl rfl (K.sub rfl rfl (wrap_id (by omega))) ?_
      refine KT.step rfl rfl (K.gtr rfl rfl) ?_
      refine KT.step rfl rfl (K.pick rfl (fun h => by cases h) (fun _ => rfl)) ?_
      refine KT.nil ?_
      refine thenK_n ?_
      refine KC.cond rfl (fun hc52 => ?_) (fun hc52 => ?_)
      · skip
        exact absurd (of_decide_eq_true hc52) (by omega)
      · skip
        replace hc52 := of_decide_eq_false hc52
        refine KC.skip ?_
        refine thenK_n ?_
        refine KC.seq ?_
        refine KC.ordersM Try.mixed (m := 4) rfl (T' := fun e τ k => e = .normal ∧ ∃ p q, p ≠ q ∧ τ[p]? = some ⟨xs (sT (zL hot cold) (cOf part) 0), 0⟩ ∧ τ[q]? = some ⟨bs (uT (cOf part) 0), 0⟩ ∧ ∀ e ∈ ([(0, .d (.sl (ints hot) hot.length cap)), (1, .d d1), (2, .d d2), (7, .d (DI (hot.length + cold.length - bestA hot cold))), (9, .osl p 0 12 1 12 true), (10, .osl q 0 12 1 12 true)] : Kn), Go.Vm.look k e.1 = some e.2) ?_ ?_
        · skip
          refine KA.next (i0 := 0) (r := [1]) (by kernel_rfl) ?_
          refine KAll.cons' ?_ (KAll.cons' ?_ KAll.nil')
          · refine KO.op rfl rfl rfl (K.make (m := 12) rfl rfl (Nat.le_refl _) (by decide) Try.underlying23 Try.one3) ?_
            refine KA.next (i0 := 1) (r := [2]) (by kernel_rfl) ?_
            refine KAll.cons' ?_ (KAll.cons' ?_ KAll.nil')
            · refine KO.op rfl rfl rfl (K.make (m := 12) rfl rfl (Nat.le_refl _) (by decide) Try.underlying67 Try.one4) ?_
              refine KA.next (i0 := 2) (r := []) (by kernel_rfl) ?_
              refine KAll.cons' ?_ KAll.nil'
              · refine KO.op rfl rfl rfl (K.assign rfl) ?_
                refine KA.next (i0 := 3) (r := []) (by kernel_rfl) ?_
                refine KAll.cons' ?_ KAll.nil'
                · refine KO.op rfl rfl rfl (K.assign rfl) ?_
                  exact KA.done (by kernel_rfl) ⟨rfl, 0, 1, by decide, rfl, rfl, by simp [Go.Vm.look, extK, enterK]⟩
            · refine KO.op rfl rfl rfl (K.assign rfl) ?_
              refine KA.next (i0 := 1) (r := []) (by kernel_rfl) ?_
              refine KAll.cons' ?_ KAll.nil'
              · refine KO.op rfl rfl rfl (K.make (m := 12) rfl rfl (Nat.le_refl _) (by decide) Try.underlying67 Try.one4) ?_
                refine KA.next (i0 := 3) (r := []) (by kernel_rfl) ?_
                refine KAll.cons' ?_ KAll.nil'
                · refine KO.op rfl rfl rfl (K.assign rfl) ?_
                  exact KA.done (by kernel_rfl) ⟨rfl, 0, 1, by decide, rfl, rfl, by simp [Go.Vm.look, extK, enterK]⟩
          · refine KO.op rfl rfl rfl (K.make (m := 12) rfl rfl (Nat.le_refl _) (by decide) Try.underlying67 Try.one4) ?_
            refine KA.next (i0 := 0) (r := []) (by kernel_rfl) ?_
            refine KAll.cons' ?_ KAll.nil'
            · refine KO.op rfl rfl rfl (K.make (m := 12) rfl rfl (Nat.le_refl _) (by decide) Try.underlying23 Try.one3) ?_
              refine KA.next (i0 := 2) (r := []) (by kernel_rfl) ?_
              refine KAll.cons' ?_ KAll.nil'
              · refine KO.op rfl rfl rfl (K.assign rfl) ?_
                refine KA.next (i0 := 3) (r := []) (by kernel_rfl) ?_
                refine KAll.cons' ?_ KAll.nil'
                · refine KO.op rfl rfl rfl (K.assign rfl) ?_
                  exact KA.done (by kernel_rfl) ⟨rfl, 1, 0, by decide, rfl, rfl, by simp [Go.Vm.look, extK, enterK]⟩
        rintro e τ k ⟨rfl, p, q, hpq, yA, yB, hlk⟩
        replace hlk : ∀ e ∈ ([(0, .d (.sl (ints hot) hot.length cap)), (1, .d d1), (2, .d d2), (7, .d (DI (hot.length + cold.length - bestA hot cold))), (9, .osl p 0 12 1 12 true), (10, .osl q 0 12 1 12 true)] : Kn), Go.Vm.look k e.1 = some e.2 := hlk
        refine thenK_n ?_
        refine KC.seq ?_
        refine KC.seq ?_
        refine KC.weaken ?_ hlk
        refine KC.region ?_
        refine KT.step rfl rfl (K.move rfl) ?_
        refine KT.step rfl rfl (K.callO (xs := [.d (.sl (ints hot) hot.length cap)]) rfl plainTry_42 (clone42_own (by omega) (by omega))) ?_
        have lp := lt_of_get yA
        have lq := lt_of_get yB
        replace yA := get_left (B := [(⟨[], 0⟩ : VObj), ⟨xs hot, 0⟩]) yA
        replace yB := get_left (B := [(⟨[], 0⟩ : VObj), ⟨xs hot, 0⟩]) yB
        refine KT.step rfl rfl (K.move rfl) ?_
        refine KT.appD rfl rfl rfl rfl hc (.sl (cells := xs hot) (by rw [List.getElem?_append_right (by omega)]; simp) (by rw [xs_len])) (by rw [xs_len]; omega) Try.underlying23 Try.one3 fun σ2 x2 o2 k2 w2 => ?_
        rw [if_neg hcne, show xs hot ++ cold.map (fun v => XV.d (DI v)) = xs (hot ++ cold) by simp [xs]] at o2
        obtain ⟨id, rfl, yL⟩ := ownE_xs o2
        have hid : p ≠ id ∧ q ≠ id := by
          rcases w2 with h | ⟨j, h, h2⟩
          · cases h; omega
          · cases h; rw [List.length_append] at h2; omega
        replace yA := (k2 p (fun h => by cases h; omega) (by rw [List.length_append]; omega)).trans yA
        replace yB := (k2 q (fun h => by cases h; omega) (by rw [List.length_append]; omega)).trans yB
        refine KT.step rfl rfl (K.lenO rfl Try.underlying23) ?_
        rw [List.length_append]
        refine KT.step rfl rfl (K.move rfl) ?_
        refine KT.nil ?_
        refine thenK_n ?_
        refine KC.block ?_
        refine KC.loop (fun z : List VObj × Nat => z.1) (fun z => [(0, .d (.sl (ints hot) hot.length cap)), (1, .d d1), (2, .d d2), (7, .d (DI (hot.length + cold.length - bestA hot cold))), (9, .osl p 0 12 1 12 true), (10, .osl q 0 12 1 12 true), (58, .osl id 0 (hot ++ cold).length 1 (hot ++ cold).length false), (59, .d (DI (hot.length + cold.length : Nat))), (60, .d (DI (z.2 : Nat)))]) (fun z => z.2 ≤ (hot.length + cold.length) ∧ z.1[p]? = some ⟨xs (sT (zL hot cold) (cOf part) z.2), 0⟩ ∧ z.1[q]? = some ⟨bs (uT (cOf part) z.2), 0⟩ ∧ z.1[id]? = some ⟨xs (hot ++ cold), 0⟩) (fun z => (hot.length + cold.length) - z.2) (_, 0) ⟨Nat.zero_le _, yA, yB, yL⟩ rfl (by simp [Go.Vm.look, extK]) ?_
        clear yA yB yL
        intro z hz
        obtain ⟨σ0, i⟩ := z
        obtain ⟨hi, yA, yB, yL⟩ := hz
        simp only at hi yA yB yL ⊢
        refine KC.seq ?_
        refine KC.region ?_
        refine KT.step rfl rfl (K.lss rfl rfl) ?_
        refine KT.nil ?_
        refine thenK_n ?_
        refine KC.seq ?_
        refine KC.cond rfl (fun hc61 => ?_) (fun hc61 => ?_)
        · skip
          replace hc61 := of_decide_eq_true hc61
          have hin : i < (hot.length + cold.length) := by omega
          have hci := cOf_lt part i
          have hab := app_bd b1 b2 hin
          have hsb := sT_bd (c := (cOf part)) (i := i) (j := cOf part i) hzb (by omega)
          refine KC.skip ?_
          refine thenK_n ?_
          refine KC.seq ?_
          refine KC.block ?_
          refine KC.seq ?_
          refine KC.region ?_
          refine KT.step rfl rfl (K.move rfl) ?_
          refine KT.step rfl rfl (K.idxO (m := i) rfl rfl (by rw [List.length_append]; omega) Try.underlying23 Try.size3) ?_
          refine KT.step rfl rfl (K.loadO rfl yL (by simp) (xs_getD (by rw [List.length_append]; omega)) Try.agg3) ?_
          refine KT.step rfl rfl (K.assign rfl) ?_
          refine KT.step rfl rfl (K.assign rfl) ?_
          refine KT.nil ?_
          refine thenK_n ?_
          refine KC.seq ?_
          refine KC.region ?_
          refine KT.step rfl rfl (K.assign rfl) ?_
          refine KT.nil ?_
          refine thenK_n ?_
          refine KC.seq ?_
          refine KC.seq ?_
          refine KC.region ?_
          refine KT.step rfl rfl (K.move rfl) ?_
          refine KT.step rfl rfl (K.move rfl) ?_
          refine KT.step rfl rfl (K.len rfl hp Try.underlying23) ?_
          refine KT.step rfl rfl (K.lss rfl rfl) ?_
          refine KT.nil ?_
          refine thenK_n ?_
          refine KC.cond rfl (fun hc68 => ?_) (fun hc68 => ?_)
          · skip
            replace hc68 := of_decide_eq_true hc68
            have hip : i < part.length := by omega
            refine KC.region ?_
            refine KT.step rfl rfl (K.move rfl) ?_
            refine KT.step rfl rfl (K.move rfl) ?_
            refine KT.idxI (m := i) rfl rfl rfl hp rfl hip Try.underlying23 Try.size3 fun cs71 => ?_
            refine KT.step rfl rfl (K.load rfl Try.agg3) ?_
            refine KT.step rfl rfl (K.conv rfl Try.underlying3 Try.underlying66 (wrapUI _)) ?_
            refine KT.step rfl rfl (K.rem rfl rfl (by omega) (show Int.tmod ((part[i] % 2 ^ 64).toNat : Int) 12 = (((part[i] % 2 ^ 64).toNat % 12 : Nat) : Int) from tmodN _ 12)) ?_
            refine KT.step rfl rfl (K.conv rfl Try.underlying66 Try.underlying3 (show IntKind.i64.wrap (((part[i] % 2 ^ 64).toNat % 12 : Nat) : Int) = ((cOf part i : Nat) : Int) from by rw [cOf_in hip]; exact wrapN (by omega))) ?_
            refine KT.step rfl rfl (K.assign rfl) ?_
            refine KT.nil ?_
            refine thenK_n ?_
            refine KC.seq ?_
            refine KC.region ?_
            refine KT.step rfl rfl (K.move rfl) ?_
            refine KT.step rfl rfl (K.move rfl) ?_
            refine KT.step rfl rfl (K.idxO (m := cOf part i) rfl rfl hci Try.underlying67 Try.size4) ?_
            refine KT.storeG rfl rfl rfl rfl yB (by rw [bs_len, uT_len]; omega) rfl rfl Try.size4 fun σ3 l3 u3 v3 => ?_
            replace yA := (v3 p (by omega)).trans yA
            replace yL := (v3 id (by omega)).trans yL
            replace yB := u3.trans (congrArg (fun c => some (VObj.mk c 0)) (bs_set.trans (congrArg bs uT_set)))
            refine KT.nil ?_
            refine thenK_n ?_
            refine KC.seq ?_
            refine KC.region ?_
            refine KT.step rfl rfl (K.move rfl) ?_
            refine KT.step rfl rfl (K.move rfl) ?_
            refine KT.step rfl rfl (K.len rfl hh Try.underlying23) ?_
            refine KT.step rfl rfl (K.lss rfl rfl) ?_
            refine KT.nil ?_
            refine thenK_n ?_
            refine KC.cond rfl (fun hc82 => ?_) (fun hc82 => ?_)
            · skip
              replace hc82 := of_decide_eq_true hc82
              refine KC.region ?_
              refine KT.step rfl rfl (K.move rfl) ?_
              refine KT.step rfl rfl (K.move rfl) ?_
              refine KT.step rfl rfl (K.idxO (m := cOf part i) rfl rfl hci Try.underlying23 Try.size3) ?_
              refine KT.step rfl rfl (K.loadO rfl yA (by simp) (xs_getD (by rw [sT_len]; exact hci)) Try.agg3) ?_
              refine KT.step rfl rfl (K.move rfl) ?_
              refine KT.step rfl rfl (K.add rfl rfl (wrap_id (by omega))) ?_
              refine KT.step rfl rfl (K.idxO (m := cOf part i) rfl rfl hci Try.underlying23 Try.size3) ?_
              refine KT.storeG rfl rfl rfl rfl yA (by rw [xs_len, sT_len]; omega) rfl rfl Try.size3 fun σ4 l4 u4 v4 => ?_
              replace yB := (v4 q (by omega)).trans yB
              replace yL := (v4 id (by omega)).trans yL
              replace yA := u4.trans (congrArg (fun c => some (VObj.mk c 0)) (xs_set.trans (congrArg xs (up_hot hci (by omega)))))
              refine KT.nil ?_
              refine blockK_n ?_
              refine thenK_n ?_
              refine KC.region ?_
              refine KT.step rfl rfl (K.add rfl rfl (wrap_id (by omega))) ?_
              refine KT.step rfl rfl (K.move rfl) ?_
              refine KT.nil ?_
              refine thenK_n ?_
              exact ⟨(_, i + 1), ⟨by simp only; omega, yA, yB, yL⟩, by simp only; omega, rfl, by simp [Go.Vm.look, extK]⟩
            · skip
              replace hc82 := of_decide_eq_false hc82
              refine KC.region ?_
              refine KT.step rfl rfl (K.move rfl) ?_
              refine KT.step rfl rfl (K.move rfl) ?_
              refine KT.step rfl rfl (K.idxO (m := cOf part i) rfl rfl hci Try.underlying23 Try.size3) ?_
              refine KT.step rfl rfl (K.loadO rfl yA (by simp) (xs_getD (by rw [sT_len]; exact hci)) Try.agg3) ?_
              refine KT.step rfl rfl (K.move rfl) ?_
              refine KT.step rfl rfl (K.sub rfl rfl (wrap_id (by omega))) ?_
              refine KT.step rfl rfl (K.idxO (m := cOf part i) rfl rfl hci Try.underlying23 Try.size3) ?_
              refine KT.storeG rfl rfl rfl rfl yA (by rw [xs_len, sT_len]; omega) rfl rfl Try.size3 fun σ4 l4 u4 v4 => ?_
              replace yB := (v4 q (by omega)).trans yB
              replace yL := (v4 id (by omega)).trans yL
              replace yA := u4.trans (congrArg (fun c => some (VObj.mk c 0)) (xs_set.trans (congrArg xs (up_cold hci (by omega) hin))))
              refine KT.nil ?_
              refine blockK_n ?_
              refine thenK_n ?_
              refine KC.region ?_
              refine KT.step rfl rfl (K.add rfl rfl (wrap_id (by omega))) ?_
              refine KT.step rfl rfl (K.move rfl) ?_
              refine KT.nil ?_
              refine thenK_n ?_
              exact ⟨(_, i + 1), ⟨by simp only; omega, yA, yB, yL⟩, by simp only; omega, rfl, by simp [Go.Vm.look, extK]⟩
          · skip
            replace hc68 := of_decide_eq_false hc68
            refine KC.skip ?_
            refine thenK_n ?_
            refine KC.seq ?_
            refine KC.region ?_
            refine KT.step rfl rfl (K.move rfl) ?_
            refine KT.step rfl rfl (K.move rfl) ?_
            refine KT.step rfl rfl (K.idxO (m := cOf part i) rfl (congrArg (fun z => some (XV.d (DI z))) (show (0 : Int) = ((cOf part i : Nat) : Int) by rw [cOf_out (by omega)]; rfl)) hci Try.underlying67 Try.size4) ?_
            refine KT.storeG rfl rfl rfl rfl yB (by rw [bs_len, uT_len]; omega) rfl rfl Try.size4 fun σ3 l3 u3 v3 => ?_
            replace yA := (v3 p (by omega)).trans yA
            replace yL := (v3 id (by omega)).trans yL
            replace yB := u3.trans (congrArg (fun c => some (VObj.mk c 0)) (bs_set.trans (congrArg bs uT_set)))
            refine KT.nil ?_
            refine thenK_n ?_
            refine KC.seq ?_
            refine KC.region ?_
            refine KT.step rfl rfl (K.move rfl) ?_
            refine KT.step rfl rfl (K.move rfl) ?_
            refine KT.step rfl rfl (K.len rfl hh Try.underlying23) ?_
            refine KT.step rfl rfl (K.lss rfl rfl) ?_
            refine KT.nil ?_
            refine thenK_n ?_
            refine KC.cond rfl (fun hc82 => ?_) (fun hc82 => ?_)
            · skip
              replace hc82 := of_decide_eq_true hc82
              refine KC.region ?_
              refine KT.step rfl rfl (K.move rfl) ?_
              refine KT.step rfl rfl (K.move rfl) ?_
              refine KT.step rfl rfl (K.idxO (m := cOf part i) rfl (congrArg (fun z => some (XV.d (DI z))) (show (0 : Int) = ((cOf part i : Nat) : Int) by rw [cOf_out (by omega)]; rfl)) hci Try.underlying23 Try.size3) ?_
              refine KT.step rfl rfl (K.loadO rfl yA (by simp) (xs_getD (by rw [sT_len]; exact hci)) Try.agg3) ?_
              refine KT.step rfl rfl (K.move rfl) ?_
              refine KT.step rfl rfl (K.add rfl rfl (wrap_id (by omega))) ?_
              refine KT.step rfl rfl (K.idxO (m := cOf part i) rfl (congrArg (fun z => some (XV.d (DI z))) (show (0 : Int) = ((cOf part i : Nat) : Int) by rw [cOf_out (by omega)]; rfl)) hci Try.underlying23 Try.size3) ?_
              refine KT.storeG rfl rfl rfl rfl yA (by rw [xs_len, sT_len]; omega) rfl rfl Try.size3 fun σ4 l4 u4 v4 => ?_
              replace yB := (v4 q (by omega)).trans yB
              replace yL := (v4 id (by omega)).trans yL
              replace yA := u4.trans (congrArg (fun c => some (VObj.mk c 0)) (xs_set.trans (congrArg xs (up_hot hci (by omega)))))
              refine KT.nil ?_
              refine blockK_n ?_
              refine thenK_n ?_
              refine KC.region ?_
              refine KT.step rfl rfl (K.add rfl rfl (wrap_id (by omega))) ?_
              refine KT.step rfl rfl (K.move rfl) ?_
              refine KT.nil ?_
              refine thenK_n ?_
              exact ⟨(_, i + 1), ⟨by simp only; omega, yA, yB, yL⟩, by simp only; omega, rfl, by simp [Go.Vm.look, extK]⟩
            · skip
              replace hc82 := of_decide_eq_false hc82
              refine KC.region ?_
              refine KT.step rfl rfl (K.move rfl) ?_
              refine KT.step rfl rfl (K.move rfl) ?_
              refine KT.step rfl rfl (K.idxO (m := cOf part i) rfl (congrArg (fun z => some (XV.d (DI z))) (show (0 : Int) = ((cOf part i : Nat) : Int) by rw [cOf_out (by omega)]; rfl)) hci Try.underlying23 Try.size3) ?_
              refine KT.step rfl rfl (K.loadO rfl yA (by simp) (xs_getD (by rw [sT_len]; exact hci)) Try.agg3) ?_
              refine KT.step rfl rfl (K.move rfl) ?_
              refine KT.step rfl rfl (K.sub rfl rfl (wrap_id (by omega))) ?_
              refine KT.step rfl rfl (K.idxO (m := cOf part i) rfl (congrArg (fun z => some (XV.d (DI z))) (show (0 : Int) = ((cOf part i : Nat) : Int) by rw [cOf_out (by omega)]; rfl)) hci Try.underlying23 Try.size3) ?_
              refine KT.storeG rfl rfl rfl rfl yA (by rw [xs_len, sT_len]; omega) rfl rfl Try.size3 fun σ4 l4 u4 v4 => ?_
              replace yB := (v4 q (by omega)).trans yB
              replace yL := (v4 id (by omega)).trans yL
              replace yA := u4.trans (congrArg (fun c => some (VObj.mk c 0)) (xs_set.trans (congrArg xs (up_cold hci (by omega) hin))))
              refine KT.nil ?_
              refine blockK_n ?_
              refine thenK_n ?_
              refine KC.region ?_
              refine KT.step rfl rfl (K.add rfl rfl (wrap_id (by omega))) ?_
              refine KT.step rfl rfl (K.move rfl) ?_
              refine KT.nil ?_
              refine thenK_n ?_
              exact ⟨(_, i + 1), ⟨by simp only; omega, yA, yB, yL⟩, by simp only; omega, rfl, by simp [Go.Vm.look, extK]⟩
        · skip
          replace hc61 := of_decide_eq_false hc61
          obtain rfl : i = (zL hot cold).length := by omega
          refine KC.exit ?_
          refine thenK_x ?_
          refine thenK_x ?_
          refine blockK_e ?_
          refine thenK_n ?_
          refine KC.seq ?_
          refine KC.region ?_
          refine KT.step rfl rfl (K.assign rfl) ?_
          refine KT.nil ?_
          refine thenK_n ?_
          refine KC.seq ?_
          refine KC.seq ?_
          refine KC.region ?_
          refine KT.step rfl rfl (K.move rfl) ?_
          refine KT.step rfl rfl (K.lenO rfl Try.underlying23) ?_
          refine KT.step rfl rfl (K.move rfl) ?_
          refine KT.nil ?_
          refine thenK_n ?_
          refine KC.block ?_
          refine KC.loop (fun _ : Nat => σ0) (fun k => [(0, .d (.sl (ints hot) hot.length cap)), (1, .d d1), (2, .d d2), (7, .d (DI (hot.length + cold.length - bestA hot cold))), (9, .osl p 0 12 1 12 true), (10, .osl q 0 12 1 12 true), (14, .d (DI (prt (cOf part) (zL hot cold).length k : Nat))), (98, .osl p 0 12 1 12 true), (99, .d (DI 12)), (100, .d (DI (k : Nat)))]) (fun k => k ≤ 12 ∧ ∀ j, j < k → (sT (zL hot cold) (cOf part) (zL hot cold).length).getD j 0 = 0) (fun k => 12 - k) 0 ⟨Nat.zero_le _, fun j hj => absurd hj (Nat.not_lt_zero _)⟩ rfl (by simp [Go.Vm.look, extK, prt_zero]) ?_
          intro k hk
          obtain ⟨hk, hall⟩ := hk
          have hcl2 : prt (cOf part) (zL hot cold).length k ≤ k := cntU_lek _
          refine KC.seq ?_
          refine KC.region ?_
          refine KT.step rfl rfl (K.lss rfl rfl) ?_
          refine KT.nil ?_
          refine thenK_n ?_
          refine KC.seq ?_
          refine KC.cond rfl (fun hc101 => ?_) (fun hc101 => ?_)
          · skip
            replace hc101 := of_decide_eq_true hc101
            have hk12 : k < 12 := by omega
            refine KC.skip ?_
            refine thenK_n ?_
            refine KC.seq ?_
            refine KC.block ?_
            refine KC.seq ?_
            refine KC.region ?_
            refine KT.step rfl rfl (K.move rfl) ?_
            refine KT.step rfl rfl (K.idxO (m := k) rfl rfl (by omega) Try.underlying23 Try.size3) ?_
            refine KT.step rfl rfl (K.loadO rfl yA (by simp) (xs_getD (by rw [sT_len]; omega)) Try.agg3) ?_
            refine KT.step rfl rfl (K.assign rfl) ?_
            refine KT.step rfl rfl (K.assign rfl) ?_
            refine KT.nil ?_
            refine thenK_n ?_
            refine KC.seq ?_
            refine KC.seq ?_
            refine KC.region ?_
            refine KT.step rfl rfl (K.move rfl) ?_
            refine KT.step rfl rfl (K.neq rfl rfl) ?_
            refine KT.nil ?_
            refine thenK_n ?_
            refine KC.cond rfl (fun hc106 => ?_) (fun hc106 => ?_)
            · skip
              replace hc106 := of_decide_eq_true hc106
              refine KC.seq ?_
              refine KC.region ?_
              refine KT.step rfl rfl (K.call0 plainTry_20 (awake20)) ?_
              refine KT.step rfl rfl (K.assign rfl) ?_
              refine KT.nil ?_
              refine thenK_n ?_
              refine KC.ret ?_
              refine thenK_r ?_
              refine blockK_r ?_
              refine thenK_r ?_
              refine thenK_r ?_
              refine blockK_r ?_
              refine thenK_r ?_
              exact ⟨.inl rfl, _, rfl, fin_b rfl⟩
            · skip
              replace hc106 := of_decide_eq_false hc106
              refine KC.skip ?_
              refine thenK_n ?_
              refine KC.seq ?_
              refine KC.region ?_
              refine KT.step rfl rfl (K.move rfl) ?_
              refine KT.step rfl rfl (K.move rfl) ?_
              refine KT.step rfl rfl (K.idxO (m := k) rfl rfl (by omega) Try.underlying67 Try.size4) ?_
              refine KT.step rfl rfl (K.loadO rfl yB (by simp) (bs_getD (by rw [uT_len]; omega)) Try.agg4) ?_
              refine KT.nil ?_
              refine thenK_n ?_
              refine KC.cond rfl (fun hc111 => ?_) (fun hc111 => ?_)
              · skip
                refine KC.region ?_
                refine KT.step rfl rfl (K.move rfl) ?_
                refine KT.step rfl rfl (K.add rfl rfl (wrap_id (by omega))) ?_
                refine KT.step rfl rfl (K.assign rfl) ?_
                refine KT.nil ?_
                refine blockK_n ?_
                refine thenK_n ?_
                refine KC.region ?_
                refine KT.step rfl rfl (K.add rfl rfl (wrap_id (by omega))) ?_
                refine KT.step rfl rfl (K.move rfl) ?_
                refine KT.nil ?_
                refine thenK_n ?_
                have hz0 : (sT (zL hot cold) (cOf part) (zL hot cold).length).getD k 0 = 0 := Classical.not_not.1 hc106
                exact ⟨k + 1, ⟨by omega, fun j hj => (Nat.lt_succ_iff_lt_or_eq.1 hj).elim (hall j) (fun e => e ▸ hz0)⟩, by omega, rfl, by simp [Go.Vm.look, extK, prt_yes hc111]⟩
              · skip
                refine KC.skip ?_
                refine blockK_n ?_
                refine thenK_n ?_
                refine KC.region ?_
                refine KT.step rfl rfl (K.add rfl rfl (wrap_id (by omega))) ?_
                refine KT.step rfl rfl (K.move rfl) ?_
                refine KT.nil ?_
                refine thenK_n ?_
                have hz0 : (sT (zL hot cold) (cOf part) (zL hot cold).length).getD k 0 = 0 := Classical.not_not.1 hc106
                exact ⟨k + 1, ⟨by omega, fun j hj => (Nat.lt_succ_iff_lt_or_eq.1 hj).elim (hall j) (fun e => e ▸ hz0)⟩, by omega, rfl, by simp [Go.Vm.look, extK, prt_no hc111]⟩
          · skip
            replace hc101 := of_decide_eq_false hc101
            obtain rfl : k = 12 := by omega
            have hpl2 : (prt (cOf part) (zL hot cold).length 12 : Int) ≤ bestA hot cold := parts_le (c := (cOf part)) hall
            refine KC.exit ?_
            refine thenK_x ?_
            refine thenK_x ?_
            refine blockK_e ?_
            refine thenK_n ?_
            refine KC.seq ?_
            refine KC.region ?_
            refine KT.step rfl rfl (K.move rfl) ?_
            refine KT.step rfl rfl (K.move rfl) ?_
            refine KT.step rfl rfl (K.len rfl hh Try.underlying23) ?_
            refine KT.step rfl rfl (K.move rfl) ?_
            refine KT.step rfl rfl (K.len rfl hc Try.underlying23) ?_
            refine KT.step rfl rfl (K.add rfl rfl (wrap_id (by omega))) ?_
            refine KT.step rfl rfl (K.move rfl) ?_
            refine KT.step rfl rfl (K.sub rfl rfl (wrap_id (by omega))) ?_
            refine KT.step rfl rfl (K.leq rfl rfl) ?_
            refine KT.step rfl rfl (K.move rfl) ?_
            refine KT.bcase (fun hb124 => ?_) (fun hb124 => ?_)
            · skip
              replace hb124 := of_decide_eq_true hb124
              refine KT.step rfl rfl (K.call0 plainTry_20 (awake20)) ?_
              refine KT.step rfl rfl (K.pick rfl (fun _ => rfl) (fun h => by cases h)) ?_
              refine KT.step rfl rfl (K.assign rfl) ?_
              refine KT.nil ?_
              refine thenK_n ?_
              refine KC.ret ?_
              exact ⟨.inl rfl, _, rfl, fin_b rfl⟩
            · skip
              exact absurd (of_decide_eq_false hb124) (by omega)
end Go.Proofs.Ytmfbakipfobaeaa

