import Derived.Test.YtmfbakipfobaeaaHtGu
import Derived.Test.YtmfbakipfobaeaaHtA
/-
  Heat: slices.Reverse, Compact, Min.
-/
namespace Go.Proofs.Ytmfbakipfobaeaa
open Go.Vm Go.Ht
theorem plainTry_64 : plainFn Try.prog 64 = true := by kernel_rfl
theorem plainTry_65 : plainFn Try.prog 65 = true := by kernel_rfl
theorem plainTry_67 : plainFn Try.prog 67 = true := by kernel_rfl
theorem plainTry_63 : plainFn Try.prog 63 = true := by kernel_rfl
set_option maxRecDepth 10000 in
theorem reverse64 {σ : List VObj} {id lo : Nat} {ex : Bool} {zs : List Int} (ho : σ[id]? = some ⟨xs zs, 0⟩) (hn : zs.length ≤ 1000000) : OwnCall Try.prog 64 σ [.osl id 0 zs.length 1 lo ex] (σ.set id ⟨xs zs.reverse, 0⟩) (.tup []) := by
  refine ownCall_K Try.func64 rfl (Nat.le_of_ble_eq_true rfl) fun M W0 => ?_
  refine KC.seq ?_
  refine KC.region ?_
  refine KT.step rfl rfl (K.move rfl) ?_
  refine KT.step rfl rfl (K.lenO rfl Try.underlying23) ?_
  refine KT.step rfl rfl (K.sub rfl rfl (wrap_id (by omega))) ?_
  refine KT.step rfl rfl (K.assign rfl) ?_
  refine KT.step rfl rfl (K.assign rfl) ?_
  refine KT.nil ?_
  refine thenK_n ?_
  refine KC.block ?_
  have h0 : σ = σ.set id ⟨xs (revS zs 0), 0⟩ := by rw [revS_zero, set_same ho]
  refine KC.loop (fun k : Nat => σ.set id ⟨xs (revS zs k), 0⟩) (fun k => [(0, .osl id 0 zs.length 1 lo ex), (2, .d (DI (k : Nat))), (3, .d (DI ((zs.length : Int) - 1 - k)))]) (fun k => 2 * k ≤ zs.length) (fun k => zs.length - k) 0 (Nat.zero_le _) h0 (by simp [Go.Vm.look, extK, enterK]) ?_
  intro k hk
  refine KC.seq ?_
  refine KC.seq ?_
  refine KC.region ?_
  refine KT.step rfl rfl (K.move rfl) ?_
  refine KT.step rfl rfl (K.move rfl) ?_
  refine KT.step rfl rfl (K.lss rfl rfl) ?_
  refine KT.nil ?_
  refine thenK_n ?_
  refine KC.cond rfl (fun hc9 => ?_) (fun hc9 => ?_)
  · skip
    replace hc9 := of_decide_eq_true hc9
    refine KC.skip ?_
    refine thenK_n ?_
    refine KC.seq ?_
    refine KC.block ?_
    refine KC.draw Try.mixed ?_
    refine KT.step rfl rfl (K.move rfl) ?_
    refine KT.step rfl rfl (K.move rfl) ?_
    refine KT.step rfl rfl (K.move rfl) ?_
    refine KT.step rfl rfl (K.move rfl) ?_
    refine KT.step rfl rfl (K.move rfl) ?_
    refine KT.step rfl rfl (K.move rfl) ?_
    refine KT.step rfl rfl (K.idxO (m := zs.length - 1 - k) rfl (congrArg (fun z => some (XV.d (DI z))) (show (zs.length : Int) - 1 - (k : Int) = ((zs.length - 1 - k : Nat) : Int) by omega)) (by omega) Try.underlying23 Try.size3) ?_
    refine KT.step rfl rfl (K.loadO rfl (List.getElem?_set_self (lt_of_get ho)) (by simp) (rev_load (i := zs.length - 1 - k) (by omega) (by omega)) Try.agg3) ?_
    refine KT.step rfl rfl (K.move rfl) ?_
    refine KT.step rfl rfl (K.move rfl) ?_
    refine KT.step rfl rfl (K.idxO (m := k) rfl rfl (by omega) Try.underlying23 Try.size3) ?_
    refine KT.step rfl rfl (K.loadO rfl (List.getElem?_set_self (lt_of_get ho)) (by simp) (rev_load (i := k) (by omega) (by omega)) Try.agg3) ?_
    refine KT.step rfl rfl (K.idxO (m := k) rfl rfl (by omega) Try.underlying23 Try.size3) ?_
    refine KT.step rfl rfl (K.storeO rfl rfl (List.getElem?_set_self (lt_of_get ho)) (by rw [xs_len, revS_len]; omega) rfl rfl Try.size3) ?_
    refine KT.step rfl rfl (K.idxO (m := zs.length - 1 - k) rfl (congrArg (fun z => some (XV.d (DI z))) (show (zs.length : Int) - 1 - (k : Int) = ((zs.length - 1 - k : Nat) : Int) by omega)) (by omega) Try.underlying23 Try.size3) ?_
    refine KT.step rfl rfl (K.storeO rfl rfl (List.getElem?_set_self (by rw [List.length_set]; exact lt_of_get ho)) (by rw [xs_set, xs_len, List.length_set, revS_len]; omega) rfl rfl Try.size3) ?_
    refine KT.nil ?_
    refine ⟨by kernel_rfl, ?_⟩
    refine blockK_n ?_
    refine thenK_n ?_
    refine KC.region ?_
    refine KT.step rfl rfl (K.move rfl) ?_
    refine KT.step rfl rfl (K.add rfl rfl (wrap_id (by omega))) ?_
    refine KT.step rfl rfl (K.move rfl) ?_
    refine KT.step rfl rfl (K.sub rfl rfl (wrap_id (by omega))) ?_
    refine KT.step rfl rfl (K.assign rfl) ?_
    refine KT.step rfl rfl (K.assign rfl) ?_
    refine KT.nil ?_
    refine thenK_n ?_
    refine ⟨k + 1, by omega, by omega, ?_, by simp [Go.Vm.look, extK]; omega⟩
    rw [List.set_set, List.set_set, xs_set, xs_set, revS_succ (by omega)]
  · skip
    replace hc9 := of_decide_eq_false hc9
    refine KC.exit ?_
    refine thenK_x ?_
    refine thenK_x ?_
    refine blockK_e ?_
    refine ⟨.inr rfl, rfl, ?_⟩
    rw [revS_full (by omega)]
set_option maxRecDepth 10000 in
theorem compact65 {σ : List VObj} {id lo : Nat} {ex : Bool} {zs : List Int} (ho : σ[id]? = some ⟨xs zs, 0⟩) (hlo : zs.length ≤ lo) (hn : zs.length ≤ 1000000) : OwnCall Try.prog 65 σ [.osl id 0 zs.length 1 lo ex] (σ.set id ⟨xs (compact zs ++ List.replicate (zs.length - (compact zs).length) 0), 0⟩) (.osl id 0 (compact zs).length 1 lo ex) := by
  refine ownCall_K Try.func65 rfl (Nat.le_of_ble_eq_true rfl) fun M W0 => ?_
  refine KC.seq ?_
  refine KC.region ?_
  refine KT.step rfl rfl (K.assign rfl) ?_
  refine KT.nil ?_
  refine thenK_n ?_
  refine KC.seq ?_
  refine KC.seq ?_
  refine KC.region ?_
  refine KT.step rfl rfl (K.move rfl) ?_
  refine KT.step rfl rfl (K.lenO rfl Try.underlying23) ?_
  refine KT.step rfl rfl (K.lss rfl rfl) ?_
  refine KT.nil ?_
  refine thenK_n ?_
  refine KC.cond rfl (fun hc8 => ?_) (fun hc8 => ?_)
  · skip
    replace hc8 := of_decide_eq_true hc8
    refine KC.seq ?_
    refine KC.region ?_
    refine KT.step rfl rfl (K.move rfl) ?_
    refine KT.step rfl rfl (K.assign rfl) ?_
    refine KT.nil ?_
    refine thenK_n ?_
    refine KC.ret ?_
    refine thenK_r ?_
    refine ⟨.inl rfl, ?_, ?_⟩
    · rw [compact_short (by omega)]; rfl
    · rw [compact_short (by omega), Nat.sub_self, List.replicate_zero, List.append_nil, Go.Vm.set_same ho]
  · skip
    replace hc8 := of_decide_eq_false hc8
    refine KC.skip ?_
    refine thenK_n ?_
    refine KC.seq ?_
    refine KC.seq ?_
    refine KC.region ?_
    refine KT.step rfl rfl (K.assign rfl) ?_
    refine KT.nil ?_
    refine thenK_n ?_
    refine KC.block ?_
    refine KC.loop (fun _ : Nat => σ) (fun k => [(0, .osl id 0 zs.length 1 lo ex), (3, .d (DI (k : Nat)))]) (fun k => 1 ≤ k ∧ k ≤ zs.length ∧ compact (zs.take k) = zs.take k) (fun k => zs.length - k) 1 ⟨Nat.le_refl _, by omega, by rw [compact_short (by simp; omega)]⟩ rfl (by simp [Go.Vm.look, extK, enterK]) ?_
    intro k hk
    obtain ⟨hk1, hk, hck⟩ := hk
    refine KC.seq ?_
    refine KC.seq ?_
    refine KC.region ?_
    refine KT.step rfl rfl (K.move rfl) ?_
    refine KT.step rfl rfl (K.move rfl) ?_
    refine KT.step rfl rfl (K.lenO rfl Try.underlying23) ?_
    refine KT.step rfl rfl (K.lss rfl rfl) ?_
    refine KT.nil ?_
    refine thenK_n ?_
    refine KC.cond rfl (fun hc13 => ?_) (fun hc13 => ?_)
    · skip
      replace hc13 := of_decide_eq_true hc13
      refine KC.skip ?_
      refine thenK_n ?_
      refine KC.seq ?_
      refine KC.block ?_
      refine KC.seq ?_
      refine KC.draw Try.mixed ?_
      refine KT.step rfl rfl (K.move rfl) ?_
      refine KT.step rfl rfl (K.move rfl) ?_
      refine KT.step rfl rfl (K.idxO (m := k) rfl rfl (by omega) Try.underlying23 Try.size3) ?_
      refine KT.step rfl rfl (K.loadO rfl ho (by simp) (xs_get (by omega)) Try.agg3) ?_
      refine KT.step rfl rfl (K.move rfl) ?_
      refine KT.step rfl rfl (K.move rfl) ?_
      refine KT.step rfl rfl (K.sub rfl rfl (wrap_id (by omega))) ?_
      refine KT.step rfl rfl (K.idxO (m := k - 1) rfl (congrArg (fun z => some (XV.d (DI z))) (show (k : Int) - 1 = ((k - 1 : Nat) : Int) by omega)) (by omega) Try.underlying23 Try.size3) ?_
      refine KT.step rfl rfl (K.loadO rfl ho (by simp) (xs_get (by omega)) Try.agg3) ?_
      refine KT.step rfl rfl (K.eql rfl rfl) ?_
      refine KT.nil ?_
      refine ⟨by kernel_rfl, ?_⟩
      refine thenK_n ?_
      refine KC.cond rfl (fun hc25 => ?_) (fun hc25 => ?_)
      · skip
        replace hc25 := of_decide_eq_true hc25
        have hc1 : compact (zs.take (k + 1)) = compact (zs.take k) := by rw [compact_step (by omega) hk1, if_pos hc25.symm]
        refine KC.seq ?_
        refine KC.region ?_
        refine KT.step rfl rfl (K.move rfl) ?_
        refine KT.step rfl rfl (K.move rfl) ?_
        refine KT.step rfl rfl (K.sliceOF (m := k) rfl rfl (by omega) hlo (.inl (by omega)) Try.underlying23 Try.size3) ?_
        refine KT.step rfl rfl (K.assign rfl) ?_
        refine KT.nil ?_
        refine thenK_n ?_
        refine KC.seq ?_
        refine KC.seq ?_
        refine KC.region ?_
        refine KT.step rfl rfl (K.assign rfl) ?_
        refine KT.nil ?_
        refine thenK_n ?_
        refine KC.block ?_
        have hs0 : σ = σ.set id ⟨xs (compS zs (k + 1)), 0⟩ := by rw [compS_step_no (by omega) hk1 hc25.symm, compS_start hk hck, Go.Vm.set_same ho]
        have hl0 : (compact (zs.take (k + 1))).length = k := by rw [hc1, hck, List.length_take]; omega
        refine KC.loop (fun q : Nat => σ.set id ⟨xs (compS zs (k + q)), 0⟩) (fun q => [(0, .osl id 0 zs.length 1 lo ex), (3, .d (DI ((compact (zs.take (k + q))).length : Nat))), (4, .osl id (0 + k) (zs.length - k) 1 (lo - k) ex), (5, .d (DI (q : Nat)))]) (fun q => 1 ≤ q ∧ k + q ≤ zs.length ∧ (compact (zs.take (k + q))).length + 1 ≤ k + q) (fun q => zs.length - q) 1 ⟨Nat.le_refl _, by omega, by omega⟩ hs0 (by simp [Go.Vm.look, extK, hl0]) ?_
        intro q hq
        obtain ⟨hq1, hq, hiq⟩ := hq
        refine KC.seq ?_
        refine KC.seq ?_
        refine KC.region ?_
        refine KT.step rfl rfl (K.move rfl) ?_
        refine KT.step rfl rfl (K.move rfl) ?_
        refine KT.step rfl rfl (K.lenO rfl Try.underlying23) ?_
        refine KT.step rfl rfl (K.lss rfl rfl) ?_
        refine KT.nil ?_
        refine thenK_n ?_
        refine KC.cond rfl (fun hc32 => ?_) (fun hc32 => ?_)
        · skip
          replace hc32 := of_decide_eq_true hc32
          refine KC.skip ?_
          refine thenK_n ?_
          refine KC.seq ?_
          refine KC.block ?_
          refine KC.seq ?_
          refine KC.draw Try.mixed ?_
          refine KT.step rfl rfl (K.move rfl) ?_
          refine KT.step rfl rfl (K.move rfl) ?_
          refine KT.step rfl rfl (K.idxO (m := q) rfl rfl (by omega) Try.underlying23 Try.size3) ?_
          refine KT.step rfl rfl (K.loadO rfl (List.getElem?_set_self (lt_of_get ho)) (by simp) (compS_load (i := k + q) (by omega) (by omega) (by omega)) Try.agg3) ?_
          refine KT.step rfl rfl (K.move rfl) ?_
          refine KT.step rfl rfl (K.move rfl) ?_
          refine KT.step rfl rfl (K.sub rfl rfl (wrap_id (by omega))) ?_
          refine KT.step rfl rfl (K.idxO (m := q - 1) rfl (congrArg (fun z => some (XV.d (DI z))) (show (q : Int) - 1 = ((q - 1 : Nat) : Int) by omega)) (by omega) Try.underlying23 Try.size3) ?_
          refine KT.step rfl rfl (K.loadO rfl (List.getElem?_set_self (lt_of_get ho)) (by simp) (compS_load (i := k + q - 1) (by omega) (by omega) (by omega)) Try.agg3) ?_
          refine KT.step rfl rfl (K.neq rfl rfl) ?_
          refine KT.nil ?_
          refine ⟨by kernel_rfl, ?_⟩
          refine thenK_n ?_
          refine KC.cond rfl (fun hc44 => ?_) (fun hc44 => ?_)
          · skip
            replace hc44 := of_decide_eq_true hc44
            refine KC.seq ?_
            refine KC.region ?_
            refine KT.step rfl rfl (K.move rfl) ?_
            refine KT.step rfl rfl (K.move rfl) ?_
            refine KT.step rfl rfl (K.move rfl) ?_
            refine KT.step rfl rfl (K.move rfl) ?_
            refine KT.step rfl rfl (K.idxO (m := q) rfl rfl (by omega) Try.underlying23 Try.size3) ?_
            refine KT.step rfl rfl (K.loadO rfl (List.getElem?_set_self (lt_of_get ho)) (by simp) (compS_load (i := k + q) (by omega) (by omega) (by omega)) Try.agg3) ?_
            refine KT.step rfl rfl (K.idxO (m := (compact (zs.take (k + q))).length) rfl rfl (by omega) Try.underlying23 Try.size3) ?_
            refine KT.step rfl rfl (K.storeO rfl rfl (List.getElem?_set_self (lt_of_get ho)) (by rw [xs_len, compS_len]; omega) rfl rfl Try.size3) ?_
            refine KT.nil ?_
            refine thenK_n ?_
            refine KC.region ?_
            refine KT.step rfl rfl (K.move rfl) ?_
            refine KT.step rfl rfl (K.add rfl rfl (wrap_id (by omega))) ?_
            refine KT.step rfl rfl (K.assign rfl) ?_
            refine KT.nil ?_
            refine blockK_n ?_
            refine thenK_n ?_
            refine KC.region ?_
            refine KT.step rfl rfl (K.move rfl) ?_
            refine KT.step rfl rfl (K.add rfl rfl (wrap_id (by omega))) ?_
            refine KT.step rfl rfl (K.assign rfl) ?_
            refine KT.nil ?_
            refine thenK_n ?_
            have hstep := compact_step (l := zs) (k := k + q) (by omega) (by omega)
            rw [if_neg (fun e => hc44 e.symm)] at hstep
            have hlen : (compact (zs.take (k + q + 1))).length = (compact (zs.take (k + q))).length + 1 := by rw [hstep]; simp
            refine ⟨q + 1, ⟨by omega, by omega, by rw [← Nat.add_assoc, hlen]; omega⟩, by omega, ?_, by simp [Go.Vm.look, extK, ← Nat.add_assoc, hlen]⟩
            rw [List.set_set, xs_set, compS_step_yes (l := zs) (k := k + q) (by omega) (by omega) (fun e => hc44 e.symm)]; rfl
          · skip
            replace hc44 := of_decide_eq_false hc44
            refine KC.skip ?_
            refine blockK_n ?_
            refine thenK_n ?_
            refine KC.region ?_
            refine KT.step rfl rfl (K.move rfl) ?_
            refine KT.step rfl rfl (K.add rfl rfl (wrap_id (by omega))) ?_
            refine KT.step rfl rfl (K.assign rfl) ?_
            refine KT.nil ?_
            refine thenK_n ?_
            have he : zs[k + q - 1] = zs[k + q] := (Classical.not_not.1 hc44).symm
            have hstep := compact_step (l := zs) (k := k + q) (by omega) (by omega)
            rw [if_pos he] at hstep
            refine ⟨q + 1, ⟨by omega, by omega, by rw [← Nat.add_assoc, hstep]; omega⟩, by omega, ?_, by simp [Go.Vm.look, extK, ← Nat.add_assoc, hstep]⟩
            rw [← Nat.add_assoc, compS_step_no (by omega) (by omega) he]
        · skip
          replace hc32 := of_decide_eq_false hc32
          refine KC.exit ?_
          refine thenK_x ?_
          refine thenK_x ?_
          refine blockK_e ?_
          refine thenK_n ?_
          refine KC.seq ?_
          refine KC.region ?_
          refine KT.step rfl rfl (K.move rfl) ?_
          refine KT.step rfl rfl (K.move rfl) ?_
          refine KT.step rfl rfl (K.sliceOF (m := (compact (zs.take (k + q))).length) rfl rfl (by omega) hlo (.inl (by omega)) Try.underlying23 Try.size3) ?_
          refine KT.step rfl rfl (K.clearI rfl (List.getElem?_set_self (lt_of_get ho)) (by rw [xs_len, compS_len]; omega) (by omega) Try.underlying23 Try.zeroValue3) ?_
          refine KT.nil ?_
          refine thenK_n ?_
          refine KC.seq ?_
          refine KC.region ?_
          refine KT.step rfl rfl (K.move rfl) ?_
          refine KT.step rfl rfl (K.move rfl) ?_
          refine KT.step rfl rfl (K.sliceOT (m := (compact (zs.take (k + q))).length) rfl rfl (by omega) Try.underlying23 Try.size3) ?_
          refine KT.step rfl rfl (K.assign rfl) ?_
          refine KT.nil ?_
          refine thenK_n ?_
          refine KC.ret ?_
          refine blockK_r ?_
          refine thenK_r ?_
          refine thenK_r ?_
          refine blockK_r ?_
          refine thenK_r ?_
          have hkq : k + q = zs.length := by omega
          refine ⟨.inl rfl, ?_, ?_⟩
          · simp only [hkq, List.take_of_length_le (Nat.le_refl zs.length)]; rfl
          · rw [List.set_set]; simp only [hkq, List.take_of_length_le (Nat.le_refl zs.length), compS_end]
      · skip
        replace hc25 := of_decide_eq_false hc25
        refine KC.skip ?_
        refine blockK_n ?_
        refine thenK_n ?_
        refine KC.region ?_
        refine KT.step rfl rfl (K.move rfl) ?_
        refine KT.step rfl rfl (K.add rfl rfl (wrap_id (by omega))) ?_
        refine KT.step rfl rfl (K.assign rfl) ?_
        refine KT.nil ?_
        refine thenK_n ?_
        refine ⟨k + 1, ⟨by omega, by omega, ?_⟩, by omega, rfl, by simp [Go.Vm.look, extK]⟩
        rw [compact_step (by omega) hk1, if_neg (fun e => hc25 e.symm), hck, List.take_succ_eq_append_getElem (by omega)]
    · skip
      replace hc13 := of_decide_eq_false hc13
      refine KC.exit ?_
      refine thenK_x ?_
      refine thenK_x ?_
      refine blockK_e ?_
      refine thenK_n ?_
      refine KC.seq ?_
      refine KC.region ?_
      refine KT.step rfl rfl (K.move rfl) ?_
      refine KT.step rfl rfl (K.assign rfl) ?_
      refine KT.nil ?_
      refine thenK_n ?_
      refine KC.ret ?_
      rw [List.take_of_length_le (by omega)] at hck
      refine ⟨.inl rfl, ?_, ?_⟩
      · rw [hck]; rfl
      · rw [hck, Nat.sub_self, List.replicate_zero, List.append_nil, Go.Vm.set_same ho]
set_option maxRecDepth 10000 in
theorem min67 {d : DV} {l : List Int} (hd : Ints d l) (h1 : 1 ≤ l.length) (hl : l.length ≤ 9223372036854775807) : DeepCall Try.prog 67 [d] (DI (minI l)) := by
  refine deepCall_K 5 Try.func67 rfl (Nat.le_of_ble_eq_true rfl) fun M W0 => ?_
  refine KC.seq ?_
  refine KC.region ?_
  refine KT.step rfl rfl (K.assign rfl) ?_
  refine KT.nil ?_
  refine thenK_n ?_
  refine KC.seq ?_
  refine KC.seq ?_
  refine KC.region ?_
  refine KT.step rfl rfl (K.move rfl) ?_
  refine KT.step rfl rfl (K.len rfl hd Try.underlying23) ?_
  refine KT.step rfl rfl (K.lss rfl rfl) ?_
  refine KT.nil ?_
  refine thenK_n ?_
  refine KC.cond rfl (fun hc7 => ?_) (fun hc7 => ?_)
  · skip
    exact absurd (of_decide_eq_true hc7) (by omega)
  · skip
    replace hc7 := of_decide_eq_false hc7
    refine KC.skip ?_
    refine thenK_n ?_
    refine KC.seq ?_
    refine KC.region ?_
    refine KT.step rfl rfl (K.move rfl) ?_
    refine KT.idxI (m := 0) rfl rfl rfl hd rfl (by omega) Try.underlying23 Try.size3 fun cs10 => ?_
    refine KT.step rfl rfl (K.load rfl Try.agg3) ?_
    refine KT.step rfl rfl (K.assign rfl) ?_
    refine KT.nil ?_
    refine thenK_n ?_
    refine KC.seq ?_
    refine KC.seq ?_
    refine KC.region ?_
    refine KT.step rfl rfl (K.assign rfl) ?_
    refine KT.nil ?_
    refine thenK_n ?_
    refine KC.block ?_
    have hm1 : (l.tail.take 0).foldl min l[0] = l[0] := rfl
    refine KC.loop (fun _ : Nat => []) (fun k => [(0, .d d), (3, .d (DI ((l.tail.take (k - 1)).foldl min l[0]))), (4, .d (DI (k : Nat)))]) (fun k => 1 ≤ k ∧ k ≤ l.length) (fun k => l.length - k) 1 ⟨Nat.le_refl _, h1⟩ rfl (by simp [Go.Vm.look, extK, enterK]) ?_
    intro k hk
    obtain ⟨hk1, hk⟩ := hk
    refine KC.seq ?_
    refine KC.seq ?_
    refine KC.region ?_
    refine KT.step rfl rfl (K.move rfl) ?_
    refine KT.step rfl rfl (K.move rfl) ?_
    refine KT.step rfl rfl (K.len rfl hd Try.underlying23) ?_
    refine KT.step rfl rfl (K.lss rfl rfl) ?_
    refine KT.nil ?_
    refine thenK_n ?_
    refine KC.cond rfl (fun hc15 => ?_) (fun hc15 => ?_)
    · skip
      replace hc15 := of_decide_eq_true hc15
      refine KC.skip ?_
      refine thenK_n ?_
      refine KC.seq ?_
      refine KC.block ?_
      refine KC.region ?_
      refine KT.step rfl rfl (K.move rfl) ?_
      refine KT.step rfl rfl (K.move rfl) ?_
      refine KT.step rfl rfl (K.move rfl) ?_
      refine KT.idxI (m := k) rfl rfl rfl hd rfl (by omega) Try.underlying23 Try.size3 fun cs21 => ?_
      refine KT.step rfl rfl (K.load rfl Try.agg3) ?_
      refine KT.step rfl rfl (K.min2 rfl rfl) ?_
      refine KT.step rfl rfl (K.assign rfl) ?_
      refine KT.nil ?_
      refine blockK_n ?_
      refine thenK_n ?_
      refine KC.region ?_
      refine KT.step rfl rfl (K.move rfl) ?_
      refine KT.step rfl rfl (K.add rfl rfl (wrap_id (by omega))) ?_
      refine KT.step rfl rfl (K.assign rfl) ?_
      refine KT.nil ?_
      refine thenK_n ?_
      have hf := foldl_take (f := min) (l := l.tail) (x := l[0]) (k := k - 1) (by simp; omega)
      have he : l.tail[k - 1]'(by simp; omega) = l[k] := by rw [List.getElem_tail]; congr 1; omega
      rw [he, show k - 1 + 1 = k by omega] at hf
      refine ⟨k + 1, ⟨by omega, by omega⟩, by omega, rfl, by simp [Go.Vm.look, extK, hf]⟩
    · skip
      replace hc15 := of_decide_eq_false hc15
      refine KC.exit ?_
      refine thenK_x ?_
      refine thenK_x ?_
      refine blockK_e ?_
      refine thenK_n ?_
      refine KC.seq ?_
      refine KC.region ?_
      refine KT.step rfl rfl (K.move rfl) ?_
      refine KT.step rfl rfl (K.assign rfl) ?_
      refine KT.nil ?_
      refine thenK_n ?_
      refine KC.ret ?_
      have e : l.tail.take (k - 1) = l.tail := List.take_of_length_le (by simp; omega)
      rw [e]
      exact ⟨.inl rfl, _, rfl, fin_d (congrArg DI (by cases l with | nil => simp at h1 | cons a l => rfl))⟩
end Go.Proofs.Ytmfbakipfobaeaa

