import Derived.Test.YtmfbakipfobaeaaHtG
import Derived.Test.YtmfbakipfobaeaaHtPq
/-
  Heat: loads for matching.
-/
namespace Go.Proofs.Ytmfbakipfobaeaa
open Go.Vm Go.Ht
theorem plainTry_74 : plainFn Try.prog 74 = true := by kernel_rfl
theorem plainTry_57 : plainFn Try.prog 57 = true := by kernel_rfl
theorem plainTry_39 : plainFn Try.prog 39 = true := by kernel_rfl
theorem plainTry_42 : plainFn Try.prog 42 = true := by kernel_rfl
theorem plainTry_81 : plainFn Try.prog 81 = true := by kernel_rfl
theorem plainTry_75 : plainFn Try.prog 75 = true := by kernel_rfl
theorem Try.agg92 : isAggT Try.prog 92 = some true := by kernel_rfl
theorem Try.size92 : sizeT Try.prog 92 = some 2 := by kernel_rfl
theorem Try.zero92 : zeroT Try.prog 92 = some (.agg #[.slice none 0 0, .slice none 0 0]) := by kernel_rfl
theorem Try.fld92_0 : fieldT Try.prog 92 0 = some { name := "parts", type := 23, offset := 0, embedded := false, tag := "", pkgPath := "massecuite/heat", byteOffset := 0 } := by kernel_rfl
theorem Try.fld92_1 : fieldT Try.prog 92 1 = some { name := "out", type := 23, offset := 1, embedded := false, tag := "", pkgPath := "massecuite/heat", byteOffset := 24 } := by kernel_rfl
theorem Try.places92 : (match Try.prog.underlying 92 with | some (.struct fs) => placesT Try.prog fs | _ => none) = some #[(0, 1), (1, 1)] := by kernel_rfl
theorem Try.agg95 : isAggT Try.prog 95 = some true := by kernel_rfl
theorem Try.size95 : sizeT Try.prog 95 = some 2 := by kernel_rfl
theorem Try.zero95 : zeroT Try.prog 95 = some (.agg #[.slice none 0 0, .slice none 0 0]) := by kernel_rfl
theorem Try.agg96 : isAggT Try.prog 96 = some true := by kernel_rfl
theorem Try.size96 : sizeT Try.prog 96 = some 3 := by kernel_rfl
theorem Try.zero96 : zeroT Try.prog 96 = some (.agg #[.int .i64 0, .int .i64 0, .int .i64 0]) := by kernel_rfl
theorem Try.agg56 : isAggT Try.prog 56 = some false := by kernel_rfl
theorem Try.size56 : sizeT Try.prog 56 = some 1 := by kernel_rfl
theorem Try.one56 : OneT Try.prog 56 (.slice none 0 0) := ⟨by kernel_rfl, by kernel_rfl, rfl, of_decide_eq_true (by kernel_rfl)⟩
theorem Try.agg118 : isAggT Try.prog 118 = some false := by kernel_rfl
theorem Try.size118 : sizeT Try.prog 118 = some 1 := by kernel_rfl
theorem Try.one118 : OneT Try.prog 118 (.slice none 0 0) := ⟨by kernel_rfl, by kernel_rfl, rfl, of_decide_eq_true (by kernel_rfl)⟩
set_option maxRecDepth 10000 in
theorem total74 {d : DV} {xs : List Int} (hd : Ints d xs) (hl : xs.length ≤ 9223372036854775807) : DeepCall Try.prog 74 [d] (.tup [DI (if okL xs then xs.sum else 0), DB (okL xs)]) := by
  refine deepCall_K 5 Try.func74 rfl (Nat.le_of_ble_eq_true rfl) fun M W0 => ?_
  refine KC.seq ?_
  refine KC.region ?_
  refine KT.step rfl rfl (K.assign rfl) ?_
  refine KT.step rfl rfl (K.assign rfl) ?_
  refine KT.nil ?_
  refine thenK_n ?_
  refine KC.seq ?_
  refine KC.seq ?_
  refine KC.region ?_
  refine KT.step rfl rfl (K.move rfl) ?_
  refine KT.step rfl rfl (K.len rfl hd Try.underlying23) ?_
  refine KT.step rfl rfl (K.call3 rfl rfl rfl plainTry_46 (in46 _ _ _)) ?_
  refine KT.step rfl rfl (K.not rfl) ?_
  refine KT.nil ?_
  refine thenK_n ?_
  refine KC.cond rfl (fun hc10 => ?_) (fun hc10 => ?_)
  · skip
    refine KC.seq ?_
    refine KC.region ?_
    refine KT.step rfl rfl (K.assign rfl) ?_
    refine KT.step rfl rfl (K.assign rfl) ?_
    refine KT.nil ?_
    refine thenK_n ?_
    refine KC.ret ?_
    refine thenK_r ?_
    have hno : okL xs = false := by
      rw [← Bool.not_eq_true, okL_iff]
      simp at hc10; omega
    rw [hno]
    exact ⟨.inl rfl, _, rfl, rfl⟩
  · skip
    have hg1 : 1 ≤ xs.length ∧ xs.length ≤ 6 := by simp at hc10; omega
    refine KC.skip ?_
    refine thenK_n ?_
    refine KC.seq ?_
    refine KC.region ?_
    refine KT.step rfl rfl (K.assign rfl) ?_
    refine KT.nil ?_
    refine thenK_n ?_
    refine KC.seq ?_
    refine KC.seq ?_
    refine KC.region ?_
    refine KT.step rfl rfl (K.move rfl) ?_
    refine KT.step rfl rfl (K.len rfl hd Try.underlying23) ?_
    refine KT.step rfl rfl (K.move rfl) ?_
    refine KT.nil ?_
    refine thenK_n ?_
    refine KC.block ?_
    refine KC.loop (fun _ : Nat => []) (fun i => [(0, .d d), (4, .d (DI (xs.take i).sum)), (11, .d d), (12, .d (DI (xs.length : Nat))), (13, .d (DI (i : Nat)))]) (fun i => i ≤ xs.length ∧ ∀ x ∈ xs.take i, 1 ≤ x ∧ x ≤ 1000) (fun i => xs.length - i) 0 ⟨Nat.zero_le _, fun x hx => by simp at hx⟩ rfl (by simp [Go.Vm.look, extK, enterK]) ?_
    intro i hi
    obtain ⟨hi, hall⟩ := hi
    refine KC.seq ?_
    refine KC.region ?_
    refine KT.step rfl rfl (K.lss rfl rfl) ?_
    refine KT.nil ?_
    refine thenK_n ?_
    refine KC.seq ?_
    refine KC.cond rfl (fun hc14 => ?_) (fun hc14 => ?_)
    · skip
      replace hc14 := of_decide_eq_true hc14
      have hil : i < xs.length := by omega
      have hb := sumL_take hall hg1.2
      refine KC.skip ?_
      refine thenK_n ?_
      refine KC.seq ?_
      refine KC.block ?_
      refine KC.seq ?_
      refine KC.region ?_
      refine KT.idxI (m := i) rfl rfl rfl hd rfl hil Try.underlying23 Try.size3 fun cs15 => ?_
      refine KT.step rfl rfl (K.load rfl Try.agg3) ?_
      refine KT.step rfl rfl (K.assign rfl) ?_
      refine KT.nil ?_
      refine thenK_n ?_
      refine KC.seq ?_
      refine KC.seq ?_
      refine KC.region ?_
      refine KT.step rfl rfl (K.move rfl) ?_
      refine KT.step rfl rfl (K.call3 rfl rfl rfl plainTry_46 (in46 _ _ _)) ?_
      refine KT.step rfl rfl (K.not rfl) ?_
      refine KT.nil ?_
      refine thenK_n ?_
      refine KC.cond rfl (fun hc19 => ?_) (fun hc19 => ?_)
      · skip
        refine KC.seq ?_
        refine KC.region ?_
        refine KT.step rfl rfl (K.assign rfl) ?_
        refine KT.step rfl rfl (K.assign rfl) ?_
        refine KT.nil ?_
        refine thenK_n ?_
        refine KC.ret ?_
        refine thenK_r ?_
        refine blockK_r ?_
        refine thenK_r ?_
        refine thenK_r ?_
        refine blockK_r ?_
        refine thenK_r ?_
        have hno : okL xs = false := by
          rw [← Bool.not_eq_true, okL_iff]
          rintro ⟨_, _, h⟩
          have := h _ (List.getElem_mem hil)
          simp at hc19; omega
        rw [hno]
        exact ⟨.inl rfl, _, rfl, rfl⟩
      · skip
        have hx : 1 ≤ xs[i] ∧ xs[i] ≤ 1000 := by simpa using hc19
        refine KC.skip ?_
        refine thenK_n ?_
        refine KC.region ?_
        refine KT.step rfl rfl (K.move rfl) ?_
        refine KT.step rfl rfl (K.move rfl) ?_
        refine KT.step rfl rfl (K.add rfl rfl (wrap_id (by omega))) ?_
        refine KT.step rfl rfl (K.assign rfl) ?_
        refine KT.nil ?_
        refine blockK_n ?_
        refine thenK_n ?_
        refine KC.region ?_
        refine KT.step rfl rfl (K.add rfl rfl (wrap_id (by omega))) ?_
        refine KT.step rfl rfl (K.move rfl) ?_
        refine KT.nil ?_
        refine thenK_n ?_
        have hst := sum_snoc hil
        refine ⟨i + 1, ⟨by omega, all_snoc hil hall hx⟩, by omega, rfl, by simp [Go.Vm.look, extK, hst]⟩
    · skip
      replace hc14 := of_decide_eq_false hc14
      refine KC.exit ?_
      refine thenK_x ?_
      refine thenK_x ?_
      refine blockK_e ?_
      refine thenK_n ?_
      refine KC.seq ?_
      refine KC.region ?_
      refine KT.step rfl rfl (K.move rfl) ?_
      refine KT.step rfl rfl (K.assign rfl) ?_
      refine KT.step rfl rfl (K.assign rfl) ?_
      refine KT.nil ?_
      refine thenK_n ?_
      refine KC.ret ?_
      rw [List.take_of_length_le (by omega)] at hall
      have hyes : okL xs = true := okL_iff.2 ⟨hg1.1, hg1.2, hall⟩
      rw [hyes, List.take_of_length_le (l := xs) (i := i) (by omega)]
      exact ⟨.inl rfl, _, rfl, rfl⟩
set_option maxRecDepth 10000 in
theorem validLoads57 {d0 d1 : DV} {hot cold : List Int} (hh : Ints d0 hot) (hc : Ints d1 cold) (hhl : hot.length ≤ 9223372036854775807) (hcl : cold.length ≤ 9223372036854775807) : DeepCall Try.prog 57 [d0, d1] (DB (okM hot cold)) := by
  refine deepCall_K 5 Try.func57 rfl (Nat.le_of_ble_eq_true rfl) fun M W0 => ?_
  refine KC.seq ?_
  refine KC.region ?_
  refine KT.step rfl rfl (K.assign rfl) ?_
  refine KT.nil ?_
  refine thenK_n ?_
  refine KC.seq ?_
  refine KC.region ?_
  refine KT.step rfl rfl (K.move rfl) ?_
  refine KT.step rfl rfl (K.call1 rfl plainTry_74 (total74 hh hhl)) ?_
  refine KT.step rfl rfl (K.move rfl) ?_
  refine KT.step rfl rfl (K.extract rfl rfl) ?_
  refine KT.step rfl rfl (K.extract rfl rfl) ?_
  refine KT.step rfl rfl (K.assign rfl) ?_
  refine KT.step rfl rfl (K.assign rfl) ?_
  refine KT.nil ?_
  refine thenK_n ?_
  refine KC.seq ?_
  refine KC.region ?_
  refine KT.step rfl rfl (K.move rfl) ?_
  refine KT.step rfl rfl (K.call1 rfl plainTry_74 (total74 hc hcl)) ?_
  refine KT.step rfl rfl (K.move rfl) ?_
  refine KT.step rfl rfl (K.extract rfl rfl) ?_
  refine KT.step rfl rfl (K.extract rfl rfl) ?_
  refine KT.step rfl rfl (K.assign rfl) ?_
  refine KT.step rfl rfl (K.assign rfl) ?_
  refine KT.nil ?_
  refine thenK_n ?_
  refine KC.seq ?_
  refine KC.region ?_
  refine KT.step rfl rfl (K.move rfl) ?_
  refine KT.step rfl rfl (K.move rfl) ?_
  refine KT.bcase (fun hb20 => ?_) (fun hb20 => ?_)
  · skip
    refine KT.step rfl rfl (K.move rfl) ?_
    refine KT.step rfl rfl (K.pick rfl (fun _ => rfl) (fun h => by cases h)) ?_
    refine KT.step rfl rfl (K.move rfl) ?_
    refine KT.bcase (fun hb23 => ?_) (fun hb23 => ?_)
    · skip
      refine KT.step rfl rfl (K.move rfl) ?_
      refine KT.step rfl rfl (K.move rfl) ?_
      refine KT.step rfl rfl (K.eql rfl rfl) ?_
      refine KT.step rfl rfl (K.pick rfl (fun _ => rfl) (fun h => by cases h)) ?_
      refine KT.step rfl rfl (K.assign rfl) ?_
      refine KT.nil ?_
      refine thenK_n ?_
      refine KC.ret ?_
      have e : okM hot cold = decide ((if okL hot = true then hot.sum else 0) = (if okL cold = true then cold.sum else 0)) := by rw [okM_eq, hb20, hb23]; simp
      rw [e]
      exact ⟨.inl rfl, _, rfl, rfl⟩
    · skip
      refine KT.skip rfl rfl ?_
      refine KT.skip rfl rfl ?_
      refine KT.skip rfl rfl ?_
      refine KT.step rfl rfl (K.pick rfl (fun h => by cases h) (fun _ => rfl)) ?_
      refine KT.step rfl rfl (K.assign rfl) ?_
      refine KT.nil ?_
      refine thenK_n ?_
      refine KC.ret ?_
      have e : okM hot cold = false := by rw [okM_eq, hb20, hb23]; rfl
      rw [e]
      exact ⟨.inl rfl, _, rfl, rfl⟩
  · skip
    refine KT.skip rfl rfl ?_
    refine KT.step rfl rfl (K.pick rfl (fun h => by cases h) (fun _ => rfl)) ?_
    refine KT.step rfl rfl (K.move rfl) ?_
    refine KT.skip rfl rfl ?_
    refine KT.skip rfl rfl ?_
    refine KT.skip rfl rfl ?_
    refine KT.step rfl rfl (K.pick rfl (fun h => by cases h) (fun _ => rfl)) ?_
    refine KT.step rfl rfl (K.assign rfl) ?_
    refine KT.nil ?_
    refine thenK_n ?_
    refine KC.ret ?_
    have e : okM hot cold = false := by rw [okM_eq, hb20]; rfl
    rw [e]
    exact ⟨.inl rfl, _, rfl, rfl⟩
theorem build95_2 {a b : DV} (ha : SlD a) (hb : SlD b) : opBuild Try.prog 95 [(0, .d a), (1, .d b)] = some (.d (.agg [a, b])) := by
  have e := aggX_d [a, b]
  simp only [List.map_cons, List.map_nil] at e
  simp [opBuild, Try.zero95, Try.underlying95, Try.size23, fillP, ha.cells, hb.cells, splice, Value.cells, e]
theorem ints_sl {d : DV} {l : List Int} (h : Ints d l) : SlD d := SlD.of h
/-- Both sides, by their number. -/
def zO (hot cold : List Int) (k : Nat) : List Int := if k = 0 then hot else cold
def dO (d0 d1 : DV) (k : Nat) : DV := if k = 0 then d0 else d1
theorem dO_ints {d0 d1 : DV} {hot cold : List Int} (hh : Ints d0 hot) (hc : Ints d1 cold) (k : Nat) : Ints (dO d0 d1 k) (zO hot cold k) := by
  unfold dO zO; split <;> assumption
def pO (hot cold : List Int) (k i : Nat) : Int := if k = 0 then (hot.take i).sum else hot.sum - (cold.take i).sum
theorem zO0 {hot cold : List Int} : zO hot cold 0 = hot := rfl
theorem zO1 {hot cold : List Int} {k : Nat} (h : ¬ k = 0) : zO hot cold k = cold := if_neg h
theorem okM_side {hot cold : List Int} (h : okM hot cold = true) (k : Nat) : okL (zO hot cold k) = true := by
  obtain ⟨h1, h2, h3, h4, h5, h6, h7⟩ := okM_iff.1 h
  unfold zO; split
  · exact okL_iff.2 ⟨h1, h2, h5⟩
  · exact okL_iff.2 ⟨h3, h4, h6⟩
theorem pO_succ {hot cold : List Int} {k i : Nat} (hi : i < (zO hot cold k).length) : pO hot cold k (i + 1) = if k = 0 then pO hot cold k i + (zO hot cold k)[i] else pO hot cold k i - (zO hot cold k)[i] := by
  unfold pO
  by_cases h : k = 0
  · subst h
    simp only [if_true]
    exact sum_snoc hi
  · have e := zO1 (hot := hot) (cold := cold) h
    simp only [if_neg h, e] at hi ⊢
    rw [sum_snoc hi]; omega
theorem pO_bd {hot cold : List Int} {k i : Nat} (h1 : 1 ≤ k → okL hot = true) (hl : (zO hot cold k).length ≤ 6) (h : ∀ x ∈ (zO hot cold k).take i, 1 ≤ x ∧ x ≤ 1000) : -6000 ≤ pO hot cold k i ∧ pO hot cold k i ≤ 6000 := by
  have hb := sumL_take h hl
  unfold pO
  by_cases hk : k = 0
  · subst hk
    rw [zO0] at hb
    simp only [if_true]; omega
  · rw [zO1 hk] at hb
    obtain ⟨q1, q2, q3⟩ := okL_iff.1 (h1 (by omega))
    have := sumL_bd q3
    rw [if_neg hk]; omega
theorem pO_zero {hot cold : List Int} {k : Nat} (hk : k < 2) : (if k = 0 then 0 else pO hot cold (k - 1) (zO hot cold (k - 1)).length) = pO hot cold k 0 := by
  rcases (show k = 0 ∨ k = 1 by omega) with rfl | rfl <;> simp [pO, zO]
theorem pO_end {hot cold : List Int} (h1 : okL hot = true) (h2 : okL cold = true) : (decide (pO hot cold 1 (zO hot cold 1).length = 0)) = okM hot cold := by
  rw [okM_eq, h1, h2, zO1 (by decide)]
  unfold pO
  simp only [Bool.true_and, List.take_length, if_neg (show ¬ 1 = 0 by decide)]
  rw [decide_eq_decide]; omega
set_option maxHeartbeats 1000000 in
set_option maxRecDepth 10000 in
theorem rloads39 {d0 d1 : DV} {hot cold : List Int} (hh : Ints d0 hot) (hc : Ints d1 cold) (_ : hot.length ≤ 9223372036854775807) (_ : cold.length ≤ 9223372036854775807) : DeepCall Try.prog 39 [d0, d1] (DB (okM hot cold)) := by
  refine deepCall_K 5 Try.func39 rfl (Nat.le_of_ble_eq_true rfl) fun M W0 => ?_
  refine KC.seq ?_
  refine KC.region ?_
  refine KT.step rfl rfl (K.assign rfl) ?_
  refine KT.nil ?_
  refine thenK_n ?_
  refine KC.seq ?_
  refine KC.region ?_
  refine KT.step rfl rfl (K.assign rfl) ?_
  refine KT.nil ?_
  refine thenK_n ?_
  refine KC.seq ?_
  refine KC.seq ?_
  refine KC.region ?_
  refine KT.step rfl rfl (K.move rfl) ?_
  refine KT.step rfl rfl (K.move rfl) ?_
  refine KT.step rfl rfl (K.buildS rfl (build95_2 (ints_sl hh) (ints_sl hc))) ?_
  refine KT.step rfl rfl (K.move rfl) ?_
  refine KT.nil ?_
  refine thenK_n ?_
  refine KC.block ?_
  refine KC.loop (fun _ : Nat => []) (fun k => [(5, .d (DI (if k = 0 then 0 else pO hot cold (k - 1) (zO hot cold (k - 1)).length))), (12, .d (.agg [d0, d1])), (13, .d (DI (k : Nat)))]) (fun k => k ≤ 2 ∧ (1 ≤ k → okL hot = true) ∧ (2 ≤ k → okL cold = true)) (fun k => 2 - k) 0 ⟨Nat.zero_le _, fun h => absurd h (by decide), fun h => absurd h (by decide)⟩ rfl (by simp [Go.Vm.look, extK, enterK]) ?_
  intro k hk
  obtain ⟨hk, ho1, ho2⟩ := hk
  refine KC.seq ?_
  refine KC.region ?_
  refine KT.step rfl rfl (K.lss rfl rfl) ?_
  refine KT.nil ?_
  refine thenK_n ?_
  refine KC.seq ?_
  refine KC.cond rfl (fun hc14 => ?_) (fun hc14 => ?_)
  · skip
    replace hc14 := of_decide_eq_true hc14
    have hk2 : k < 2 := by omega
    refine KC.skip ?_
    refine thenK_n ?_
    refine KC.seq ?_
    refine KC.block ?_
    refine KC.seq ?_
    refine KC.region ?_
    refine KT.step rfl rfl (K.move rfl) ?_
    refine KT.step rfl rfl (K.indexA (m := k) (k := 1) (d := dO d0 d1 k) rfl rfl (by omega) Try.underlying95 Try.size23 Try.agg23 (by unfold dO; rcases (show k = 0 ∨ k = 1 by omega) with rfl | rfl <;> rfl)) ?_
    refine KT.step rfl rfl (K.assign rfl) ?_
    refine KT.step rfl rfl (K.assign rfl) ?_
    refine KT.nil ?_
    refine thenK_n ?_
    refine KC.seq ?_
    refine KC.seq ?_
    refine KC.region ?_
    refine KT.step rfl rfl (K.move rfl) ?_
    refine KT.step rfl rfl (K.len rfl (dO_ints hh hc k) Try.underlying23) ?_
    refine KT.step rfl rfl (K.lss rfl rfl) ?_
    refine KT.step rfl rfl (K.move rfl) ?_
    refine KT.bcase (fun hb20 => ?_) (fun hb20 => ?_)
    · skip
      replace hb20 := of_decide_eq_true hb20
      refine KT.skip rfl rfl ?_
      refine KT.skip rfl rfl ?_
      refine KT.skip rfl rfl ?_
      refine KT.step rfl rfl (K.pick rfl (fun _ => rfl) (fun h => by cases h)) ?_
      refine KT.nil ?_
      refine thenK_n ?_
      refine KC.cond rfl (fun hc24 => ?_) (fun hc24 => ?_)
      · skip
        refine KC.seq ?_
        refine KC.region ?_
        refine KT.step rfl rfl (K.assign rfl) ?_
        refine KT.nil ?_
        refine thenK_n ?_
        refine KC.ret ?_
        refine thenK_r ?_
        refine blockK_r ?_
        refine thenK_r ?_
        refine thenK_r ?_
        refine blockK_r ?_
        refine thenK_r ?_
        have hno : okM hot cold = false := by
          rw [← Bool.not_eq_true]
          intro h
          have q := okL_iff.1 (okM_side h k)
          (try simp at hb20); omega
        rw [hno]
        exact ⟨.inl rfl, _, rfl, rfl⟩
      · cases hc24
    · skip
      replace hb20 := of_decide_eq_false hb20
      refine KT.step rfl rfl (K.move rfl) ?_
      refine KT.step rfl rfl (K.len rfl (dO_ints hh hc k) Try.underlying23) ?_
      refine KT.step rfl rfl (K.gtr rfl rfl) ?_
      refine KT.step rfl rfl (K.pick rfl (fun h => by cases h) (fun _ => rfl)) ?_
      refine KT.nil ?_
      refine thenK_n ?_
      refine KC.cond rfl (fun hc24 => ?_) (fun hc24 => ?_)
      · skip
        replace hc24 := of_decide_eq_true hc24
        refine KC.seq ?_
        refine KC.region ?_
        refine KT.step rfl rfl (K.assign rfl) ?_
        refine KT.nil ?_
        refine thenK_n ?_
        refine KC.ret ?_
        refine thenK_r ?_
        refine blockK_r ?_
        refine thenK_r ?_
        refine thenK_r ?_
        refine blockK_r ?_
        refine thenK_r ?_
        have hno : okM hot cold = false := by
          rw [← Bool.not_eq_true]
          intro h
          have q := okL_iff.1 (okM_side h k)
          (try simp at hc24); omega
        rw [hno]
        exact ⟨.inl rfl, _, rfl, rfl⟩
      · skip
        replace hc24 := of_decide_eq_false hc24
        have hlen : 1 ≤ (zO hot cold k).length ∧ (zO hot cold k).length ≤ 6 := by omega
        refine KC.skip ?_
        refine thenK_n ?_
        refine KC.seq ?_
        refine KC.region ?_
        refine KT.step rfl rfl (K.move rfl) ?_
        refine KT.step rfl rfl (K.len rfl (dO_ints hh hc k) Try.underlying23) ?_
        refine KT.step rfl rfl (K.move rfl) ?_
        refine KT.nil ?_
        refine thenK_n ?_
        refine KC.block ?_
        refine KC.loop (fun _ : Nat => []) (fun i => [(5, .d (DI (pO hot cold k i))), (6, .d (DI (k : Nat))), (7, .d (dO d0 d1 k)), (12, .d (.agg [d0, d1])), (13, .d (DI (k : Nat))), (25, .d (dO d0 d1 k)), (26, .d (DI ((zO hot cold k).length : Nat))), (27, .d (DI (i : Nat)))]) (fun i => i ≤ (zO hot cold k).length ∧ ∀ x ∈ (zO hot cold k).take i, 1 ≤ x ∧ x ≤ 1000) (fun i => (zO hot cold k).length - i) 0 ⟨Nat.zero_le _, fun x hx => by simp at hx⟩ rfl (by simp [Go.Vm.look, extK, pO_zero hk2]) ?_
        intro i hi
        obtain ⟨hi, hall⟩ := hi
        refine KC.seq ?_
        refine KC.region ?_
        refine KT.step rfl rfl (K.lss rfl rfl) ?_
        refine KT.nil ?_
        refine thenK_n ?_
        refine KC.seq ?_
        refine KC.cond rfl (fun hc28 => ?_) (fun hc28 => ?_)
        · skip
          replace hc28 := of_decide_eq_true hc28
          have hil : i < (zO hot cold k).length := by omega
          refine KC.skip ?_
          refine thenK_n ?_
          refine KC.seq ?_
          refine KC.block ?_
          refine KC.seq ?_
          refine KC.region ?_
          refine KT.idxI (m := i) rfl rfl rfl (dO_ints hh hc k) rfl hil Try.underlying23 Try.size3 fun cs29 => ?_
          refine KT.step rfl rfl (K.load rfl Try.agg3) ?_
          refine KT.step rfl rfl (K.assign rfl) ?_
          refine KT.nil ?_
          refine thenK_n ?_
          refine KC.seq ?_
          refine KC.seq ?_
          refine KC.region ?_
          refine KT.step rfl rfl (K.move rfl) ?_
          refine KT.step rfl rfl (K.lss rfl rfl) ?_
          refine KT.step rfl rfl (K.move rfl) ?_
          refine KT.bcase (fun hb33 => ?_) (fun hb33 => ?_)
          · skip
            replace hb33 := of_decide_eq_true hb33
            refine KT.skip rfl rfl ?_
            refine KT.skip rfl rfl ?_
            refine KT.step rfl rfl (K.pick rfl (fun _ => rfl) (fun h => by cases h)) ?_
            refine KT.nil ?_
            refine thenK_n ?_
            refine KC.cond rfl (fun hc36 => ?_) (fun hc36 => ?_)
            · skip
              refine KC.seq ?_
              refine KC.region ?_
              refine KT.step rfl rfl (K.assign rfl) ?_
              refine KT.nil ?_
              refine thenK_n ?_
              refine KC.ret ?_
              refine thenK_r ?_
              refine blockK_r ?_
              refine thenK_r ?_
              refine thenK_r ?_
              refine blockK_r ?_
              refine blockK_r ?_
              refine thenK_r ?_
              refine thenK_r ?_
              refine blockK_r ?_
              refine thenK_r ?_
              have hno : okM hot cold = false := by
                rw [← Bool.not_eq_true]
                intro h
                have q := okL_iff.1 (okM_side h k)
                have := q.2.2 _ (List.getElem_mem hil); (try simp at hb33); omega
              rw [hno]
              exact ⟨.inl rfl, _, rfl, rfl⟩
            · cases hc36
          · skip
            replace hb33 := of_decide_eq_false hb33
            refine KT.step rfl rfl (K.move rfl) ?_
            refine KT.step rfl rfl (K.gtr rfl rfl) ?_
            refine KT.step rfl rfl (K.pick rfl (fun h => by cases h) (fun _ => rfl)) ?_
            refine KT.nil ?_
            refine thenK_n ?_
            refine KC.cond rfl (fun hc36 => ?_) (fun hc36 => ?_)
            · skip
              replace hc36 := of_decide_eq_true hc36
              refine KC.seq ?_
              refine KC.region ?_
              refine KT.step rfl rfl (K.assign rfl) ?_
              refine KT.nil ?_
              refine thenK_n ?_
              refine KC.ret ?_
              refine thenK_r ?_
              refine blockK_r ?_
              refine thenK_r ?_
              refine thenK_r ?_
              refine blockK_r ?_
              refine blockK_r ?_
              refine thenK_r ?_
              refine thenK_r ?_
              refine blockK_r ?_
              refine thenK_r ?_
              have hno : okM hot cold = false := by
                rw [← Bool.not_eq_true]
                intro h
                have q := okL_iff.1 (okM_side h k)
                have := q.2.2 _ (List.getElem_mem hil); (try simp at hc36); omega
              rw [hno]
              exact ⟨.inl rfl, _, rfl, rfl⟩
            · skip
              replace hc36 := of_decide_eq_false hc36
              have hx : 1 ≤ (zO hot cold k)[i] ∧ (zO hot cold k)[i] ≤ 1000 := by omega
              have hps := pO_bd ho1 hlen.2 hall
              refine KC.skip ?_
              refine thenK_n ?_
              refine KC.seq ?_
              refine KC.region ?_
              refine KT.step rfl rfl (K.move rfl) ?_
              refine KT.step rfl rfl (K.eql rfl rfl) ?_
              refine KT.nil ?_
              refine thenK_n ?_
              refine KC.cond rfl (fun hc38 => ?_) (fun hc38 => ?_)
              · skip
                replace hc38 := of_decide_eq_true hc38
                have hc38' : k = 0 := by omega
                refine KC.region ?_
                refine KT.step rfl rfl (K.move rfl) ?_
                refine KT.step rfl rfl (K.move rfl) ?_
                refine KT.step rfl rfl (K.add rfl rfl (wrap_id (by omega))) ?_
                refine KT.step rfl rfl (K.assign rfl) ?_
                refine KT.nil ?_
                refine blockK_n ?_
                refine thenK_n ?_
                refine KC.region ?_
                refine KT.step rfl rfl (K.add rfl rfl (wrap_id (by omega))) ?_
                refine KT.step rfl rfl (K.move rfl) ?_
                refine KT.nil ?_
                refine thenK_n ?_
                have hst := pO_succ hil
                rw [if_pos hc38'] at hst
                refine ⟨i + 1, ⟨by omega, all_snoc hil hall hx⟩, by omega, rfl, by simp [Go.Vm.look, extK, hst]⟩
              · skip
                replace hc38 := of_decide_eq_false hc38
                have hc38' : ¬ k = 0 := by omega
                refine KC.region ?_
                refine KT.step rfl rfl (K.move rfl) ?_
                refine KT.step rfl rfl (K.move rfl) ?_
                refine KT.step rfl rfl (K.sub rfl rfl (wrap_id (by omega))) ?_
                refine KT.step rfl rfl (K.assign rfl) ?_
                refine KT.nil ?_
                refine blockK_n ?_
                refine thenK_n ?_
                refine KC.region ?_
                refine KT.step rfl rfl (K.add rfl rfl (wrap_id (by omega))) ?_
                refine KT.step rfl rfl (K.move rfl) ?_
                refine KT.nil ?_
                refine thenK_n ?_
                have hst := pO_succ hil
                rw [if_neg hc38'] at hst
                refine ⟨i + 1, ⟨by omega, all_snoc hil hall hx⟩, by omega, rfl, by simp [Go.Vm.look, extK, hst]⟩
        · skip
          replace hc28 := of_decide_eq_false hc28
          refine KC.exit ?_
          refine thenK_x ?_
          refine thenK_x ?_
          refine blockK_e ?_
          refine blockK_n ?_
          refine thenK_n ?_
          refine KC.region ?_
          refine KT.step rfl rfl (K.add rfl rfl (wrap_id (by omega))) ?_
          refine KT.step rfl rfl (K.move rfl) ?_
          refine KT.nil ?_
          refine thenK_n ?_
          obtain rfl : i = (zO hot cold k).length := by omega
          rw [List.take_length] at hall
          have hside : okL (zO hot cold k) = true := okL_iff.2 ⟨hlen.1, hlen.2, hall⟩
          refine ⟨k + 1, ⟨by omega, fun _ => ?_, fun h2 => ?_⟩, by omega, rfl, by simp [Go.Vm.look, extK]⟩
          · by_cases h0 : k = 0
            · subst h0; exact hside
            · exact ho1 (by omega)
          · rw [zO1 (by omega)] at hside; exact hside
  · skip
    replace hc14 := of_decide_eq_false hc14
    obtain rfl : k = 2 := by omega
    refine KC.exit ?_
    refine thenK_x ?_
    refine thenK_x ?_
    refine blockK_e ?_
    refine thenK_n ?_
    refine KC.seq ?_
    refine KC.region ?_
    refine KT.step rfl rfl (K.move rfl) ?_
    refine KT.step rfl rfl (K.eql rfl rfl) ?_
    refine KT.step rfl rfl (K.assign rfl) ?_
    refine KT.nil ?_
    refine thenK_n ?_
    refine KC.ret ?_
    rw [← pO_end (ho1 (by omega)) (ho2 (by omega))]
    exact ⟨.inl rfl, _, rfl, rfl⟩
end Go.Proofs.Ytmfbakipfobaeaa

