import Derived.Test.YtmfbakipfobaeaaHtK
/-
  Heat: the law of merged streams.
-/
namespace Go.Proofs.Ytmfbakipfobaeaa
open Go.Vm Go.Ht
theorem plainTry_15 : plainFn Try.prog 15 = true := by kernel_rfl
set_option maxRecDepth 10000 in
theorem merges_no {d : DV} {l : List Sm} {gap : Int} (hd : StD d l) (hl : l.length ≤ 9223372036854775807) {k q : Int} (hno : okH l gap = false) : DeepCall Try.prog 15 [d, DI gap, DI k, DI q] (DB true) := by
  have hno2 : okH (l.take 10) gap = false := by rw [okH_take]; exact hno
  have hl2 : (l.take 10).length ≤ 9223372036854775807 := by rw [List.length_take]; omega
  refine deepCall_K 5 Try.func15 rfl (Nat.le_of_ble_eq_true rfl) fun M W0 => ?_
  refine KC.seq ?_
  refine KC.region ?_
  refine KT.step rfl rfl (K.assign rfl) ?_
  refine KT.nil ?_
  refine thenK_n ?_
  refine KC.seq ?_
  refine KC.region ?_
  refine KT.step rfl rfl (K.move rfl) ?_
  refine KT.step rfl rfl (K.call1 rfl plainTry_17 (of17 hd hl)) ?_
  refine KT.step rfl rfl (K.move rfl) ?_
  refine KT.step rfl rfl (K.call2 rfl rfl plainTry_25 (utilities_no (flV_ok (l.take 10)) hl2 hno2)) ?_
  refine KT.step rfl rfl (K.move rfl) ?_
  refine KT.step rfl rfl (K.extract rfl rfl) ?_
  refine KT.step rfl rfl (K.extract rfl rfl) ?_
  refine KT.step rfl rfl (K.extract rfl rfl) ?_
  refine KT.step rfl rfl (K.assign rfl) ?_
  refine KT.step rfl rfl (K.assign rfl) ?_
  refine KT.step rfl rfl (K.assign rfl) ?_
  refine KT.nil ?_
  refine thenK_n ?_
  refine KC.seq ?_
  refine KC.seq ?_
  refine KC.region ?_
  refine KT.step rfl rfl (K.move rfl) ?_
  refine KT.step rfl rfl (K.neq rfl rfl) ?_
  refine KT.step rfl rfl (K.move rfl) ?_
  refine KT.skip rfl rfl ?_
  refine KT.skip rfl rfl ?_
  refine KT.skip rfl rfl ?_
  refine KT.skip rfl rfl ?_
  refine KT.step rfl rfl (K.pick rfl (fun _ => rfl) (fun h => by cases h)) ?_
  refine KT.step rfl rfl (K.move rfl) ?_
  refine KT.skip rfl rfl ?_
  refine KT.skip rfl rfl ?_
  refine KT.skip rfl rfl ?_
  refine KT.step rfl rfl (K.pick rfl (fun _ => rfl) (fun h => by cases h)) ?_
  refine KT.nil ?_
  refine thenK_n ?_
  refine KC.cond rfl (fun hc40 => ?_) (fun hc40 => ?_)
  · skip
    refine KC.seq ?_
    refine KC.region ?_
    refine KT.step rfl rfl (K.move rfl) ?_
    refine KT.step rfl rfl (K.eql rfl rfl) ?_
    refine KT.step rfl rfl (K.move rfl) ?_
    refine KT.step rfl rfl (K.move rfl) ?_
    refine KT.step rfl rfl (K.eql rfl rfl) ?_
    refine KT.step rfl rfl (K.pick rfl (fun h => by cases h) (fun _ => rfl)) ?_
    refine KT.step rfl rfl (K.move rfl) ?_
    refine KT.step rfl rfl (K.call0 plainTry_20 (awake20)) ?_
    refine KT.step rfl rfl (K.pick rfl (fun _ => rfl) (fun h => by cases h)) ?_
    refine KT.step rfl rfl (K.assign rfl) ?_
    refine KT.nil ?_
    refine thenK_n ?_
    refine KC.ret ?_
    refine thenK_r ?_
    exact ⟨.inl rfl, _, rfl, fin_b rfl⟩
  · cases hc40
set_option maxRecDepth 10000 in
theorem merges_big {d : DV} {l : List Sm} {gap : Int} (hd : StD d l) (hl : l.length ≤ 9223372036854775807) {k q : Int} (hok : okH l gap = true) (h7 : 7 < l.length) : DeepCall Try.prog 15 [d, DI gap, DI k, DI q] (DB true) := by
  have n2 := lvls_two hok
  have nl := lvls_length gap l
  have n8 := (okH_iff.1 hok).2.1
  have hb := hotU_bd hok
  have ok2 := okH_iff.1 hok
  refine deepCall_K 5 Try.func15 rfl (Nat.le_of_ble_eq_true rfl) fun M W0 => ?_
  refine KC.seq ?_
  refine KC.region ?_
  refine KT.step rfl rfl (K.assign rfl) ?_
  refine KT.nil ?_
  refine thenK_n ?_
  refine KC.seq ?_
  refine KC.region ?_
  refine KT.step rfl rfl (K.move rfl) ?_
  refine KT.step rfl rfl (K.call1 rfl plainTry_17 (of_ok hd hl hok)) ?_
  refine KT.step rfl rfl (K.move rfl) ?_
  refine KT.step rfl rfl (K.call2 rfl rfl plainTry_25 (utilities_ok (flV_ok l) hl hok)) ?_
  refine KT.step rfl rfl (K.move rfl) ?_
  refine KT.step rfl rfl (K.extract rfl rfl) ?_
  refine KT.step rfl rfl (K.extract rfl rfl) ?_
  refine KT.step rfl rfl (K.extract rfl rfl) ?_
  refine KT.step rfl rfl (K.assign rfl) ?_
  refine KT.step rfl rfl (K.assign rfl) ?_
  refine KT.step rfl rfl (K.assign rfl) ?_
  refine KT.nil ?_
  refine thenK_n ?_
  refine KC.seq ?_
  refine KC.seq ?_
  refine KC.region ?_
  refine KT.step rfl rfl (K.move rfl) ?_
  refine KT.step rfl rfl (K.neq rfl rfl) ?_
  refine KT.step rfl rfl (K.move rfl) ?_
  refine KT.step rfl rfl (K.move rfl) ?_
  refine KT.step rfl rfl (K.move rfl) ?_
  refine KT.step rfl rfl (K.call2 rfl rfl plainTry_19 (rvalid_ok hd hl hok)) ?_
  refine KT.step rfl rfl (K.not rfl) ?_
  refine KT.step rfl rfl (K.pick rfl (fun h => by cases h) (fun _ => rfl)) ?_
  refine KT.step rfl rfl (K.move rfl) ?_
  refine KT.step rfl rfl (K.move rfl) ?_
  refine KT.step rfl rfl (K.lenF rfl hd Try.underlying22) ?_
  refine KT.step rfl rfl (K.gtr rfl rfl) ?_
  refine KT.step rfl rfl (K.pick rfl (fun h => by cases h) (fun _ => rfl)) ?_
  refine KT.nil ?_
  refine thenK_n ?_
  refine KC.cond rfl (fun hc40 => ?_) (fun hc40 => ?_)
  · skip
    replace hc40 := of_decide_eq_true hc40
    refine KC.seq ?_
    refine KC.region ?_
    refine KT.step rfl rfl (K.move rfl) ?_
    refine KT.step rfl rfl (K.eql rfl rfl) ?_
    refine KT.step rfl rfl (K.move rfl) ?_
    refine KT.skip rfl rfl ?_
    refine KT.skip rfl rfl ?_
    refine KT.step rfl rfl (K.pick rfl (fun _ => rfl) (fun h => by cases h)) ?_
    refine KT.step rfl rfl (K.move rfl) ?_
    refine KT.step rfl rfl (K.call0 plainTry_20 (awake20)) ?_
    refine KT.step rfl rfl (K.pick rfl (fun _ => rfl) (fun h => by cases h)) ?_
    refine KT.step rfl rfl (K.assign rfl) ?_
    refine KT.nil ?_
    refine thenK_n ?_
    refine KC.ret ?_
    refine thenK_r ?_
    exact ⟨.inl rfl, _, rfl, fin_b rfl⟩
  · skip
    exact absurd hc40 (by simp; omega)
set_option maxHeartbeats 2000000 in
set_option maxRecDepth 10000 in
theorem merges_ok {d : DV} {l : List Sm} {gap : Int} (hd : StD d l) (hl : l.length ≤ 9223372036854775807) {k q : Int} (hok : okH l gap = true) (h7 : l.length ≤ 7) : DeepCall Try.prog 15 [d, DI gap, DI k, DI q] (DB true) := by
  have n2 := lvls_two hok
  have nl := lvls_length gap l
  have n8 := (okH_iff.1 hok).2.1
  have hb := hotU_bd hok
  have ok2 := okH_iff.1 hok
  obtain ⟨cap, rfl⟩ : ∃ cap, d = .sl (l.flatMap c3) l.length cap := by
    cases hd with
    | nil => exact absurd ok2.1 (by simp)
    | sl => exact ⟨_, rfl⟩
  have hall := ok2.2.2.2.2
  have hrv := rev_U hok
  refine deepCall_K 5 Try.func15 rfl (Nat.le_of_ble_eq_true rfl) fun M W0 => ?_
  refine KC.seq ?_
  refine KC.region ?_
  refine KT.step rfl rfl (K.assign rfl) ?_
  refine KT.nil ?_
  refine thenK_n ?_
  refine KC.seq ?_
  refine KC.region ?_
  refine KT.step rfl rfl (K.move rfl) ?_
  refine KT.step rfl rfl (K.call1 rfl plainTry_17 (of_ok hd hl hok)) ?_
  refine KT.step rfl rfl (K.move rfl) ?_
  refine KT.step rfl rfl (K.call2 rfl rfl plainTry_25 (utilities_ok (flV_ok l) hl hok)) ?_
  refine KT.step rfl rfl (K.move rfl) ?_
  refine KT.step rfl rfl (K.extract rfl rfl) ?_
  refine KT.step rfl rfl (K.extract rfl rfl) ?_
  refine KT.step rfl rfl (K.extract rfl rfl) ?_
  refine KT.step rfl rfl (K.assign rfl) ?_
  refine KT.step rfl rfl (K.assign rfl) ?_
  refine KT.step rfl rfl (K.assign rfl) ?_
  refine KT.nil ?_
  refine thenK_n ?_
  refine KC.seq ?_
  refine KC.seq ?_
  refine KC.region ?_
  refine KT.step rfl rfl (K.move rfl) ?_
  refine KT.step rfl rfl (K.neq rfl rfl) ?_
  refine KT.step rfl rfl (K.move rfl) ?_
  refine KT.step rfl rfl (K.move rfl) ?_
  refine KT.step rfl rfl (K.move rfl) ?_
  refine KT.step rfl rfl (K.call2 rfl rfl plainTry_19 (rvalid_ok hd hl hok)) ?_
  refine KT.step rfl rfl (K.not rfl) ?_
  refine KT.step rfl rfl (K.pick rfl (fun h => by cases h) (fun _ => rfl)) ?_
  refine KT.step rfl rfl (K.move rfl) ?_
  refine KT.step rfl rfl (K.move rfl) ?_
  refine KT.step rfl rfl (K.lenF rfl hd Try.underlying22) ?_
  refine KT.step rfl rfl (K.gtr rfl rfl) ?_
  refine KT.step rfl rfl (K.pick rfl (fun h => by cases h) (fun _ => rfl)) ?_
  refine KT.nil ?_
  refine thenK_n ?_
  refine KC.cond rfl (fun hc40 => ?_) (fun hc40 => ?_)
  · skip
    exact absurd hc40 (by simp; omega)
  · skip
    replace hc40 := of_decide_eq_false hc40
    refine KC.skip ?_
    refine thenK_n ?_
    refine KC.seq ?_
    refine KC.region ?_
    refine KT.step rfl rfl (K.move rfl) ?_
    refine KT.step rfl rfl (K.callG (τ := [⟨[], 0⟩, ⟨(l.flatMap c3).map .d, 0⟩]) rfl plainTry_43 (clone43 (by omega) (by omega))) ?_
    refine KT.step rfl rfl (K.assign rfl) ?_
    refine KT.nil ?_
    refine thenK_n ?_
    refine KC.seq ?_
    refine KC.region ?_
    refine KT.step rfl rfl (K.move rfl) ?_
    refine KT.step rfl rfl (K.callO rfl plainTry_44 (reverse44 (l := l) rfl (by omega))) ?_
    refine KT.nil ?_
    refine thenK_n ?_
    refine KC.seq ?_
    refine KC.seq ?_
    refine KC.ghost [1] 5 (t := 12) rfl (deep_flat (l := l.reverse) c3_len rfl (by simp) (by simp)) ?_
    generalize freezeIds _ [1] = σ0
    refine KC.region ?_
    refine KT.step rfl rfl (K.move rfl) ?_
    refine KT.step rfl rfl (K.call1 rfl plainTry_17 (of_ok (l := l.reverse) .sl (by simp; omega) hrv.1)) ?_
    refine KT.step rfl rfl (K.move rfl) ?_
    refine KT.step rfl rfl (K.call2 rfl rfl plainTry_25 (utilities_ok (flV_ok l.reverse) (by simp; omega) hrv.1)) ?_
    refine KT.step rfl rfl (K.move rfl) ?_
    refine KT.step rfl rfl (K.extract rfl rfl) ?_
    refine KT.step rfl rfl (K.extract rfl rfl) ?_
    refine KT.step rfl rfl (K.extract rfl rfl) ?_
    refine KT.step rfl rfl (K.assign rfl) ?_
    refine KT.step rfl rfl (K.assign rfl) ?_
    refine KT.step rfl rfl (K.assign rfl) ?_
    refine KT.nil ?_
    refine thenK_n ?_
    refine KC.seq ?_
    refine KC.region ?_
    refine KT.step rfl rfl (K.move rfl) ?_
    refine KT.step rfl rfl (K.neq rfl rfl) ?_
    refine KT.step rfl rfl (K.move rfl) ?_
    refine KT.step rfl rfl (K.move rfl) ?_
    refine KT.step rfl rfl (K.move rfl) ?_
    refine KT.step rfl rfl (K.neq rfl rfl) ?_
    refine KT.step rfl rfl (K.pick rfl (fun h => by cases h) (fun _ => rfl)) ?_
    refine KT.step rfl rfl (K.move rfl) ?_
    refine KT.bcase (fun hb69 => ?_) (fun hb69 => ?_)
    · skip
      exact absurd hrv.2.1 (of_decide_eq_true hb69)
    · skip
      replace hb69 := of_decide_eq_false hb69
      refine KT.step rfl rfl (K.move rfl) ?_
      refine KT.step rfl rfl (K.move rfl) ?_
      refine KT.step rfl rfl (K.neq rfl rfl) ?_
      refine KT.step rfl rfl (K.pick rfl (fun h => by cases h) (fun _ => rfl)) ?_
      refine KT.nil ?_
      refine thenK_n ?_
      refine KC.cond rfl (fun hc73 => ?_) (fun hc73 => ?_)
      · skip
        exact absurd hrv.2.2 (by simpa using hc73)
      · skip
        replace hc73 := of_decide_eq_false hc73
        refine KC.skip ?_
        refine thenK_n ?_
        refine KC.seq ?_
        refine KC.region ?_
        refine KT.step rfl rfl (K.move rfl) ?_
        refine KT.step rfl rfl (K.conv rfl Try.underlying3 Try.underlying66 (wrapUI _)) ?_
        refine KT.step rfl rfl (K.move rfl) ?_
        refine KT.step rfl rfl (K.lenF rfl hd Try.underlying22) ?_
        refine KT.step rfl rfl (K.conv rfl Try.underlying3 Try.underlying66 (wrapUN (by omega))) ?_
        refine KT.step rfl rfl (K.rem rfl rfl (by omega) (tmodN _ _)) ?_
        refine KT.step rfl rfl (K.conv rfl Try.underlying66 Try.underlying3 (wrapN (by have := Nat.mod_lt (k % 2 ^ 64).toNat (show 0 < l.length by omega); omega))) ?_
        refine KT.step rfl rfl (K.assign rfl) ?_
        refine KT.nil ?_
        refine thenK_n ?_
        refine KC.seq ?_
        refine KC.seq ?_
        have hm : (k % 2 ^ 64).toNat % l.length < l.length := Nat.mod_lt _ (by omega)
        generalize (k % 2 ^ 64).toNat % l.length = m at hm ⊢
        obtain ⟨q1, q2, q3, q4, q5, q6, q7⟩ := Sm.ok_iff.1 (hall _ (List.getElem_mem hm))
        refine KC.region ?_
        refine KT.step rfl rfl (K.move rfl) ?_
        refine KT.step rfl rfl (K.move rfl) ?_
        refine KT.step rfl rfl (K.idxF c3_len (m := m) rfl hd rfl hm Try.underlying22 Try.size63) ?_
        refine KT.step rfl rfl (K.fieldAddrD rfl Try.fld63_2 Try.size3) ?_
        refine KT.step rfl rfl (K.load rfl Try.agg3) ?_
        refine KT.step rfl rfl (K.lss rfl rfl) ?_
        refine KT.nil ?_
        refine thenK_n ?_
        refine KC.cond rfl (fun hc86 => ?_) (fun hc86 => ?_)
        · skip
          replace hc86 := of_decide_eq_true hc86
          refine KC.seq ?_
          refine KC.region ?_
          refine KT.step rfl rfl (K.call0 plainTry_20 (awake20)) ?_
          refine KT.step rfl rfl (K.assign rfl) ?_
          refine KT.nil ?_
          refine thenK_n ?_
          refine KC.ret ?_
          refine thenK_r ?_
          exact ⟨.inl rfl, _, rfl, fin_b rfl⟩
        · skip
          replace hc86 := of_decide_eq_false hc86
          refine KC.skip ?_
          refine thenK_n ?_
          refine KC.seq ?_
          obtain ⟨R, hR⟩ : ∃ R : Nat, l[m].r = ((R + 2 : Nat) : Int) := ⟨(l[m].r - 2).toNat, by omega⟩
          have hz : (q % 2 ^ 64).toNat % (R + 1) < R + 1 := Nat.mod_lt _ (by omega)
          refine KC.region ?_
          refine KT.step rfl rfl (K.move rfl) ?_
          refine KT.step rfl rfl (K.conv rfl Try.underlying3 Try.underlying66 (wrapUI _)) ?_
          refine KT.step rfl rfl (K.move rfl) ?_
          refine KT.step rfl rfl (K.move rfl) ?_
          refine KT.step rfl rfl (K.idxF c3_len (m := m) rfl hd rfl hm Try.underlying22 Try.size63) ?_
          refine KT.step rfl rfl (K.fieldAddrD rfl Try.fld63_2 Try.size3) ?_
          refine KT.step rfl rfl (K.load rfl Try.agg3) ?_
          refine KT.step rfl rfl (K.sub rfl rfl (show IntKind.i64.wrap (l[m].r - 1) = ((R + 1 : Nat) : Int) from by rw [wrap_id (by omega)]; omega)) ?_
          refine KT.step rfl rfl (K.conv rfl Try.underlying3 Try.underlying66 (wrapUN (by omega))) ?_
          refine KT.step rfl rfl (K.rem rfl rfl (by omega) (tmodN _ _)) ?_
          refine KT.step rfl rfl (K.conv rfl Try.underlying66 Try.underlying3 (wrapN (by omega))) ?_
          refine KT.step rfl rfl (K.add rfl rfl (wrap_id (by omega))) ?_
          refine KT.step rfl rfl (K.assign rfl) ?_
          refine KT.nil ?_
          refine thenK_n ?_
          refine KC.seq ?_
          obtain ⟨p, hp⟩ : ∃ p : Int, 1 + (((q % 2 ^ 64).toNat % (R + 1) : Nat) : Int) = p := ⟨_, rfl⟩
          rw [hp]
          have hs := merge_U (p := p) hok h7 hm (by omega) (by omega)
          refine KC.region ?_
          refine KT.step rfl rfl (K.move rfl) ?_
          refine KT.step rfl rfl (K.callG (τ := [⟨[], 0⟩, ⟨(l.flatMap c3).map .d, 0⟩]) rfl plainTry_43 (clone43 (by omega) (by omega))) ?_
          refine KT.step rfl rfl (K.assign rfl) ?_
          refine KT.nil ?_
          refine thenK_n ?_
          refine KC.seq ?_
          refine KC.region ?_
          refine KT.step rfl rfl (K.move rfl) ?_
          refine KT.step rfl rfl (K.move rfl) ?_
          refine KT.step rfl rfl (K.idxOK (m := m) rfl rfl hm Try.underlying22 Try.size63) ?_
          refine KT.step rfl rfl (K.fieldAddrO rfl Try.fld63_2 Try.size3) ?_
          refine KT.step rfl rfl (K.loadO (y := .d (DI l[m].r)) rfl app_get2 (by simp) (by rw [Nat.zero_add]; exact flat_get c3_len hm rfl) Try.agg3) ?_
          refine KT.step rfl rfl (K.move rfl) ?_
          refine KT.step rfl rfl (K.sub rfl rfl (wrap_id (by omega))) ?_
          refine KT.step rfl rfl (K.idxOK (m := m) rfl rfl hm Try.underlying22 Try.size63) ?_
          refine KT.step rfl rfl (K.fieldAddrO rfl Try.fld63_2 Try.size3) ?_
          refine KT.storeG rfl rfl rfl rfl app_get2 (by rw [List.length_map, flat_len c3_len]; show 0 + m * 3 + 2 < _; omega) rfl rfl Try.size3 fun σ1 l1 u1 v1 => ?_
          rw [show 0 + m * 3 + 2 = m * 3 + 2 by omega, flat_setD c3_len (b := ⟨l[m].a, l[m].b, l[m].r - p⟩) (by decide) hm rfl] at u1
          refine KT.nil ?_
          refine thenK_n ?_
          refine KC.seq ?_
          refine KC.draw Try.mixed ?_
          refine KT.step rfl rfl (K.move rfl) ?_
          refine KT.step rfl rfl (K.move rfl) ?_
          refine KT.step rfl rfl (K.move rfl) ?_
          refine KT.step rfl rfl (K.idxF c3_len (m := m) rfl hd rfl hm Try.underlying22 Try.size63) ?_
          refine KT.step rfl rfl (K.fieldAddrD rfl Try.fld63_0 Try.size3) ?_
          refine KT.step rfl rfl (K.load rfl Try.agg3) ?_
          refine KT.step rfl rfl (K.move rfl) ?_
          refine KT.step rfl rfl (K.move rfl) ?_
          refine KT.step rfl rfl (K.idxF c3_len (m := m) rfl hd rfl hm Try.underlying22 Try.size63) ?_
          refine KT.step rfl rfl (K.fieldAddrD rfl Try.fld63_1 Try.size3) ?_
          refine KT.step rfl rfl (K.load rfl Try.agg3) ?_
          refine KT.step rfl rfl (K.move rfl) ?_
          refine KT.step rfl rfl (K.buildS rfl (build63_3 _ _ _)) ?_
          refine KT.step rfl rfl (K.buildK (k := 3) (ds := c3 ⟨l[m].a, l[m].b, p⟩) rfl rfl Try.underlying22 Try.size63 Try.zero63 (by decide)) ?_
          refine KT.appK (k := 3) rfl rfl rfl rfl (OwnK.pushed (OwnK.sl u1 (by rw [List.length_map, flat_len c3_len, List.length_set])) _) (List.getElem?_concat_length ..) rfl rfl (by rw [List.length_map, flat_len c3_len, List.length_set]; omega) Try.underlying22 Try.size63 (of_decide_eq_true (by kernel_rfl)) (by kernel_rfl) (by decide) fun σ2 x2 ho2 k2 w2 => ?_
          refine KT.step rfl rfl (K.assign rfl) ?_
          refine KT.nil ?_
          refine ⟨by kernel_rfl, ?_⟩
          refine thenK_n ?_
          refine KC.seq ?_
          rw [show (List.flatMap c3 (l.set m ⟨l[m].a, l[m].b, l[m].r - p⟩)).map XV.d ++ (c3 ⟨l[m].a, l[m].b, p⟩).map XV.d = (List.flatMap c3 (l.set m ⟨l[m].a, l[m].b, l[m].r - p⟩ ++ [⟨l[m].a, l[m].b, p⟩])).map XV.d by simp] at ho2
          obtain ⟨id, rfl, hs2⟩ := own_flat c3_len (by decide) ho2 (by simp)
          refine KC.ghost [id] 5 (t := 17) rfl (deep_flat c3_len hs2 (by simp) rfl) ?_
          refine KC.region ?_
          refine KT.step rfl rfl (K.move rfl) ?_
          refine KT.step rfl rfl (K.call1 rfl plainTry_17 (of_ok (l := (l.set m ⟨l[m].a, l[m].b, l[m].r - p⟩ ++ [⟨l[m].a, l[m].b, p⟩])) .sl (by simp; omega) hs.1)) ?_
          refine KT.step rfl rfl (K.move rfl) ?_
          refine KT.step rfl rfl (K.call2 rfl rfl plainTry_25 (utilities_ok (flV_ok (l.set m ⟨l[m].a, l[m].b, l[m].r - p⟩ ++ [⟨l[m].a, l[m].b, p⟩])) (by simp; omega) hs.1)) ?_
          refine KT.step rfl rfl (K.move rfl) ?_
          refine KT.step rfl rfl (K.extract rfl rfl) ?_
          refine KT.step rfl rfl (K.extract rfl rfl) ?_
          refine KT.step rfl rfl (K.extract rfl rfl) ?_
          refine KT.step rfl rfl (K.assign rfl) ?_
          refine KT.step rfl rfl (K.assign rfl) ?_
          refine KT.step rfl rfl (K.assign rfl) ?_
          refine KT.nil ?_
          refine thenK_n ?_
          refine KC.seq ?_
          refine KC.region ?_
          refine KT.step rfl rfl (K.move rfl) ?_
          refine KT.step rfl rfl (K.eql rfl rfl) ?_
          refine KT.step rfl rfl (K.move rfl) ?_
          refine KT.step rfl rfl (K.move rfl) ?_
          refine KT.step rfl rfl (K.move rfl) ?_
          refine KT.step rfl rfl (K.eql rfl rfl) ?_
          refine KT.step rfl rfl (K.pick rfl (fun _ => rfl) (fun h => by cases h)) ?_
          refine KT.step rfl rfl (K.move rfl) ?_
          refine KT.bcase (fun hb141 => ?_) (fun hb141 => ?_)
          · skip
            replace hb141 := of_decide_eq_true hb141
            refine KT.step rfl rfl (K.move rfl) ?_
            refine KT.step rfl rfl (K.move rfl) ?_
            refine KT.step rfl rfl (K.eql rfl rfl) ?_
            refine KT.step rfl rfl (K.pick rfl (fun _ => rfl) (fun h => by cases h)) ?_
            refine KT.step rfl rfl (K.move rfl) ?_
            refine KT.bcase (fun hb146 => ?_) (fun hb146 => ?_)
            · skip
              replace hb146 := of_decide_eq_true hb146
              refine KT.step rfl rfl (K.call0 plainTry_20 (awake20)) ?_
              refine KT.step rfl rfl (K.pick rfl (fun _ => rfl) (fun h => by cases h)) ?_
              refine KT.step rfl rfl (K.assign rfl) ?_
              refine KT.nil ?_
              refine thenK_n ?_
              refine KC.ret ?_
              exact ⟨.inl rfl, _, rfl, fin_b rfl⟩
            · skip
              exact absurd hb146 (by simp [hs.2.2])
          · skip
            exact absurd hb141 (by simp [hs.2.1])
end Go.Proofs.Ytmfbakipfobaeaa

