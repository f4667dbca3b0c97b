import Derived.Test.YtdgahcbalabjdaaGreatZBaU
/-
  Batch: orders of a shop, their starts and makespans.
-/
namespace Go.Proofs.YtdgahcbalabjdaaGreat
open Go.Vm Go.Ht Go.Ba
theorem plainTryz_32 : plainFn Tryz.prog 32 = true := by kernel_rfl
theorem plainTryz_9 : plainFn Tryz.prog 9 = true := by kernel_rfl
theorem plainTryz_17 : plainFn Tryz.prog 17 = true := by kernel_rfl
theorem plainTryz_26 : plainFn Tryz.prog 26 = true := by kernel_rfl
theorem plainTryz_12 : plainFn Tryz.prog 12 = true := by kernel_rfl
theorem plainTryz_10 : plainFn Tryz.prog 10 = true := by kernel_rfl
set_option maxRecDepth 10000 in
theorem equal21 {d e : DV} {x y : List Int} (hd : Ints d x) (he : Ints e y) (hl : x.length ≤ 9223372036854775807) :
    DeepCall Tryz.prog 10 [d, e] (DB (decide (x = y))) := by
  refine deepCall_K 5 Tryz.func10 rfl (Nat.le_of_ble_eq_true rfl) fun M W0 => ?_
  refine KC.seq ?_
  refine KC.region ?_
  refine KT.step rfl rfl (K.assign rfl) ?_
  refine KT.nil ?_
  refine thenK_n ?_
  refine KC.seq ?_
  refine KC.seq ?_
  refine KC.region ?_
  refine KT.step rfl rfl (K.move rfl) ?_
  refine KT.step rfl rfl (K.len rfl (by assumption) Tryz.underlying36) ?_
  refine KT.step rfl rfl (K.move rfl) ?_
  refine KT.step rfl rfl (K.len rfl (by assumption) Tryz.underlying36) ?_
  refine KT.step rfl rfl (K.neq rfl rfl) ?_
  refine KT.nil ?_
  refine thenK_n ?_
  refine KC.cond rfl (fun hc10 => ?_) (fun hc10 => ?_)
  · skip
    replace hc10 := of_decide_eq_true hc10
    refine KC.seq ?_
    refine KC.region ?_
    refine KT.step rfl rfl (K.assign rfl) ?_
    refine KT.nil ?_
    refine thenK_n ?_
    refine KC.ret ?_
    refine thenK_r ?_
    exact ⟨.inl rfl, _, rfl, fin_b (decide_eq_false fun h => by subst h; omega)⟩
  · skip
    replace hc10 := of_decide_eq_false hc10
    refine KC.skip ?_
    refine thenK_n ?_
    refine KC.seq ?_
    refine KC.seq ?_
    refine KC.region ?_
    refine KT.step rfl rfl (K.move rfl) ?_
    refine KT.step rfl rfl (K.len rfl (by assumption) Tryz.underlying36) ?_
    refine KT.step rfl rfl (K.move rfl) ?_
    refine KT.nil ?_
    refine thenK_n ?_
    refine KC.block ?_
    refine KC.loop (fun _ : Nat => []) (fun i => [(0, .d d), (1, .d e), (12, .d (DI x.length)), (13, .d (DI i))]) (fun i => i ≤ x.length ∧ x.take i = y.take i) (fun i => x.length - i) 0 ⟨Nat.zero_le _, rfl⟩ rfl (by simp [Go.Vm.look, extK, enterK]) ?_
    intro i hi
    obtain ⟨hi, hall⟩ := hi
    refine KC.seq ?_
    refine KC.region ?_
    refine KT.step rfl rfl (K.lss rfl rfl) ?_
    refine KT.nil ?_
    refine thenK_n ?_
    refine KC.seq ?_
    refine KC.cond rfl (fun hc14 => ?_) (fun hc14 => ?_)
    · skip
      replace hc14 := of_decide_eq_true hc14
      refine KC.skip ?_
      refine thenK_n ?_
      refine KC.seq ?_
      refine KC.block ?_
      refine KC.seq ?_
      refine KC.region ?_
      refine KT.step rfl rfl (K.move rfl) ?_
      refine KT.step rfl rfl (K.assign rfl) ?_
      refine KT.nil ?_
      refine thenK_n ?_
      refine KC.seq ?_
      refine KC.draw Tryz.mixed ?_
      refine KT.step rfl rfl (K.move rfl) ?_
      refine KT.step rfl rfl (K.move rfl) ?_
      refine KT.idxI rfl rfl rfl (by assumption) rfl (by omega) Tryz.underlying36 Tryz.size3 fun cs18 => ?_
      refine KT.step rfl rfl (K.load rfl Tryz.agg3) ?_
      refine KT.step rfl rfl (K.move rfl) ?_
      refine KT.step rfl rfl (K.move rfl) ?_
      refine KT.idxI rfl rfl rfl (by assumption) rfl (by omega) Tryz.underlying36 Tryz.size3 fun cs22 => ?_
      refine KT.step rfl rfl (K.load rfl Tryz.agg3) ?_
      refine KT.step rfl rfl (K.neq rfl rfl) ?_
      refine KT.nil ?_
      refine ⟨by kernel_rfl, ?_⟩
      refine thenK_n ?_
      refine KC.cond rfl (fun hc24 => ?_) (fun hc24 => ?_)
      · skip
        replace hc24 := of_decide_eq_true hc24
        refine KC.seq ?_
        refine KC.region ?_
        refine KT.step rfl rfl (K.assign rfl) ?_
        refine KT.nil ?_
        refine thenK_n ?_
        refine KC.ret ?_
        refine blockK_r ?_
        refine thenK_r ?_
        refine thenK_r ?_
        refine blockK_r ?_
        refine thenK_r ?_
        exact ⟨.inl rfl, _, rfl, fin_b (decide_eq_false fun h => by subst h; exact hc24 rfl)⟩
      · skip
        replace hc24 := of_decide_eq_false hc24
        refine KC.skip ?_
        refine blockK_n ?_
        refine thenK_n ?_
        refine KC.region ?_
        refine KT.step rfl rfl (K.add rfl rfl (wrap_id (by omega))) ?_
        refine KT.step rfl rfl (K.move rfl) ?_
        refine KT.nil ?_
        refine thenK_n ?_
        refine ⟨i + 1, ⟨by omega, ?_⟩, by omega, rfl, by simp [Go.Vm.look, extK]⟩
        rw [List.take_succ_eq_append_getElem (by omega), List.take_succ_eq_append_getElem (by omega), hall, Classical.not_not.1 hc24]
    · skip
      replace hc14 := of_decide_eq_false hc14
      refine KC.exit ?_
      refine thenK_x ?_
      refine thenK_x ?_
      refine blockK_e ?_
      refine thenK_n ?_
      refine KC.seq ?_
      refine KC.region ?_
      refine KT.step rfl rfl (K.assign rfl) ?_
      refine KT.nil ?_
      refine thenK_n ?_
      refine KC.ret ?_
      have hx : x.take i = x := List.take_of_length_le (by omega)
      have hy : y.take i = y := List.take_of_length_le (by omega)
      rw [hx, hy] at hall
      exact ⟨.inl rfl, _, rfl, fin_b (decide_eq_true hall)⟩
theorem zero82 : pureRun Tryz.prog (Instr.build 47 #[]) = some (.agg #[.slice none 0 0, .slice none 0 0, .slice none 0 0]) := by kernel_rfl
set_option maxRecDepth 10000 in
theorem sorts91 {d e : DV} {x y : List Int} (hx : Ints d x) (hy : Ints e y) (hl : x.length ≤ 1000000) : DeepCall Tryz.prog 32 [d, e] (DB (decide (sortI x = y))) := by
  refine deepCall_K 5 Tryz.func32 rfl (Nat.le_of_ble_eq_true rfl) fun M W0 => ?_
  refine KC.seq ?_
  refine KC.region ?_
  refine KT.step rfl rfl (K.assign rfl) ?_
  refine KT.nil ?_
  refine thenK_n ?_
  refine KC.seq ?_
  refine KC.region ?_
  refine KT.step rfl rfl (K.move rfl) ?_
  refine KT.step rfl rfl (K.call1 rfl plainTryz_34 (values74 (SlD.of hx))) ?_
  refine KT.step rfl rfl (K.call1 rfl plainTryz_33 (sorted92 hx hl)) ?_
  refine KT.step rfl rfl (K.move rfl) ?_
  refine KT.step rfl rfl (K.call2 rfl rfl plainTryz_10 (equal21 (intsV_ok _) hy (by rw [length_sortI]; omega))) ?_
  refine KT.step rfl rfl (K.assign rfl) ?_
  refine KT.nil ?_
  refine thenK_n ?_
  refine KC.ret ?_
  exact ⟨.inl rfl, _, rfl, fin_d rfl⟩
set_option maxRecDepth 10000 in
theorem sortsAll93 {d e : DV} {x y : List (List Int)} (hd : Mat d x) (he : Mat e y) (hl : x.length ≤ 1000) (hr : ∀ r ∈ x, r.length ≤ 1000000) : DeepCall Tryz.prog 9 [d, e, .fn (.func 32) [] []] (DB (decide (x.map sortI = y))) := by
  refine deepCall_K 5 Tryz.func9 rfl (Nat.le_of_ble_eq_true rfl) fun M W0 => ?_
  refine KC.seq ?_
  refine KC.region ?_
  refine KT.step rfl rfl (K.assign rfl) ?_
  refine KT.nil ?_
  refine thenK_n ?_
  refine KC.seq ?_
  refine KC.seq ?_
  refine KC.region ?_
  refine KT.step rfl rfl (K.move rfl) ?_
  refine KT.step rfl rfl (K.len rfl hd Tryz.underlying25) ?_
  refine KT.step rfl rfl (K.move rfl) ?_
  refine KT.step rfl rfl (K.len rfl he Tryz.underlying25) ?_
  refine KT.step rfl rfl (K.neq rfl rfl) ?_
  refine KT.nil ?_
  refine thenK_n ?_
  refine KC.cond rfl (fun hc14 => ?_) (fun hc14 => ?_)
  · skip
    replace hc14 := of_decide_eq_true hc14
    refine KC.seq ?_
    refine KC.region ?_
    refine KT.step rfl rfl (K.assign rfl) ?_
    refine KT.nil ?_
    refine thenK_n ?_
    refine KC.ret ?_
    refine thenK_r ?_
    exact ⟨.inl rfl, _, rfl, fin_b (decide_eq_false fun h => by have := congrArg List.length h; rw [List.length_map] at this; omega)⟩
  · skip
    replace hc14 := of_decide_eq_false hc14
    refine KC.skip ?_
    refine thenK_n ?_
    refine KC.seq ?_
    refine KC.seq ?_
    refine KC.region ?_
    refine KT.step rfl rfl (K.move rfl) ?_
    refine KT.step rfl rfl (K.len rfl hd Tryz.underlying25) ?_
    refine KT.step rfl rfl (K.move rfl) ?_
    refine KT.nil ?_
    refine thenK_n ?_
    refine KC.block ?_
    refine KC.loop (fun _ : Nat => []) (fun i => [(0, .d d), (1, .d e), (2, .d (.fn (.func 32) [] [])), (15, .d d), (16, .d (DI x.length)), (17, .d (DI i))]) (fun i => i ≤ x.length ∧ (x.take i).map sortI = y.take i) (fun i => x.length - i) 0 ⟨Nat.zero_le _, rfl⟩ rfl (by simp [Go.Vm.look, extK, enterK]) ?_
    intro i hi
    obtain ⟨hi, hall⟩ := hi
    refine KC.seq ?_
    refine KC.region ?_
    refine KT.step rfl rfl (K.lss rfl rfl) ?_
    refine KT.nil ?_
    refine thenK_n ?_
    refine KC.seq ?_
    refine KC.cond rfl (fun hc18 => ?_) (fun hc18 => ?_)
    · skip
      replace hc18 := of_decide_eq_true hc18
      refine KC.skip ?_
      refine thenK_n ?_
      refine KC.seq ?_
      refine KC.block ?_
      refine KC.seq ?_
      refine KC.region ?_
      refine KT.step rfl rfl (K.move rfl) ?_
      refine KT.idx rfl rfl rfl hd rfl (by omega) Tryz.underlying25 Tryz.size36 fun c20 cs20 hq20 => ?_
      refine KT.step rfl rfl (K.load rfl Tryz.agg36) ?_
      refine KT.step rfl rfl (K.assign rfl) ?_
      refine KT.step rfl rfl (K.assign rfl) ?_
      refine KT.nil ?_
      refine thenK_n ?_
      refine KC.seq ?_
      refine KC.region ?_
      refine KT.step rfl rfl (K.move rfl) ?_
      refine KT.step rfl rfl (K.move rfl) ?_
      refine KT.idx (m := i) rfl rfl rfl he rfl (by omega) Tryz.underlying25 Tryz.size36 fun c24 cs24 hq24 => ?_
      refine KT.step rfl rfl (K.load rfl Tryz.agg36) ?_
      refine KT.step rfl rfl (K.assign rfl) ?_
      refine KT.nil ?_
      refine thenK_n ?_
      refine KC.seq ?_
      refine KC.region ?_
      refine KT.step rfl rfl (K.move rfl) ?_
      refine KT.step rfl rfl (K.move rfl) ?_
      refine KT.step rfl rfl (K.move rfl) ?_
      refine KT.step rfl rfl (K.callW rfl rfl rfl plainTryz_32 (sorts91 hq20 hq24 (hr _ (List.getElem_mem _)))) ?_
      refine KT.step rfl rfl (K.not rfl) ?_
      refine KT.nil ?_
      refine thenK_n ?_
      refine KC.cond rfl (fun hc30 => ?_) (fun hc30 => ?_)
      · skip
        replace hc30 : ¬ sortI x[i] = y[i] := by simpa using hc30
        refine KC.seq ?_
        refine KC.region ?_
        refine KT.step rfl rfl (K.assign rfl) ?_
        refine KT.nil ?_
        refine thenK_n ?_
        refine KC.ret ?_
        refine blockK_r ?_
        refine thenK_r ?_
        refine thenK_r ?_
        refine blockK_r ?_
        refine thenK_r ?_
        refine ⟨.inl rfl, _, rfl, fin_b (decide_eq_false fun h => hc30 ?_)⟩
        have h1 : (x.map sortI)[i]? = y[i]? := by rw [h]
        rw [List.getElem?_map, List.getElem?_eq_getElem (by omega), List.getElem?_eq_getElem (by omega)] at h1
        simpa using h1
      · skip
        replace hc30 : sortI x[i] = y[i] := by simpa using hc30
        refine KC.skip ?_
        refine blockK_n ?_
        refine thenK_n ?_
        refine KC.region ?_
        refine KT.step rfl rfl (K.add rfl rfl (wrap_id (by omega))) ?_
        refine KT.step rfl rfl (K.move rfl) ?_
        refine KT.nil ?_
        refine thenK_n ?_
        refine ⟨i + 1, ⟨by omega, ?_⟩, by omega, rfl, by simp [Go.Vm.look, extK]⟩
        rw [List.take_succ_eq_append_getElem (by omega), List.take_succ_eq_append_getElem (by omega), List.map_append, hall, List.map_singleton, hc30]
    · skip
      replace hc18 := of_decide_eq_false hc18
      refine KC.exit ?_
      refine thenK_x ?_
      refine thenK_x ?_
      refine blockK_e ?_
      refine thenK_n ?_
      refine KC.seq ?_
      refine KC.region ?_
      refine KT.step rfl rfl (K.assign rfl) ?_
      refine KT.nil ?_
      refine thenK_n ?_
      refine KC.ret ?_
      have hx : x.take i = x := List.take_of_length_le (by omega)
      have hy : y.take i = y := List.take_of_length_le (by omega)
      rw [hx, hy] at hall
      exact ⟨.inl rfl, _, rfl, fin_b (decide_eq_true hall)⟩
theorem flV_snoc (ar : List (Int × Int)) (x : Int × Int) : .sl ((ar ++ [x]).flatMap c2) (ar.length + 1) none = flV c2 (ar ++ [x]) := by
  cases ar with
  | nil => rfl
  | cons a ar => simp [flV]
theorem with_flV {a c : DV} {ar : List (Int × Int)} (ha : SlD a) (hc : SlD c) (hA : ar.length ≤ 1000000) (x : Int × Int) : DeepCall Tryz.prog 35 [.agg [a, flV c2 ar, c], .agg (c2 x)] (.agg [a, flV c2 (ar ++ [x]), c]) := by
  have h := with71 ha (flV_ok ar) hc hA x
  rw [flV_snoc] at h
  exact h
/-- A graph of a shop with some arcs. -/
def gaV (N : Int) (J : List (List (Int × Int))) (ar : List (Int × Int)) : DV := .agg [flV c2 J.flatten, flV c2 ar, .sl ((msO N.toNat J.flatten).map intsV) N.toNat (some N.toNat)]
set_option maxHeartbeats 1000000 in
set_option maxRecDepth 10000 in
theorem ordered_no {N : Int} {J : List (List (Int × Int))} {ld : DV} {l : List (List Int)} (hm : Mat ld l) (hll : l.length ≤ 100) (hlr : ∀ r ∈ l, r.length ≤ 1000) (hal : (arcsO 0 J).length ≤ 9) (hno : ordB N.toNat J.flatten l = false) : DeepCall Tryz.prog 17 [gaV N J (arcsO 0 J), ld] (.tup [.agg [Dnil, Dnil, Dnil], DB false]) := by
  refine deepCall_K 5 Tryz.func17 rfl (Nat.le_of_ble_eq_true rfl) fun M W0 => ?_
  refine KC.seq ?_
  refine KC.region ?_
  refine KT.step rfl rfl (K.box rfl) ?_
  refine KT.step rfl rfl (K.alloc Tryz.zero47) ?_
  refine KT.step rfl rfl (K.assign rfl) ?_
  refine KT.nil ?_
  refine thenK_n ?_
  refine KC.seq ?_
  refine KC.region ?_
  refine KT.step rfl rfl (K.assign rfl) ?_
  refine KT.nil ?_
  refine thenK_n ?_
  refine KC.seq ?_
  refine KC.seq ?_
  refine KC.region ?_
  refine KT.step rfl rfl (K.move rfl) ?_
  refine KT.step rfl rfl (K.fieldAddrO rfl Tryz.fld47_2 Tryz.size25) ?_
  refine KT.step rfl rfl (K.loadO (y := .d (.sl ((msO N.toNat J.flatten).map intsV) N.toNat (some N.toNat))) rfl rfl (by simp) rfl Tryz.agg25) ?_
  refine KT.step rfl rfl (K.move rfl) ?_
  refine KT.step rfl rfl (K.call3 rfl rfl rfl plainTryz_9 (sortsAll93 hm (ms_mat _ _) (by omega) (fun r h => by have := hlr r h; omega))) ?_
  refine KT.step rfl rfl (K.not rfl) ?_
  refine KT.nil ?_
  refine thenK_n ?_
  refine KC.cond rfl (fun hc15 => ?_) (fun hc15 => ?_)
  · skip
    refine KC.seq ?_
    refine KC.region ?_
    refine KT.step rfl rfl (K.buildL rfl zero82) ?_
    refine KT.putAll (cs := [.d Dnil, .d Dnil, .d Dnil]) rfl rfl rfl rfl rfl rfl rfl rfl Tryz.size47 ?_
    refine KT.step rfl rfl (K.assign rfl) ?_
    refine KT.nil ?_
    refine thenK_n ?_
    refine KC.ret ?_
    refine thenK_r ?_
    exact ⟨.inl rfl, _, resK_ct [Dnil, Dnil, Dnil] rfl rfl rfl (by decide) Tryz.agg47 Tryz.size47 rfl rfl, rfl⟩
  · skip
    exact absurd hc15 (by rw [show decide (l.map sortI = msO N.toNat J.flatten) = false from hno]; decide)
set_option maxHeartbeats 1000000 in
set_option maxRecDepth 10000 in
theorem ordered_ok {N : Int} {J : List (List (Int × Int))} {ld : DV} {l : List (List Int)} (hm : Mat ld l) (hll : l.length ≤ 100) (hlr : ∀ r ∈ l, r.length ≤ 1000) (hal : (arcsO 0 J).length ≤ 9) (hyes : ordB N.toNat J.flatten l = true) : DeepCall Tryz.prog 17 [gaV N J (arcsO 0 J), ld] (.tup [gaV N J (arcsO 0 J ++ ordA l), DB true]) := by
  refine deepCall_K 5 Tryz.func17 rfl (Nat.le_of_ble_eq_true rfl) fun M W0 => ?_
  refine KC.seq ?_
  refine KC.region ?_
  refine KT.step rfl rfl (K.box rfl) ?_
  refine KT.step rfl rfl (K.alloc Tryz.zero47) ?_
  refine KT.step rfl rfl (K.assign rfl) ?_
  refine KT.nil ?_
  refine thenK_n ?_
  refine KC.seq ?_
  refine KC.region ?_
  refine KT.step rfl rfl (K.assign rfl) ?_
  refine KT.nil ?_
  refine thenK_n ?_
  refine KC.seq ?_
  refine KC.seq ?_
  refine KC.region ?_
  refine KT.step rfl rfl (K.move rfl) ?_
  refine KT.step rfl rfl (K.fieldAddrO rfl Tryz.fld47_2 Tryz.size25) ?_
  refine KT.step rfl rfl (K.loadO (y := .d (.sl ((msO N.toNat J.flatten).map intsV) N.toNat (some N.toNat))) rfl rfl (by simp) rfl Tryz.agg25) ?_
  refine KT.step rfl rfl (K.move rfl) ?_
  refine KT.step rfl rfl (K.call3 rfl rfl rfl plainTryz_9 (sortsAll93 hm (ms_mat _ _) (by omega) (fun r h => by have := hlr r h; omega))) ?_
  refine KT.step rfl rfl (K.not rfl) ?_
  refine KT.nil ?_
  refine thenK_n ?_
  refine KC.cond rfl (fun hc15 => ?_) (fun hc15 => ?_)
  · skip
    exact absurd hc15 (by rw [show decide (l.map sortI = msO N.toNat J.flatten) = true from hyes]; decide)
  · skip
    refine KC.skip ?_
    refine thenK_n ?_
    refine KC.seq ?_
    refine KC.seq ?_
    refine KC.region ?_
    refine KT.step rfl rfl (K.move rfl) ?_
    refine KT.step rfl rfl (K.len rfl hm Tryz.underlying25) ?_
    refine KT.step rfl rfl (K.move rfl) ?_
    refine KT.nil ?_
    refine thenK_n ?_
    refine KC.block ?_
    refine KC.loop (fun p : List VObj × Nat => p.1) (fun p => [(2, .optr 0 0), (4, .optr 1 0), (17, .d ld), (18, .d (DI (l.length : Nat))), (19, .d (DI (p.2 : Nat)))]) (fun p => p.2 ≤ l.length ∧ p.1[0]? = some ⟨[.d (flV c2 J.flatten), .d (flV c2 (arcsO 0 J ++ ordA (l.take p.2))), .d (.sl ((msO N.toNat J.flatten).map intsV) N.toNat (some N.toNat))], 0⟩ ∧ p.1[1]? = some ⟨[.d Dnil, .d Dnil, .d Dnil], 0⟩) (fun p => l.length - p.2) (_, 0) ⟨Nat.zero_le _, by simp [ordA, gaV, cellsX], rfl⟩ rfl (by simp [Go.Vm.look, extK, enterK]) ?_
    intro p hp
    obtain ⟨σ0, i⟩ := p
    obtain ⟨hi, y0, y1⟩ := hp
    simp only at hi y0 y1 ⊢
    refine KC.seq ?_
    refine KC.region ?_
    refine KT.step rfl rfl (K.lss rfl rfl) ?_
    refine KT.nil ?_
    refine thenK_n ?_
    refine KC.seq ?_
    refine KC.cond rfl (fun hc20 => ?_) (fun hc20 => ?_)
    · skip
      replace hc20 := of_decide_eq_true hc20
      have hil : i < l.length := by omega
      have hri := hlr _ (List.getElem_mem hil)
      refine KC.skip ?_
      refine thenK_n ?_
      refine KC.seq ?_
      refine KC.block ?_
      refine KC.seq ?_
      refine KC.region ?_
      refine KT.idx rfl rfl rfl hm rfl (by omega) Tryz.underlying25 Tryz.size36 fun c21 cs21 hrow => ?_
      refine KT.step rfl rfl (K.load rfl Tryz.agg36) ?_
      refine KT.step rfl rfl (K.assign rfl) ?_
      refine KT.nil ?_
      refine thenK_n ?_
      refine KC.seq ?_
      refine KC.region ?_
      refine KT.step rfl rfl (K.assign rfl) ?_
      refine KT.nil ?_
      refine thenK_n ?_
      refine KC.block ?_
      refine KC.loop (fun p : List VObj × Nat => p.1) (fun p => [(2, .optr 0 0), (4, .optr 1 0), (17, .d ld), (18, .d (DI (l.length : Nat))), (19, .d (DI (i : Nat))), (8, .d c21), (9, .d (DI (p.2 : Nat)))]) (fun p => (1 ≤ p.2 ∧ (p.2 ≤ l[i].length ∨ p.2 = 1)) ∧ p.1[0]? = some ⟨[.d (flV c2 J.flatten), .d (flV c2 (arcsO 0 J ++ ordA (l.take i) ++ consT l[i] p.2)), .d (.sl ((msO N.toNat J.flatten).map intsV) N.toNat (some N.toNat))], 0⟩ ∧ p.1[1]? = some ⟨[.d Dnil, .d Dnil, .d Dnil], 0⟩) (fun p => l[i].length - p.2) (_, 1) ⟨⟨Nat.le_refl _, .inr rfl⟩, (show σ0[0]? = some ⟨[.d (flV c2 J.flatten), .d (flV c2 (arcsO 0 J ++ ordA (l.take i) ++ consT l[i] 1)), .d (.sl ((msO N.toNat J.flatten).map intsV) N.toNat (some N.toNat))], 0⟩ from by simpa [consT] using y0), y1⟩ rfl (by simp [Go.Vm.look, extK, enterK]) ?_
      intro p hp
      obtain ⟨σ1, k⟩ := p
      obtain ⟨⟨hk1, hk⟩, y0, y1⟩ := hp
      simp only at hk1 hk y0 y1 ⊢
      refine KC.seq ?_
      refine KC.seq ?_
      refine KC.region ?_
      refine KT.step rfl rfl (K.move rfl) ?_
      refine KT.step rfl rfl (K.move rfl) ?_
      refine KT.step rfl rfl (K.len rfl hrow Tryz.underlying36) ?_
      refine KT.step rfl rfl (K.lss rfl rfl) ?_
      refine KT.nil ?_
      refine thenK_n ?_
      refine KC.cond rfl (fun hc26 => ?_) (fun hc26 => ?_)
      · skip
        replace hc26 := of_decide_eq_true hc26
        have hkl : k < l[i].length := by omega
        have hb := ordA_len (l := l.take i) (fun r h => hlr r (List.mem_of_mem_take h))
        have hcl : (consT l[i] k).length = k - 1 := by simp [consT]
        have hq9 : (arcsO 0 J ++ ordA (l.take i) ++ consT l[i] k).length ≤ 1000000 := by
          rw [List.length_append, List.length_append, hcl]
          have : (l.take i).length ≤ 100 := by simp; omega
          omega
        refine KC.skip ?_
        refine thenK_n ?_
        refine KC.seq ?_
        refine KC.block ?_
        refine KC.draw Tryz.mixed ?_
        refine KT.step rfl rfl (K.loadOA [flV c2 J.flatten, flV c2 (arcsO 0 J ++ ordA (l.take i) ++ consT l[i] k), .sl ((msO N.toNat J.flatten).map intsV) N.toNat (some N.toNat)] rfl y0 (by decide) Tryz.agg47 Tryz.size47 rfl) ?_
        refine KT.step rfl rfl (K.move rfl) ?_
        refine KT.step rfl rfl (K.move rfl) ?_
        refine KT.step rfl rfl (K.sub rfl rfl (wrap_id (by omega))) ?_
        refine KT.idxI (m := k - 1) rfl rfl rfl hrow (by exact congrArg (fun z => some (XV.d (DI z))) (show (k : Int) - 1 = ((k - 1 : Nat) : Int) by omega)) (by omega) Tryz.underlying36 Tryz.size3 fun cs33 => ?_
        refine KT.step rfl rfl (K.load rfl Tryz.agg3) ?_
        refine KT.step rfl rfl (K.move rfl) ?_
        refine KT.step rfl rfl (K.move rfl) ?_
        refine KT.idxI (m := k) rfl rfl rfl hrow rfl (by omega) Tryz.underlying36 Tryz.size3 fun cs37 => ?_
        refine KT.step rfl rfl (K.load rfl Tryz.agg3) ?_
        have g1 : l[i][k - 1] = l[i].getD (k - 1) 0 := by simp [show k - 1 < l[i].length by omega]
        have g2 : l[i][k] = l[i].getD k 0 := by simp [hkl]
        rw [g1, g2]
        refine KT.step rfl rfl (K.buildS rfl (build121_2 _ _)) ?_
        refine KT.step rfl rfl (K.call2 rfl rfl plainTryz_35 (with_flV (flV_sld _) (.sl _ _ _) (by omega) (l[i].getD (k - 1) 0, l[i].getD k 0))) ?_
        refine KT.putAll (cs := [.d (flV c2 J.flatten), .d (flV c2 ((arcsO 0 J ++ ordA (l.take i) ++ consT l[i] k) ++ [(l[i].getD (k - 1) 0, l[i].getD k 0)])), .d (.sl ((msO N.toNat J.flatten).map intsV) N.toNat (some N.toNat))]) rfl rfl rfl rfl y0 rfl rfl (one3 (flV_sld _) (.sl _ _ _) (flV_sld _).one) Tryz.size47 ?_
        refine KT.nil ?_
        refine ⟨by kernel_rfl, ?_⟩
        refine blockK_n ?_
        refine thenK_n ?_
        refine KC.region ?_
        refine KT.step rfl rfl (K.move rfl) ?_
        refine KT.step rfl rfl (K.add rfl rfl (wrap_id (by omega))) ?_
        refine KT.step rfl rfl (K.assign rfl) ?_
        refine KT.nil ?_
        refine thenK_n ?_
        refine ⟨(_, k + 1), ⟨⟨by simp only; omega, .inl (by simp only; omega)⟩, ?_, ?_⟩, by simp only; omega, rfl, by simp [Go.Vm.look, extK]⟩
        · simp only
          rw [List.getElem?_set_self (lt_of_get y0), List.append_assoc _ _ [_], ← consT_succ _ _ (by omega)]
        · simp only
          rw [List.getElem?_set_ne (by decide)]; exact y1
      · skip
        replace hc26 := of_decide_eq_false hc26
        refine KC.exit ?_
        refine thenK_x ?_
        refine thenK_x ?_
        refine blockK_e ?_
        refine blockK_n ?_
        refine thenK_n ?_
        refine KC.region ?_
        refine KT.step rfl rfl (K.add rfl rfl (wrap_id (by omega))) ?_
        refine KT.step rfl rfl (K.move rfl) ?_
        refine KT.nil ?_
        refine thenK_n ?_
        have hk2 : consT l[i] k = consT l[i] l[i].length := by
          rcases Nat.lt_or_ge k l[i].length with h | h
          · exact absurd h (by omega)
          · unfold consT
            congr 2
            omega
        rw [hk2, List.append_assoc, ← ordA_take hil] at y0
        exact ⟨(σ1, i + 1), ⟨by simp only; omega, y0, y1⟩, by simp only; omega, rfl, by simp [Go.Vm.look, extK]⟩
    · skip
      replace hc20 := of_decide_eq_false hc20
      have et0 : l.take i = l := List.take_of_length_le (by omega)
      refine KC.exit ?_
      refine thenK_x ?_
      refine thenK_x ?_
      refine blockK_e ?_
      refine thenK_n ?_
      refine KC.seq ?_
      refine KC.region ?_
      refine KT.step rfl rfl (K.loadOA [flV c2 J.flatten, flV c2 (arcsO 0 J ++ ordA (l.take i)), .sl ((msO N.toNat J.flatten).map intsV) N.toNat (some N.toNat)] rfl y0 (by decide) Tryz.agg47 Tryz.size47 rfl) ?_
      refine KT.putAll (cs := [.d (flV c2 J.flatten), .d (flV c2 (arcsO 0 J ++ ordA (l.take i))), .d (.sl ((msO N.toNat J.flatten).map intsV) N.toNat (some N.toNat))]) rfl rfl rfl rfl y1 rfl rfl (one3 (flV_sld _) (.sl _ _ _) (flV_sld _).one) Tryz.size47 ?_
      refine KT.step rfl rfl (K.assign rfl) ?_
      refine KT.nil ?_
      refine thenK_n ?_
      refine KC.ret ?_
      have et : l.take i = l := List.take_of_length_le (by omega)
      rw [et]
      exact ⟨.inl rfl, _, resK_ct [flV c2 J.flatten, flV c2 (arcsO 0 J ++ ordA l), .sl ((msO N.toNat J.flatten).map intsV) N.toNat (some N.toNat)] rfl rfl (List.getElem?_set_self (lt_of_get y1)) (show (0 : Nat) < 2 by decide) Tryz.agg47 Tryz.size47 rfl rfl, rfl⟩
end Go.Proofs.YtdgahcbalabjdaaGreat

