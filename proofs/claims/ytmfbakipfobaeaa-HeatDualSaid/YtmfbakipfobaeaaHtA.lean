import Derived.Test.YtmfbakipfobaeaaHtGu
import Derived.Test.YtmfbakipfobaeaaProg
import Derived.KernelRfl
/-
  Heat: streams and their surplus.
-/
namespace Go.Proofs.Ytmfbakipfobaeaa
open Go.Vm Go.Ht
theorem Try.mixed : Try.prog.follows .mixedOrders = true := by kernel_rfl
theorem Try.agg3 : isAggT Try.prog 3 = some false := by kernel_rfl
theorem Try.size3 : sizeT Try.prog 3 = some 1 := by kernel_rfl
theorem Try.one3 : OneT Try.prog 3 (.int .i64 0) := ⟨by kernel_rfl, by kernel_rfl, rfl, of_decide_eq_true (by kernel_rfl)⟩
theorem Try.agg4 : isAggT Try.prog 4 = some false := by kernel_rfl
theorem Try.size4 : sizeT Try.prog 4 = some 1 := by kernel_rfl
theorem Try.one4 : OneT Try.prog 4 (.bool false) := ⟨by kernel_rfl, by kernel_rfl, rfl, of_decide_eq_true (by kernel_rfl)⟩
theorem Try.agg5 : isAggT Try.prog 5 = some false := by kernel_rfl
theorem Try.size5 : sizeT Try.prog 5 = some 1 := by kernel_rfl
theorem Try.one5 : OneT Try.prog 5 (.int .u8 0) := ⟨by kernel_rfl, by kernel_rfl, rfl, of_decide_eq_true (by kernel_rfl)⟩
theorem Try.agg9 : isAggT Try.prog 9 = some false := by kernel_rfl
theorem Try.size9 : sizeT Try.prog 9 = some 1 := by kernel_rfl
theorem Try.agg23 : isAggT Try.prog 23 = some false := by kernel_rfl
theorem Try.size23 : sizeT Try.prog 23 = some 1 := by kernel_rfl
theorem Try.one23 : OneT Try.prog 23 (.slice none 0 0) := ⟨by kernel_rfl, by kernel_rfl, rfl, of_decide_eq_true (by kernel_rfl)⟩
theorem Try.agg24 : isAggT Try.prog 24 = some false := by kernel_rfl
theorem Try.size24 : sizeT Try.prog 24 = some 1 := by kernel_rfl
theorem Try.one24 : OneT Try.prog 24 (.int .i64 0) := ⟨by kernel_rfl, by kernel_rfl, rfl, of_decide_eq_true (by kernel_rfl)⟩
theorem Try.agg27 : isAggT Try.prog 27 = some false := by kernel_rfl
theorem Try.size27 : sizeT Try.prog 27 = some 1 := by kernel_rfl
theorem Try.one27 : OneT Try.prog 27 (.slice none 0 0) := ⟨by kernel_rfl, by kernel_rfl, rfl, of_decide_eq_true (by kernel_rfl)⟩
theorem Try.agg22 : isAggT Try.prog 22 = some false := by kernel_rfl
theorem Try.size22 : sizeT Try.prog 22 = some 1 := by kernel_rfl
theorem Try.one22 : OneT Try.prog 22 (.slice none 0 0) := ⟨by kernel_rfl, by kernel_rfl, rfl, of_decide_eq_true (by kernel_rfl)⟩
theorem Try.agg78 : isAggT Try.prog 78 = some true := by kernel_rfl
theorem Try.size78 : sizeT Try.prog 78 = some 3 := by kernel_rfl
theorem Try.zero78 : zeroT Try.prog 78 = some (.agg #[.int .i64 0, .int .i64 0, .int .i64 0]) := by kernel_rfl
theorem Try.fld78_0 : fieldT Try.prog 78 0 = some { name := "In", type := 3, offset := 0, embedded := false, tag := "", pkgPath := "", byteOffset := 0 } := by kernel_rfl
theorem Try.fld78_1 : fieldT Try.prog 78 1 = some { name := "Out", type := 3, offset := 1, embedded := false, tag := "", pkgPath := "", byteOffset := 8 } := by kernel_rfl
theorem Try.fld78_2 : fieldT Try.prog 78 2 = some { name := "Rate", type := 3, offset := 2, embedded := false, tag := "", pkgPath := "", byteOffset := 16 } := by kernel_rfl
theorem Try.places78 : (match Try.prog.underlying 78 with | some (.struct fs) => placesT Try.prog fs | _ => none) = some #[(0, 1), (1, 1), (2, 1)] := by kernel_rfl
theorem Try.agg63 : isAggT Try.prog 63 = some true := by kernel_rfl
theorem Try.size63 : sizeT Try.prog 63 = some 3 := by kernel_rfl
theorem Try.zero63 : zeroT Try.prog 63 = some (.agg #[.int .i64 0, .int .i64 0, .int .i64 0]) := by kernel_rfl
theorem Try.fld63_0 : fieldT Try.prog 63 0 = some { name := "In", type := 3, offset := 0, embedded := false, tag := "", pkgPath := "", byteOffset := 0 } := by kernel_rfl
theorem Try.fld63_1 : fieldT Try.prog 63 1 = some { name := "Out", type := 3, offset := 1, embedded := false, tag := "", pkgPath := "", byteOffset := 8 } := by kernel_rfl
theorem Try.fld63_2 : fieldT Try.prog 63 2 = some { name := "Rate", type := 3, offset := 2, embedded := false, tag := "", pkgPath := "", byteOffset := 16 } := by kernel_rfl
theorem Try.places63 : (match Try.prog.underlying 63 with | some (.struct fs) => placesT Try.prog fs | _ => none) = some #[(0, 1), (1, 1), (2, 1)] := by kernel_rfl
theorem Try.agg73 : isAggT Try.prog 73 = some false := by kernel_rfl
theorem Try.size73 : sizeT Try.prog 73 = some 1 := by kernel_rfl
theorem Try.one73 : OneT Try.prog 73 (.slice none 0 0) := ⟨by kernel_rfl, by kernel_rfl, rfl, of_decide_eq_true (by kernel_rfl)⟩
theorem Try.agg98 : isAggT Try.prog 98 = some true := by kernel_rfl
theorem Try.size98 : sizeT Try.prog 98 = some 5 := by kernel_rfl
theorem Try.zero98 : zeroT Try.prog 98 = some (.agg #[.int .i64 0, .int .i64 0, .int .i64 0, .int .i64 0, .int .i64 0]) := by kernel_rfl
theorem Try.fld98_0 : fieldT Try.prog 98 0 = some { name := "Stream", type := 78, offset := 0, embedded := true, tag := "", pkgPath := "", byteOffset := 0 } := by kernel_rfl
theorem Try.fld98_1 : fieldT Try.prog 98 1 = some { name := "upper", type := 3, offset := 3, embedded := false, tag := "", pkgPath := "massecuite/heat", byteOffset := 24 } := by kernel_rfl
theorem Try.fld98_2 : fieldT Try.prog 98 2 = some { name := "lower", type := 3, offset := 4, embedded := false, tag := "", pkgPath := "massecuite/heat", byteOffset := 32 } := by kernel_rfl
theorem Try.places98 : (match Try.prog.underlying 98 with | some (.struct fs) => placesT Try.prog fs | _ => none) = some #[(0, 3), (3, 1), (4, 1)] := by kernel_rfl
theorem Try.agg75 : isAggT Try.prog 75 = some true := by kernel_rfl
theorem Try.size75 : sizeT Try.prog 75 = some 2 := by kernel_rfl
theorem Try.zero75 : zeroT Try.prog 75 = some (.agg #[.slice none 0 0, .slice none 0 0]) := by kernel_rfl
theorem Try.fld75_0 : fieldT Try.prog 75 0 = some { name := "spans", type := 73, offset := 0, embedded := false, tag := "", pkgPath := "massecuite/heat", byteOffset := 0 } := by kernel_rfl
theorem Try.fld75_1 : fieldT Try.prog 75 1 = some { name := "levels", type := 23, offset := 1, embedded := false, tag := "", pkgPath := "massecuite/heat", byteOffset := 24 } := by kernel_rfl
theorem Try.places75 : (match Try.prog.underlying 75 with | some (.struct fs) => placesT Try.prog fs | _ => none) = some #[(0, 1), (1, 1)] := by kernel_rfl
theorem plainTry_46 : plainFn Try.prog 46 = true := by kernel_rfl
theorem plainTry_61 : plainFn Try.prog 61 = true := by kernel_rfl
theorem plainTry_68 : plainFn Try.prog 68 = true := by kernel_rfl
theorem plainTry_62 : plainFn Try.prog 62 = true := by kernel_rfl
theorem plainTry_69 : plainFn Try.prog 69 = true := by kernel_rfl
theorem plainTry_53 : plainFn Try.prog 53 = true := by kernel_rfl
theorem build98_5 (a b r x y : Int) : opBuild Try.prog 98 [(0, .d (.agg [DI a, DI b, DI r])), (1, .d (DI x)), (2, .d (DI y))] = some (.d (.agg [DI a, DI b, DI r, DI x, DI y])) := by kernel_rfl
set_option maxRecDepth 10000 in
theorem in46 (x lo hi : Int) : DeepCall Try.prog 46 [DI x, DI lo, DI hi] (DB (decide (lo ≤ x) && decide (x ≤ hi))) := by
  refine deepCall_K 5 Try.func46 rfl (Nat.le_of_ble_eq_true rfl) fun M W0 => ?_
  refine KC.seq ?_
  refine KC.region ?_
  refine KT.step rfl rfl (K.assign rfl) ?_
  refine KT.nil ?_
  refine thenK_n ?_
  refine KC.seq ?_
  refine KC.region ?_
  refine KT.step rfl rfl (K.move rfl) ?_
  refine KT.step rfl rfl (K.move rfl) ?_
  refine KT.step rfl rfl (K.leq rfl rfl) ?_
  refine KT.step rfl rfl (K.move rfl) ?_
  refine KT.bcase (fun hb10 => ?_) (fun hb10 => ?_)
  · skip
    replace hb10 := of_decide_eq_true hb10
    refine KT.step rfl rfl (K.move rfl) ?_
    refine KT.step rfl rfl (K.move rfl) ?_
    refine KT.step rfl rfl (K.leq rfl rfl) ?_
    refine KT.step rfl rfl (K.pick rfl (fun _ => rfl) (fun h => by cases h)) ?_
    refine KT.step rfl rfl (K.assign rfl) ?_
    refine KT.nil ?_
    refine thenK_n ?_
    refine KC.ret ?_
    exact ⟨.inl rfl, _, rfl, fin_b (by rw [decide_eq_true hb10, Bool.true_and])⟩
  · skip
    replace hb10 := of_decide_eq_false hb10
    refine KT.skip rfl rfl ?_
    refine KT.skip rfl rfl ?_
    refine KT.skip rfl rfl ?_
    refine KT.step rfl rfl (K.pick rfl (fun h => by cases h) (fun _ => rfl)) ?_
    refine KT.step rfl rfl (K.assign rfl) ?_
    refine KT.nil ?_
    refine thenK_n ?_
    refine KC.ret ?_
    exact ⟨.inl rfl, _, rfl, fin_b (by rw [decide_eq_false hb10]; rfl)⟩
set_option maxRecDepth 10000 in
theorem valid61 (s : Sm) : DeepCall Try.prog 61 [.agg (c3 s)] (DB s.ok) := by
  refine deepCall_K 5 Try.func61 rfl (Nat.le_of_ble_eq_true rfl) fun M W0 => ?_
  refine KC.seq ?_
  refine KC.region ?_
  refine KT.step rfl rfl (K.box rfl) ?_
  refine KT.step rfl rfl (K.assign rfl) ?_
  refine KT.nil ?_
  refine thenK_n ?_
  refine KC.seq ?_
  refine KC.region ?_
  refine KT.step rfl rfl (K.fieldAddrO rfl Try.fld78_0 Try.size3) ?_
  refine KT.step rfl rfl (K.loadO rfl rfl (by simp) rfl Try.agg3) ?_
  refine KT.step rfl rfl (K.call3 rfl rfl rfl plainTry_46 (in46 _ _ _)) ?_
  refine KT.step rfl rfl (K.move rfl) ?_
  refine KT.bcase (fun hb6 => ?_) (fun hb6 => ?_)
  · skip
    refine KT.step rfl rfl (K.fieldAddrO rfl Try.fld78_1 Try.size3) ?_
    refine KT.step rfl rfl (K.loadO rfl rfl (by simp) rfl Try.agg3) ?_
    refine KT.step rfl rfl (K.call3 rfl rfl rfl plainTry_46 (in46 _ _ _)) ?_
    refine KT.step rfl rfl (K.pick rfl (fun _ => rfl) (fun h => by cases h)) ?_
    refine KT.step rfl rfl (K.move rfl) ?_
    refine KT.bcase (fun hb11 => ?_) (fun hb11 => ?_)
    · skip
      refine KT.step rfl rfl (K.fieldAddrO rfl Try.fld78_0 Try.size3) ?_
      refine KT.step rfl rfl (K.loadO rfl rfl (by simp) rfl Try.agg3) ?_
      refine KT.step rfl rfl (K.fieldAddrO rfl Try.fld78_1 Try.size3) ?_
      refine KT.step rfl rfl (K.loadO rfl rfl (by simp) rfl Try.agg3) ?_
      refine KT.step rfl rfl (K.neq rfl rfl) ?_
      refine KT.step rfl rfl (K.pick rfl (fun _ => rfl) (fun h => by cases h)) ?_
      refine KT.step rfl rfl (K.move rfl) ?_
      refine KT.bcase (fun hb18 => ?_) (fun hb18 => ?_)
      · skip
        replace hb18 := of_decide_eq_true hb18
        refine KT.step rfl rfl (K.fieldAddrO rfl Try.fld78_2 Try.size3) ?_
        refine KT.step rfl rfl (K.loadO rfl rfl (by simp) rfl Try.agg3) ?_
        refine KT.step rfl rfl (K.call3 rfl rfl rfl plainTry_46 (in46 _ _ _)) ?_
        refine KT.step rfl rfl (K.pick rfl (fun _ => rfl) (fun h => by cases h)) ?_
        refine KT.step rfl rfl (K.assign rfl) ?_
        refine KT.nil ?_
        refine thenK_n ?_
        refine KC.ret ?_
        exact ⟨.inl rfl, _, rfl, fin_b (by simp only [Sm.ok, hb6, hb11, decide_eq_true hb18, Bool.true_and])⟩
      · skip
        replace hb18 := of_decide_eq_false hb18
        refine KT.skip rfl rfl ?_
        refine KT.skip rfl rfl ?_
        refine KT.skip rfl rfl ?_
        refine KT.step rfl rfl (K.pick rfl (fun h => by cases h) (fun _ => rfl)) ?_
        refine KT.step rfl rfl (K.assign rfl) ?_
        refine KT.nil ?_
        refine thenK_n ?_
        refine KC.ret ?_
        exact ⟨.inl rfl, _, rfl, fin_b (by simp only [Sm.ok, hb6, hb11, Bool.true_and, decide_eq_false (fun h => hb18 h), Bool.false_and])⟩
    · skip
      refine KT.skip rfl rfl ?_
      refine KT.skip rfl rfl ?_
      refine KT.skip rfl rfl ?_
      refine KT.skip rfl rfl ?_
      refine KT.skip rfl rfl ?_
      refine KT.step rfl rfl (K.pick rfl (fun h => by cases h) (fun _ => rfl)) ?_
      refine KT.step rfl rfl (K.move rfl) ?_
      refine KT.skip rfl rfl ?_
      refine KT.skip rfl rfl ?_
      refine KT.skip rfl rfl ?_
      refine KT.step rfl rfl (K.pick rfl (fun h => by cases h) (fun _ => rfl)) ?_
      refine KT.step rfl rfl (K.assign rfl) ?_
      refine KT.nil ?_
      refine thenK_n ?_
      refine KC.ret ?_
      exact ⟨.inl rfl, _, rfl, fin_b (by simp only [Sm.ok, hb6, hb11, Bool.true_and, Bool.false_and])⟩
  · skip
    refine KT.skip rfl rfl ?_
    refine KT.skip rfl rfl ?_
    refine KT.skip rfl rfl ?_
    refine KT.step rfl rfl (K.pick rfl (fun h => by cases h) (fun _ => rfl)) ?_
    refine KT.step rfl rfl (K.move rfl) ?_
    refine KT.skip rfl rfl ?_
    refine KT.skip rfl rfl ?_
    refine KT.skip rfl rfl ?_
    refine KT.skip rfl rfl ?_
    refine KT.skip rfl rfl ?_
    refine KT.step rfl rfl (K.pick rfl (fun h => by cases h) (fun _ => rfl)) ?_
    refine KT.step rfl rfl (K.move rfl) ?_
    refine KT.skip rfl rfl ?_
    refine KT.skip rfl rfl ?_
    refine KT.skip rfl rfl ?_
    refine KT.step rfl rfl (K.pick rfl (fun h => by cases h) (fun _ => rfl)) ?_
    refine KT.step rfl rfl (K.assign rfl) ?_
    refine KT.nil ?_
    refine thenK_n ?_
    refine KC.ret ?_
    exact ⟨.inl rfl, _, rfl, fin_b (by simp only [Sm.ok, hb6, Bool.false_and])⟩
set_option maxRecDepth 10000 in
theorem hot68 (s : Sm) : DeepCall Try.prog 68 [.agg (c3 s)] (DB (hot s)) := by
  refine deepCall_K 5 Try.func68 rfl (Nat.le_of_ble_eq_true rfl) fun M W0 => ?_
  refine KC.seq ?_
  refine KC.region ?_
  refine KT.step rfl rfl (K.box rfl) ?_
  refine KT.step rfl rfl (K.assign rfl) ?_
  refine KT.nil ?_
  refine thenK_n ?_
  refine KC.seq ?_
  refine KC.region ?_
  refine KT.step rfl rfl (K.fieldAddrO rfl Try.fld78_0 Try.size3) ?_
  refine KT.step rfl rfl (K.loadO rfl rfl (by simp) rfl Try.agg3) ?_
  refine KT.step rfl rfl (K.fieldAddrO rfl Try.fld78_1 Try.size3) ?_
  refine KT.step rfl rfl (K.loadO rfl rfl (by simp) rfl Try.agg3) ?_
  refine KT.step rfl rfl (K.gtr rfl rfl) ?_
  refine KT.step rfl rfl (K.assign rfl) ?_
  refine KT.nil ?_
  refine thenK_n ?_
  refine KC.ret ?_
  exact ⟨.inl rfl, _, rfl, fin_d rfl⟩
set_option maxRecDepth 10000 in
theorem shifted62 {s : Sm} {gap : Int} (hok : s.ok = true) (h0 : 0 ≤ gap) (h1 : gap ≤ 20) : DeepCall Try.prog 62 [.agg (c3 s), DI gap] (.agg (c5 gap s)) := by
  obtain ⟨q1, q2, q3, q4, q5, q6, q7⟩ := Sm.ok_iff.1 hok
  refine deepCall_K 5 Try.func62 rfl (Nat.le_of_ble_eq_true rfl) fun M W0 => ?_
  refine KC.seq ?_
  refine KC.region ?_
  refine KT.step rfl rfl (K.box rfl) ?_
  refine KT.step rfl rfl (K.alloc Try.zero98) ?_
  refine KT.nil ?_
  refine thenK_n ?_
  refine KC.seq ?_
  refine KC.seq ?_
  refine KC.region ?_
  refine KT.step rfl rfl (K.loadOA (c3 s) rfl rfl (by decide) Try.agg78 Try.size78 rfl) ?_
  refine KT.step rfl rfl (K.call1 rfl plainTry_68 (hot68 s)) ?_
  refine KT.nil ?_
  refine thenK_n ?_
  refine KC.cond rfl (fun hc6 => ?_) (fun hc6 => ?_)
  · skip
    refine KC.seq ?_
    refine KC.region ?_
    refine KT.step rfl rfl (K.loadOA (c3 s) rfl rfl (by decide) Try.agg78 Try.size78 rfl) ?_
    refine KT.step rfl rfl (K.fieldAddrO rfl Try.fld78_0 Try.size3) ?_
    refine KT.step rfl rfl (K.loadO rfl rfl (by simp) rfl Try.agg3) ?_
    refine KT.step rfl rfl (K.move rfl) ?_
    refine KT.step rfl rfl (K.sub rfl rfl (wrap_id (by omega))) ?_
    refine KT.step rfl rfl (K.fieldAddrO rfl Try.fld78_1 Try.size3) ?_
    refine KT.step rfl rfl (K.loadO rfl rfl (by simp) rfl Try.agg3) ?_
    refine KT.step rfl rfl (K.move rfl) ?_
    refine KT.step rfl rfl (K.sub rfl rfl (wrap_id (by omega))) ?_
    refine KT.step rfl rfl (K.buildS rfl (build98_5 _ _ _ _ _)) ?_
    refine KT.putAll rfl rfl rfl rfl rfl rfl rfl rfl Try.size98 ?_
    refine KT.nil ?_
    refine thenK_n ?_
    refine KC.ret ?_
    refine thenK_r ?_
    exact ⟨.inl rfl, _, resK_c (c5 gap s) rfl rfl (by simp only [c5, up, lo, hc6, if_true]; rfl) (by decide) Try.agg98 Try.size98 rfl, rfl⟩
  · skip
    refine KC.skip ?_
    refine thenK_n ?_
    refine KC.seq ?_
    refine KC.region ?_
    refine KT.step rfl rfl (K.loadOA (c3 s) rfl rfl (by decide) Try.agg78 Try.size78 rfl) ?_
    refine KT.step rfl rfl (K.fieldAddrO rfl Try.fld78_1 Try.size3) ?_
    refine KT.step rfl rfl (K.loadO rfl rfl (by simp) rfl Try.agg3) ?_
    refine KT.step rfl rfl (K.fieldAddrO rfl Try.fld78_0 Try.size3) ?_
    refine KT.step rfl rfl (K.loadO rfl rfl (by simp) rfl Try.agg3) ?_
    refine KT.step rfl rfl (K.buildS rfl (build98_5 _ _ _ _ _)) ?_
    refine KT.putAll rfl rfl rfl rfl rfl rfl rfl rfl Try.size98 ?_
    refine KT.nil ?_
    refine thenK_n ?_
    refine KC.ret ?_
    exact ⟨.inl rfl, _, resK_c (c5 gap s) rfl rfl (by simp only [c5, up, lo, hc6]; rfl) (by decide) Try.agg98 Try.size98 rfl, rfl⟩
set_option maxRecDepth 10000 in
theorem heat69 {s : Sm} {gap u d : Int} (hok : s.ok = true) (h0 : 0 ≤ gap) (h1 : gap ≤ 20) (hu : -2000 ≤ u ∧ u ≤ 2000) (hd : -2000 ≤ d ∧ d ≤ 2000) : DeepCall Try.prog 69 [.agg (c5 gap s), DI u, DI d] (DI (ht gap s u d)) := by
  have hb := ht_bd (gap := gap) hok u d
  have he := ends_in hok h0 h1
  refine deepCall_K 5 Try.func69 rfl (Nat.le_of_ble_eq_true rfl) fun M W0 => ?_
  refine KC.seq ?_
  refine KC.region ?_
  refine KT.step rfl rfl (K.box rfl) ?_
  refine KT.step rfl rfl (K.assign rfl) ?_
  refine KT.nil ?_
  refine thenK_n ?_
  refine KC.seq ?_
  refine KC.region ?_
  refine KT.step rfl rfl (K.fieldAddrO rfl Try.fld98_0 Try.size78) ?_
  refine KT.step rfl rfl (K.fieldAddrO rfl Try.fld78_2 Try.size3) ?_
  refine KT.step rfl rfl (K.loadO rfl rfl (by simp) rfl Try.agg3) ?_
  refine KT.step rfl rfl (K.move rfl) ?_
  refine KT.step rfl rfl (K.fieldAddrO rfl Try.fld98_1 Try.size3) ?_
  refine KT.step rfl rfl (K.loadO rfl rfl (by simp) rfl Try.agg3) ?_
  refine KT.step rfl rfl (K.min2 rfl rfl) ?_
  refine KT.step rfl rfl (K.move rfl) ?_
  refine KT.step rfl rfl (K.fieldAddrO rfl Try.fld98_2 Try.size3) ?_
  refine KT.step rfl rfl (K.loadO rfl rfl (by simp) rfl Try.agg3) ?_
  refine KT.step rfl rfl (K.max2 rfl rfl) ?_
  refine KT.step rfl rfl (K.sub rfl rfl (wrap_id (by omega))) ?_
  refine KT.step rfl rfl (K.max2 rfl rfl) ?_
  refine KT.step rfl rfl (K.mul rfl rfl (wrap_id (by unfold ht at hb; omega))) ?_
  refine KT.step rfl rfl (K.assign rfl) ?_
  refine KT.nil ?_
  refine thenK_n ?_
  refine KC.ret ?_
  exact ⟨.inl rfl, _, rfl, fin_d rfl⟩
set_option maxRecDepth 10000 in
theorem surplus53 {l : List Sm} {gap u d : Int} {cs : Option Nat} {dl : DV} (_ : SlD dl) (hok : okH l gap = true) (hu : -2000 ≤ u ∧ u ≤ 2000) (hd : -2000 ≤ d ∧ d ≤ 2000) : DeepCall Try.prog 53 [.agg [.sl (l.flatMap (c5 gap)) l.length cs, dl], DI u, DI d] (DI (surp gap l u d)) := by
  obtain ⟨n1, n8, g0, g20, hall⟩ := okH_iff.1 hok
  refine deepCall_K 5 Try.func53 rfl (Nat.le_of_ble_eq_true rfl) fun M W0 => ?_
  refine KC.seq ?_
  refine KC.region ?_
  refine KT.step rfl rfl (K.box rfl) ?_
  refine KT.step rfl rfl (K.assign rfl) ?_
  refine KT.nil ?_
  refine thenK_n ?_
  refine KC.seq ?_
  refine KC.region ?_
  refine KT.step rfl rfl (K.assign rfl) ?_
  refine KT.nil ?_
  refine thenK_n ?_
  refine KC.seq ?_
  refine KC.seq ?_
  refine KC.region ?_
  refine KT.step rfl rfl (K.fieldAddrO rfl Try.fld75_0 Try.size73) ?_
  refine KT.step rfl rfl (K.loadO rfl rfl (by simp) rfl Try.agg73) ?_
  refine KT.step rfl rfl (K.lenF (f := c5 gap) (k := 5) rfl .sl Try.underlying73) ?_
  refine KT.step rfl rfl (K.move rfl) ?_
  refine KT.nil ?_
  refine thenK_n ?_
  refine KC.block ?_
  refine KC.loop (fun p : List VObj × Nat => p.1) (fun p => [(1, .d (DI u)), (2, .d (DI d)), (7, .d (DI (surp gap (l.take p.2) u d))), (11, .d (.sl (l.flatMap (c5 gap)) l.length cs)), (12, .d (DI (l.length : Nat))), (13, .d (DI (p.2 : Nat)))]) (fun p => p.2 ≤ l.length) (fun p => l.length - p.2) (_, 0) (Nat.zero_le _) rfl (by simp [Go.Vm.look, extK, enterK, surp]) ?_
  intro p hi
  refine KC.seq ?_
  refine KC.region ?_
  refine KT.step rfl rfl (K.lss rfl rfl) ?_
  refine KT.nil ?_
  refine thenK_n ?_
  refine KC.seq ?_
  refine KC.cond rfl (fun hc14 => ?_) (fun hc14 => ?_)
  · skip
    replace hc14 := of_decide_eq_true hc14
    refine KC.skip ?_
    refine thenK_n ?_
    refine KC.seq ?_
    refine KC.block ?_
    refine KC.seq ?_
    refine KC.region ?_
    refine KT.step rfl rfl (K.idxF (c5_len gap) (m := p.2) rfl .sl rfl (by omega) Try.underlying73 Try.size98) ?_
    refine KT.step rfl rfl (K.loadFl (cs := c5 gap l[p.2]) rfl rfl Try.agg98 Try.size98) ?_
    refine KT.step rfl rfl (K.alloc Try.zero98) ?_
    refine KT.storeL (cs := (c5 gap l[p.2]).map .d) rfl rfl rfl rfl rfl rfl rfl Try.size98 ?_
    refine KT.nil ?_
    refine thenK_n ?_
    refine KC.seq ?_
    refine KC.region ?_
    refine KT.step rfl rfl (K.fieldAddrO rfl Try.fld98_0 Try.size78) ?_
    refine KT.step rfl rfl (K.loadOP (c5 gap l[p.2]) rfl (List.getElem?_concat_length ..) (by decide) Try.agg78 Try.size78 (Nat.le_of_ble_eq_true rfl)) ?_
    refine KT.step rfl rfl (K.call1 rfl plainTry_68 (hot68 l[p.2])) ?_
    refine KT.nil ?_
    refine thenK_n ?_
    refine KC.cond rfl (fun hc19 => ?_) (fun hc19 => ?_)
    · skip
      refine KC.region ?_
      refine KT.step rfl rfl (K.move rfl) ?_
      refine KT.step rfl rfl (K.loadOA (c5 gap l[p.2]) rfl (List.getElem?_concat_length ..) (by decide) Try.agg98 Try.size98 rfl) ?_
      refine KT.step rfl rfl (K.move rfl) ?_
      refine KT.step rfl rfl (K.move rfl) ?_
      refine KT.step rfl rfl (K.call3 rfl rfl rfl plainTry_69 (heat69 (hall _ (List.getElem_mem _)) g0 g20 hu hd)) ?_
      have b1 := surp_take (gap := gap) hall n8 u d p.2
      have b2 := ht_bd (gap := gap) (hall _ (List.getElem_mem (show p.2 < l.length by omega))) u d
      refine KT.step rfl rfl (K.add rfl rfl (wrap_id (by omega))) ?_
      refine KT.step rfl rfl (K.assign rfl) ?_
      refine KT.nil ?_
      refine blockK_n ?_
      refine thenK_n ?_
      refine KC.region ?_
      refine KT.step rfl rfl (K.add rfl rfl (wrap_id (by omega))) ?_
      refine KT.step rfl rfl (K.move rfl) ?_
      refine KT.nil ?_
      refine thenK_n ?_
      refine ⟨(_, p.2 + 1), by simp only; omega, by simp only; omega, rfl, by simp [Go.Vm.look, extK, surp_snoc (show p.2 < l.length by omega), hs, hc19]⟩
    · skip
      refine KC.region ?_
      refine KT.step rfl rfl (K.move rfl) ?_
      refine KT.step rfl rfl (K.loadOA (c5 gap l[p.2]) rfl (List.getElem?_concat_length ..) (by decide) Try.agg98 Try.size98 rfl) ?_
      refine KT.step rfl rfl (K.move rfl) ?_
      refine KT.step rfl rfl (K.move rfl) ?_
      refine KT.step rfl rfl (K.call3 rfl rfl rfl plainTry_69 (heat69 (hall _ (List.getElem_mem _)) g0 g20 hu hd)) ?_
      have b1 := surp_take (gap := gap) hall n8 u d p.2
      have b2 := ht_bd (gap := gap) (hall _ (List.getElem_mem (show p.2 < l.length by omega))) u d
      refine KT.step rfl rfl (K.sub rfl rfl (wrap_id (by omega))) ?_
      refine KT.step rfl rfl (K.assign rfl) ?_
      refine KT.nil ?_
      refine blockK_n ?_
      refine thenK_n ?_
      refine KC.region ?_
      refine KT.step rfl rfl (K.add rfl rfl (wrap_id (by omega))) ?_
      refine KT.step rfl rfl (K.move rfl) ?_
      refine KT.nil ?_
      refine thenK_n ?_
      refine ⟨(_, p.2 + 1), by simp only; omega, by simp only; omega, rfl, by simp [Go.Vm.look, extK, surp_snoc (show p.2 < l.length by omega), hs, hc19]; omega⟩
  · skip
    replace hc14 := of_decide_eq_false hc14
    refine KC.exit ?_
    refine thenK_x ?_
    refine thenK_x ?_
    refine blockK_e ?_
    refine thenK_n ?_
    refine KC.seq ?_
    refine KC.region ?_
    refine KT.step rfl rfl (K.move rfl) ?_
    refine KT.step rfl rfl (K.assign rfl) ?_
    refine KT.nil ?_
    refine thenK_n ?_
    refine KC.ret ?_
    have e : l.take p.2 = l := List.take_of_length_le (by omega)
    rw [e]
    exact ⟨.inl rfl, _, rfl, fin_d rfl⟩
end Go.Proofs.Ytmfbakipfobaeaa

