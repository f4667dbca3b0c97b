import Derived.Test.YtdgahcbalabjdaaGreatCyN
import Derived.Test.YtdgahcbalabjdaaGreatProg
import Derived.KernelRfl
/-
  Batch: shops that are valid.
-/
namespace Go.Proofs.YtdgahcbalabjdaaGreat
open Go.Vm Go.Ht Go.Ba
theorem Tryz.mixed : Tryz.prog.follows .mixedOrders = true := by kernel_rfl
theorem Tryz.agg3 : isAggT Tryz.prog 3 = some false := by kernel_rfl
theorem Tryz.size3 : sizeT Tryz.prog 3 = some 1 := by kernel_rfl
theorem Tryz.one3 : OneT Tryz.prog 3 (.int .i64 0) := ⟨by kernel_rfl, by kernel_rfl, rfl, of_decide_eq_true (by kernel_rfl)⟩
theorem Tryz.agg4 : isAggT Tryz.prog 4 = some false := by kernel_rfl
theorem Tryz.size4 : sizeT Tryz.prog 4 = some 1 := by kernel_rfl
theorem Tryz.one4 : OneT Tryz.prog 4 (.bool false) := ⟨by kernel_rfl, by kernel_rfl, rfl, of_decide_eq_true (by kernel_rfl)⟩
theorem Tryz.agg36 : isAggT Tryz.prog 36 = some false := by kernel_rfl
theorem Tryz.size36 : sizeT Tryz.prog 36 = some 1 := by kernel_rfl
theorem Tryz.one36 : OneT Tryz.prog 36 (.slice none 0 0) := ⟨by kernel_rfl, by kernel_rfl, rfl, of_decide_eq_true (by kernel_rfl)⟩
theorem Tryz.agg25 : isAggT Tryz.prog 25 = some false := by kernel_rfl
theorem Tryz.size25 : sizeT Tryz.prog 25 = some 1 := by kernel_rfl
theorem Tryz.agg31 : isAggT Tryz.prog 31 = some true := by kernel_rfl
theorem Tryz.size31 : sizeT Tryz.prog 31 = some 2 := by kernel_rfl
theorem Tryz.zero31 : zeroT Tryz.prog 31 = some (.agg #[.int .i64 0, .slice none 0 0]) := by kernel_rfl
theorem Tryz.fld31_0 : fieldT Tryz.prog 31 0 = some { name := "Machines", type := 3, offset := 0, embedded := false, tag := "", pkgPath := "", byteOffset := 0 } := by kernel_rfl
theorem Tryz.fld31_1 : fieldT Tryz.prog 31 1 = some { name := "Jobs", type := 29, offset := 1, embedded := false, tag := "", pkgPath := "", byteOffset := 8 } := by kernel_rfl
theorem Tryz.agg60 : isAggT Tryz.prog 60 = some true := by kernel_rfl
theorem Tryz.size60 : sizeT Tryz.prog 60 = some 2 := by kernel_rfl
theorem Tryz.zero60 : zeroT Tryz.prog 60 = some (.agg #[.int .i64 0, .int .i64 0]) := by kernel_rfl
theorem Tryz.fld60_0 : fieldT Tryz.prog 60 0 = some { name := "Machine", type := 3, offset := 0, embedded := false, tag := "", pkgPath := "", byteOffset := 0 } := by kernel_rfl
theorem Tryz.fld60_1 : fieldT Tryz.prog 60 1 = some { name := "Time", type := 3, offset := 1, embedded := false, tag := "", pkgPath := "", byteOffset := 8 } := by kernel_rfl
theorem Tryz.agg44 : isAggT Tryz.prog 44 = some false := by kernel_rfl
theorem Tryz.size44 : sizeT Tryz.prog 44 = some 1 := by kernel_rfl
theorem Tryz.one44 : OneT Tryz.prog 44 (.slice none 0 0) := ⟨by kernel_rfl, by kernel_rfl, rfl, of_decide_eq_true (by kernel_rfl)⟩
theorem Tryz.agg29 : isAggT Tryz.prog 29 = some false := by kernel_rfl
theorem Tryz.size29 : sizeT Tryz.prog 29 = some 1 := by kernel_rfl
theorem Tryz.size106 : sizeT Tryz.prog 106 = some 4 := by kernel_rfl
theorem Tryz.zero106 : zeroT Tryz.prog 106 = some (.agg #[.bool false, .bool false, .bool false, .bool false]) := by kernel_rfl
theorem Tryz.agg47 : isAggT Tryz.prog 47 = some true := by kernel_rfl
theorem Tryz.size47 : sizeT Tryz.prog 47 = some 3 := by kernel_rfl
theorem Tryz.zero47 : zeroT Tryz.prog 47 = some (.agg #[.slice none 0 0, .slice none 0 0, .slice none 0 0]) := by kernel_rfl
theorem Tryz.fld47_0 : fieldT Tryz.prog 47 0 = some { name := "ops", type := 44, offset := 0, embedded := false, tag := "", pkgPath := "massecuite/batch", byteOffset := 0 } := by kernel_rfl
theorem Tryz.fld47_1 : fieldT Tryz.prog 47 1 = some { name := "arcs", type := 45, offset := 1, embedded := false, tag := "", pkgPath := "massecuite/batch", byteOffset := 24 } := by kernel_rfl
theorem Tryz.fld47_2 : fieldT Tryz.prog 47 2 = some { name := "machines", type := 25, offset := 2, embedded := false, tag := "", pkgPath := "massecuite/batch", byteOffset := 48 } := by kernel_rfl
theorem Tryz.agg78 : isAggT Tryz.prog 78 = some true := by kernel_rfl
theorem Tryz.size78 : sizeT Tryz.prog 78 = some 2 := by kernel_rfl
theorem Tryz.zero78 : zeroT Tryz.prog 78 = some (.agg #[.int .i64 0, .int .i64 0]) := by kernel_rfl
theorem Tryz.fld78_0 : fieldT Tryz.prog 78 0 = some { name := "from", type := 3, offset := 0, embedded := false, tag := "", pkgPath := "massecuite/batch", byteOffset := 0 } := by kernel_rfl
theorem Tryz.fld78_1 : fieldT Tryz.prog 78 1 = some { name := "to", type := 3, offset := 1, embedded := false, tag := "", pkgPath := "massecuite/batch", byteOffset := 8 } := by kernel_rfl
theorem Tryz.agg45 : isAggT Tryz.prog 45 = some false := by kernel_rfl
theorem Tryz.size45 : sizeT Tryz.prog 45 = some 1 := by kernel_rfl
theorem plainTryz_30 : plainFn Tryz.prog 30 = true := by kernel_rfl
theorem plainTryz_31 : plainFn Tryz.prog 31 = true := by kernel_rfl
theorem plainTryz_20 : plainFn Tryz.prog 20 = true := by kernel_rfl
theorem plainTryz_15 : plainFn Tryz.prog 15 = true := by kernel_rfl
theorem plainTryz_68 : plainFn Tryz.prog 68 = true := by kernel_rfl
theorem plainTryz_49 : plainFn Tryz.prog 49 = true := by kernel_rfl
theorem zero4 : pureRun Tryz.prog (Instr.build 106 #[]) = some (.agg #[.bool false, .bool false, .bool false, .bool false]) := by kernel_rfl
theorem build121_2 (x y : Int) : opBuild Tryz.prog 78 [(0, .d (DI x)), (1, .d (DI y))] = some (.d (.agg [DI x, DI y])) := by kernel_rfl
set_option maxRecDepth 10000 in
theorem in57 (x lo hi : Int) : DeepCall Tryz.prog 30 [DI x, DI lo, DI hi] (DB (decide (lo ≤ x) && decide (x ≤ hi))) := by
  refine deepCall_K 5 Tryz.func30 rfl (Nat.le_of_ble_eq_true rfl) fun M W0 => ?_
  refine KC.seq ?_
  refine KC.region ?_
  refine KT.step rfl rfl (K.assign rfl) ?_
  refine KT.nil ?_
  refine thenK_n ?_
  refine KC.seq ?_
  refine KC.region ?_
  refine KT.step rfl rfl (K.move rfl) ?_
  refine KT.step rfl rfl (K.move rfl) ?_
  refine KT.step rfl rfl (K.leq rfl rfl) ?_
  refine KT.step rfl rfl (K.move rfl) ?_
  refine KT.bcase (fun hb10 => ?_) (fun hb10 => ?_)
  · skip
    replace hb10 := of_decide_eq_true hb10
    refine KT.step rfl rfl (K.move rfl) ?_
    refine KT.step rfl rfl (K.move rfl) ?_
    refine KT.step rfl rfl (K.leq rfl rfl) ?_
    refine KT.step rfl rfl (K.pick rfl (fun _ => rfl) (fun h => by cases h)) ?_
    refine KT.step rfl rfl (K.assign rfl) ?_
    refine KT.nil ?_
    refine thenK_n ?_
    refine KC.ret ?_
    exact ⟨.inl rfl, _, rfl, fin_b (by rw [decide_eq_true hb10, Bool.true_and])⟩
  · skip
    replace hb10 := of_decide_eq_false hb10
    refine KT.skip rfl rfl ?_
    refine KT.skip rfl rfl ?_
    refine KT.skip rfl rfl ?_
    refine KT.step rfl rfl (K.pick rfl (fun h => by cases h) (fun _ => rfl)) ?_
    refine KT.step rfl rfl (K.assign rfl) ?_
    refine KT.nil ?_
    refine thenK_n ?_
    refine KC.ret ?_
    exact ⟨.inl rfl, _, rfl, fin_b (by rw [decide_eq_false hb10]; rfl)⟩
set_option maxRecDepth 10000 in
theorem isJob69 {N : Int} {d jd : DV} {j : List (Int × Int)} (hd : PrD d j) (hl : j.length ≤ 9223372036854775807) (m1 : 1 ≤ N) (m4 : N ≤ 4) : DeepCall Tryz.prog 31 [.agg [DI N, jd], d] (DB (jobB N j)) := by
  refine deepCall_K 5 Tryz.func31 rfl (Nat.le_of_ble_eq_true rfl) fun M W0 => ?_
  refine KC.seq ?_
  refine KC.region ?_
  refine KT.step rfl rfl (K.box rfl) ?_
  refine KT.step rfl rfl (K.assign rfl) ?_
  refine KT.nil ?_
  refine thenK_n ?_
  refine KC.seq ?_
  refine KC.seq ?_
  refine KC.region ?_
  refine KT.step rfl rfl (K.move rfl) ?_
  refine KT.step rfl rfl (K.lenF rfl hd Tryz.underlying44) ?_
  refine KT.step rfl rfl (K.call3 rfl rfl rfl plainTryz_30 (in57 _ _ _)) ?_
  refine KT.step rfl rfl (K.not rfl) ?_
  refine KT.nil ?_
  refine thenK_n ?_
  refine KC.cond rfl (fun hc11 => ?_) (fun hc11 => ?_)
  · skip
    refine KC.seq ?_
    refine KC.region ?_
    refine KT.step rfl rfl (K.assign rfl) ?_
    refine KT.nil ?_
    refine thenK_n ?_
    refine KC.ret ?_
    refine thenK_r ?_
    refine ⟨.inl rfl, _, rfl, fin_b ?_⟩
    have : ¬ (1 ≤ j.length ∧ j.length ≤ 4) := fun h => by simp at hc11; omega
    rw [← Bool.not_eq_true, jobB_iff]
    exact fun h => this ⟨h.1, h.2.1⟩
  · skip
    refine KC.skip ?_
    refine thenK_n ?_
    refine KC.seq ?_
    refine KC.region ?_
    refine KT.step rfl rfl (K.buildL rfl zero4) ?_
    refine KT.step rfl rfl (K.alloc Tryz.zero106) ?_
    refine KT.putAll (cs := usedC []) rfl rfl rfl rfl rfl rfl rfl rfl Tryz.size106 ?_
    refine KT.nil ?_
    refine thenK_n ?_
    refine KC.seq ?_
    refine KC.seq ?_
    refine KC.region ?_
    refine KT.step rfl rfl (K.move rfl) ?_
    refine KT.step rfl rfl (K.lenF rfl hd Tryz.underlying44) ?_
    refine KT.step rfl rfl (K.move rfl) ?_
    refine KT.nil ?_
    refine thenK_n ?_
    refine KC.block ?_
    have hlen : 1 ≤ j.length ∧ j.length ≤ 4 := by simp at hc11; omega
    refine KC.loop (fun p : List VObj × Nat => p.1) (fun p => [(2, .optr 0 0), (5, .optr 1 0), (13, .d d), (14, .d (DI (j.length : Nat))), (15, .d (DI (p.2 : Nat)))]) (fun p => p.2 ≤ j.length ∧ p.1[0]? = some ⟨[.d (DI N), .d jd], 0⟩ ∧ p.1[1]? = some ⟨usedC (j.take p.2), 0⟩ ∧ (∀ o ∈ j.take p.2, opB N o = true) ∧ ((j.take p.2).map Prod.fst).Nodup) (fun p => j.length - p.2) (_, 0) ⟨Nat.zero_le _, rfl, rfl, fun o ho => by simp at ho, by simp⟩ rfl (by simp [Go.Vm.look, extK, enterK]) ?_
    intro p hp
    obtain ⟨σ0, i⟩ := p
    obtain ⟨hi, y0, y1, hall, hnd⟩ := hp
    simp only at hi y0 y1 hall hnd ⊢
    refine KC.seq ?_
    refine KC.region ?_
    refine KT.step rfl rfl (K.lss rfl rfl) ?_
    refine KT.nil ?_
    refine thenK_n ?_
    refine KC.seq ?_
    refine KC.cond rfl (fun hc16 => ?_) (fun hc16 => ?_)
    · skip
      replace hc16 := of_decide_eq_true hc16
      have hil : i < j.length := by omega
      refine KC.skip ?_
      refine thenK_n ?_
      refine KC.seq ?_
      refine KC.block ?_
      refine KC.seq ?_
      refine KC.region ?_
      refine KT.step rfl rfl (K.idxF c2_len (m := i) rfl hd rfl (by omega) Tryz.underlying44 Tryz.size60) ?_
      refine KT.step rfl rfl (K.loadFl (cs := c2 j[i]) rfl rfl Tryz.agg60 Tryz.size60) ?_
      refine KT.step rfl rfl (K.alloc Tryz.zero60) ?_
      refine KT.storeL (cs := (c2 j[i]).map .d) rfl rfl rfl rfl rfl rfl rfl Tryz.size60 ?_
      refine KT.nil ?_
      refine thenK_n ?_
      refine KC.seq ?_
      refine KC.seq ?_
      refine KC.region ?_
      refine KT.step rfl rfl (K.fieldAddrO rfl Tryz.fld60_0 Tryz.size3) ?_
      refine KT.step rfl rfl (K.loadO rfl (List.getElem?_concat_length ..) (by simp) rfl Tryz.agg3) ?_
      refine KT.step rfl rfl (K.fieldAddrO rfl Tryz.fld31_0 Tryz.size3) ?_
      refine KT.step rfl rfl (K.loadO rfl (get_left y0) (by simp) rfl Tryz.agg3) ?_
      refine KT.step rfl rfl (K.sub rfl rfl (wrap_id (by omega))) ?_
      refine KT.step rfl rfl (K.call3 rfl rfl rfl plainTryz_30 (in57 _ _ _)) ?_
      refine KT.step rfl rfl (K.not rfl) ?_
      refine KT.step rfl rfl (K.move rfl) ?_
      refine KT.bcase (fun hb26 => ?_) (fun hb26 => ?_)
      · skip
        refine KT.skip rfl rfl ?_
        refine KT.skip rfl rfl ?_
        refine KT.skip rfl rfl ?_
        refine KT.skip rfl rfl ?_
        refine KT.step rfl rfl (K.pick rfl (fun _ => rfl) (fun h => by cases h)) ?_
        refine KT.step rfl rfl (K.move rfl) ?_
        refine KT.skip rfl rfl ?_
        refine KT.skip rfl rfl ?_
        refine KT.skip rfl rfl ?_
        refine KT.skip rfl rfl ?_
        refine KT.step rfl rfl (K.pick rfl (fun _ => rfl) (fun h => by cases h)) ?_
        refine KT.nil ?_
        refine thenK_n ?_
        refine KC.cond rfl (fun hc37 => ?_) (fun hc37 => ?_)
        · skip
          refine KC.seq ?_
          refine KC.region ?_
          refine KT.step rfl rfl (K.assign rfl) ?_
          refine KT.nil ?_
          refine thenK_n ?_
          refine KC.ret ?_
          refine thenK_r ?_
          refine blockK_r ?_
          refine thenK_r ?_
          refine thenK_r ?_
          refine blockK_r ?_
          refine thenK_r ?_
          exact ⟨.inl rfl, _, rfl, fin_b (jobB_no1 (List.getElem_mem hil) (by simp only [opB, Bool.not_eq_true'] at hb26 ⊢; rw [hb26]; rfl))⟩
        · cases hc37
      · skip
        have g1 : 0 ≤ j[i].1 ∧ j[i].1 ≤ N - 1 := by simpa using hb26
        refine KT.step rfl rfl (K.fieldAddrO rfl Tryz.fld60_1 Tryz.size3) ?_
        refine KT.step rfl rfl (K.loadO rfl (List.getElem?_concat_length ..) (by simp) rfl Tryz.agg3) ?_
        refine KT.step rfl rfl (K.call3 rfl rfl rfl plainTryz_30 (in57 _ _ _)) ?_
        refine KT.step rfl rfl (K.not rfl) ?_
        refine KT.step rfl rfl (K.pick rfl (fun h => by cases h) (fun _ => rfl)) ?_
        refine KT.step rfl rfl (K.move rfl) ?_
        refine KT.bcase (fun hb32 => ?_) (fun hb32 => ?_)
        · skip
          refine KT.skip rfl rfl ?_
          refine KT.skip rfl rfl ?_
          refine KT.skip rfl rfl ?_
          refine KT.skip rfl rfl ?_
          refine KT.step rfl rfl (K.pick rfl (fun _ => rfl) (fun h => by cases h)) ?_
          refine KT.nil ?_
          refine thenK_n ?_
          refine KC.cond rfl (fun hc37 => ?_) (fun hc37 => ?_)
          · skip
            refine KC.seq ?_
            refine KC.region ?_
            refine KT.step rfl rfl (K.assign rfl) ?_
            refine KT.nil ?_
            refine thenK_n ?_
            refine KC.ret ?_
            refine thenK_r ?_
            refine blockK_r ?_
            refine thenK_r ?_
            refine thenK_r ?_
            refine blockK_r ?_
            refine thenK_r ?_
            exact ⟨.inl rfl, _, rfl, fin_b (jobB_no1 (List.getElem_mem hil) (by simp only [opB, Bool.not_eq_true'] at hb32 ⊢; rw [hb32, Bool.and_false]))⟩
          · cases hc37
        · skip
          have g2 : 1 ≤ j[i].2 ∧ j[i].2 ≤ 20 := by simpa using hb32
          have hop : opB N j[i] = true := by simp [opB, g1, g2]
          refine KT.step rfl rfl (K.fieldAddrO rfl Tryz.fld60_0 Tryz.size3) ?_
          refine KT.step rfl rfl (K.loadO rfl (List.getElem?_concat_length ..) (by simp) rfl Tryz.agg3) ?_
          refine KT.step rfl rfl (K.idxA (m := j[i].1.toNat) rfl (by exact congrArg (fun z => some (XV.d (DI z))) (show j[i].1 = ((j[i].1).toNat : Int) by omega)) (by omega) Tryz.underlying106 Tryz.size4) ?_
          refine KT.step rfl rfl (K.loadO rfl (get_left y1) (by simp) (by rw [Nat.zero_add, Nat.mul_one]; exact usedC_get (by omega)) Tryz.agg4) ?_
          refine KT.step rfl rfl (K.pick rfl (fun h => by cases h) (fun _ => rfl)) ?_
          refine KT.nil ?_
          refine thenK_n ?_
          refine KC.cond rfl (fun hc37 => ?_) (fun hc37 => ?_)
          · skip
            replace hc37 : decide (((j[i].1.toNat : Nat) : Int) ∈ (j.take i).map Prod.fst) = true := hc37
            rw [show ((j[i].1.toNat : Nat) : Int) = j[i].1 by omega] at hc37
            refine KC.seq ?_
            refine KC.region ?_
            refine KT.step rfl rfl (K.assign rfl) ?_
            refine KT.nil ?_
            refine thenK_n ?_
            refine KC.ret ?_
            refine thenK_r ?_
            refine blockK_r ?_
            refine thenK_r ?_
            refine thenK_r ?_
            refine blockK_r ?_
            refine thenK_r ?_
            exact ⟨.inl rfl, _, rfl, fin_b (jobB_no2 hil (of_decide_eq_true hc37))⟩
          · skip
            replace hc37 : decide (((j[i].1.toNat : Nat) : Int) ∈ (j.take i).map Prod.fst) = false := hc37
            rw [show ((j[i].1.toNat : Nat) : Int) = j[i].1 by omega] at hc37
            refine KC.skip ?_
            refine thenK_n ?_
            refine KC.region ?_
            refine KT.step rfl rfl (K.fieldAddrO rfl Tryz.fld60_0 Tryz.size3) ?_
            refine KT.step rfl rfl (K.loadO rfl (List.getElem?_concat_length ..) (by simp) rfl Tryz.agg3) ?_
            refine KT.step rfl rfl (K.idxA (m := j[i].1.toNat) rfl (by exact congrArg (fun z => some (XV.d (DI z))) (show j[i].1 = ((j[i].1).toNat : Int) by omega)) (by omega) Tryz.underlying106 Tryz.size4) ?_
            refine KT.storeG rfl rfl rfl rfl (get_left y1) (by rw [usedC_len]; omega) rfl rfl Tryz.size4 fun σ3 l3 u3 v3 => ?_
            have z0 := (v3 0 (by decide)).trans (get_left y0)
            rw [Nat.zero_add, Nat.mul_one, usedC_set (o := j[i]) (by omega), ← List.take_succ_eq_append_getElem hil] at u3
            refine KT.nil ?_
            refine blockK_n ?_
            refine thenK_n ?_
            refine KC.region ?_
            refine KT.step rfl rfl (K.add rfl rfl (wrap_id (by omega))) ?_
            refine KT.step rfl rfl (K.move rfl) ?_
            refine KT.nil ?_
            refine thenK_n ?_
            refine ⟨(σ3, i + 1), ⟨by simp only; omega, z0, u3, ?_, nodup_take hil hnd (of_decide_eq_false hc37)⟩, by simp only; omega, rfl, by simp [Go.Vm.look, extK]⟩
            intro o ho
            rw [List.take_succ_eq_append_getElem hil, List.mem_append, List.mem_singleton] at ho
            rcases ho with ho | rfl
            · exact hall o ho
            · exact hop
    · skip
      replace hc16 := of_decide_eq_false hc16
      refine KC.exit ?_
      refine thenK_x ?_
      refine thenK_x ?_
      refine blockK_e ?_
      refine thenK_n ?_
      refine KC.seq ?_
      refine KC.region ?_
      refine KT.step rfl rfl (K.assign rfl) ?_
      refine KT.nil ?_
      refine thenK_n ?_
      refine KC.ret ?_
      have et : j.take i = j := List.take_of_length_le (by omega)
      rw [et] at hall hnd
      exact ⟨.inl rfl, _, rfl, fin_b (by rw [jobB, List.all_eq_true.2 hall, decide_eq_true hnd, decide_eq_true hlen.1, decide_eq_true hlen.2]; rfl)⟩
set_option maxRecDepth 10000 in
theorem size70 {N : Int} {jd : DV} {J : List (List (Int × Int))} (hd : JbD jd J) (h3 : J.length ≤ 3) (h4 : ∀ j ∈ J, j.length ≤ 4) : DeepCall Tryz.prog 20 [.agg [DI N, jd]] (DI (J.flatten.length : Nat)) := by
  refine deepCall_K 5 Tryz.func20 rfl (Nat.le_of_ble_eq_true rfl) fun M W0 => ?_
  refine KC.seq ?_
  refine KC.region ?_
  refine KT.step rfl rfl (K.box rfl) ?_
  refine KT.step rfl rfl (K.assign rfl) ?_
  refine KT.nil ?_
  refine thenK_n ?_
  refine KC.seq ?_
  refine KC.region ?_
  refine KT.step rfl rfl (K.assign rfl) ?_
  refine KT.nil ?_
  refine thenK_n ?_
  refine KC.seq ?_
  refine KC.seq ?_
  refine KC.region ?_
  refine KT.step rfl rfl (K.fieldAddrO rfl Tryz.fld31_1 Tryz.size29) ?_
  refine KT.step rfl rfl (K.loadO rfl rfl (by simp) rfl Tryz.agg29) ?_
  refine KT.step rfl rfl (K.len rfl hd Tryz.underlying29) ?_
  refine KT.step rfl rfl (K.move rfl) ?_
  refine KT.nil ?_
  refine thenK_n ?_
  refine KC.block ?_
  refine KC.loop (fun _ : Nat => _) (fun i => [(3, .d (DI ((J.take i).flatten.length : Nat))), (7, .d jd), (8, .d (DI (J.length : Nat))), (9, .d (DI (i : Nat)))]) (fun i => i ≤ J.length) (fun i => J.length - i) 0 (Nat.zero_le _) rfl (by simp [Go.Vm.look, extK, enterK]) ?_
  intro i hi
  refine KC.seq ?_
  refine KC.region ?_
  refine KT.step rfl rfl (K.lss rfl rfl) ?_
  refine KT.nil ?_
  refine thenK_n ?_
  refine KC.seq ?_
  refine KC.cond rfl (fun hc10 => ?_) (fun hc10 => ?_)
  · skip
    replace hc10 := of_decide_eq_true hc10
    have hil : i < J.length := by omega
    refine KC.skip ?_
    refine thenK_n ?_
    refine KC.seq ?_
    refine KC.block ?_
    refine KC.seq ?_
    refine KC.region ?_
    refine KT.idx rfl rfl rfl (by assumption) rfl (by omega) Tryz.underlying29 Tryz.size44 fun c11 cs11 hq11 => ?_
    refine KT.step rfl rfl (K.load rfl Tryz.agg44) ?_
    refine KT.step rfl rfl (K.assign rfl) ?_
    refine KT.nil ?_
    refine thenK_n ?_
    refine KC.region ?_
    refine KT.step rfl rfl (K.move rfl) ?_
    refine KT.step rfl rfl (K.move rfl) ?_
    refine KT.step rfl rfl (K.lenF rfl hq11 Tryz.underlying44) ?_
    have b1 := h4 _ (List.getElem_mem hil)
    have b2 := flat_le h4 (k := i)
    refine KT.step rfl rfl (K.add rfl rfl (addN (by omega))) ?_
    refine KT.step rfl rfl (K.assign rfl) ?_
    refine KT.nil ?_
    refine blockK_n ?_
    refine thenK_n ?_
    refine KC.region ?_
    refine KT.step rfl rfl (K.add rfl rfl (wrap_id (by omega))) ?_
    refine KT.step rfl rfl (K.move rfl) ?_
    refine KT.nil ?_
    refine thenK_n ?_
    have e1 : (J.take (i + 1)).flatten.length = (J.take i).flatten.length + J[i].length := by rw [List.take_succ_eq_append_getElem hil, List.flatten_append, List.length_append]; simp
    refine ⟨i + 1, by omega, by omega, rfl, by simp [-List.length_flatten, Go.Vm.look, extK, e1]⟩
  · skip
    replace hc10 := of_decide_eq_false hc10
    refine KC.exit ?_
    refine thenK_x ?_
    refine thenK_x ?_
    refine blockK_e ?_
    refine thenK_n ?_
    refine KC.seq ?_
    refine KC.region ?_
    refine KT.step rfl rfl (K.move rfl) ?_
    refine KT.step rfl rfl (K.assign rfl) ?_
    refine KT.nil ?_
    refine thenK_n ?_
    refine KC.ret ?_
    have et : J.take i = J := List.take_of_length_le (by omega)
    rw [et]
    exact ⟨.inl rfl, _, rfl, fin_d rfl⟩
set_option maxRecDepth 10000 in
theorem valid47 {N : Int} {jd : DV} {J : List (List (Int × Int))} (hd : JbD jd J) (hl : J.length ≤ 9223372036854775807) (hr : ∀ j ∈ J, j.length ≤ 9223372036854775807) : DeepCall Tryz.prog 15 [.agg [DI N, jd]] (DB (shopB N J)) := by
  refine deepCall_K 5 Tryz.func15 rfl (Nat.le_of_ble_eq_true rfl) fun M W0 => ?_
  refine KC.seq ?_
  refine KC.region ?_
  refine KT.step rfl rfl (K.box rfl) ?_
  refine KT.step rfl rfl (K.assign rfl) ?_
  refine KT.nil ?_
  refine thenK_n ?_
  refine KC.seq ?_
  refine KC.seq ?_
  refine KC.region ?_
  refine KT.step rfl rfl (K.fieldAddrO rfl Tryz.fld31_0 Tryz.size3) ?_
  refine KT.step rfl rfl (K.loadO rfl rfl (by simp) rfl Tryz.agg3) ?_
  refine KT.step rfl rfl (K.call3 rfl rfl rfl plainTryz_30 (in57 _ _ _)) ?_
  refine KT.step rfl rfl (K.not rfl) ?_
  refine KT.step rfl rfl (K.move rfl) ?_
  refine KT.bcase (fun hb9 => ?_) (fun hb9 => ?_)
  · skip
    refine KT.skip rfl rfl ?_
    refine KT.skip rfl rfl ?_
    refine KT.skip rfl rfl ?_
    refine KT.skip rfl rfl ?_
    refine KT.skip rfl rfl ?_
    refine KT.step rfl rfl (K.pick rfl (fun _ => rfl) (fun h => by cases h)) ?_
    refine KT.nil ?_
    refine thenK_n ?_
    refine KC.cond rfl (fun hc15 => ?_) (fun hc15 => ?_)
    · skip
      refine KC.seq ?_
      refine KC.region ?_
      refine KT.step rfl rfl (K.assign rfl) ?_
      refine KT.nil ?_
      refine thenK_n ?_
      refine KC.ret ?_
      refine thenK_r ?_
      refine ⟨.inl rfl, _, rfl, fin_b ?_⟩
      have : ¬ (1 ≤ N ∧ N ≤ 4) := fun h => by simp at hb9; omega
      rw [← Bool.not_eq_true, shopB_iff]
      exact fun h => this ⟨h.m1, h.m4⟩
    · cases hc15
  · skip
    have gm : 1 ≤ N ∧ N ≤ 4 := by simpa using hb9
    refine KT.step rfl rfl (K.fieldAddrO rfl Tryz.fld31_1 Tryz.size29) ?_
    refine KT.step rfl rfl (K.loadO rfl rfl (by simp) rfl Tryz.agg29) ?_
    refine KT.step rfl rfl (K.len rfl hd Tryz.underlying29) ?_
    refine KT.step rfl rfl (K.call3 rfl rfl rfl plainTryz_30 (in57 _ _ _)) ?_
    refine KT.step rfl rfl (K.not rfl) ?_
    refine KT.step rfl rfl (K.pick rfl (fun h => by cases h) (fun _ => rfl)) ?_
    refine KT.nil ?_
    refine thenK_n ?_
    refine KC.cond rfl (fun hc15 => ?_) (fun hc15 => ?_)
    · skip
      refine KC.seq ?_
      refine KC.region ?_
      refine KT.step rfl rfl (K.assign rfl) ?_
      refine KT.nil ?_
      refine thenK_n ?_
      refine KC.ret ?_
      refine thenK_r ?_
      refine ⟨.inl rfl, _, rfl, fin_b ?_⟩
      have : ¬ (1 ≤ J.length ∧ J.length ≤ 3) := fun h => by simp at hc15; omega
      rw [← Bool.not_eq_true, shopB_iff]
      exact fun h => this ⟨h.j1, h.j3⟩
    · skip
      have gj : 1 ≤ J.length ∧ J.length ≤ 3 := by simp at hc15; omega
      refine KC.skip ?_
      refine thenK_n ?_
      refine KC.seq ?_
      refine KC.seq ?_
      refine KC.region ?_
      refine KT.step rfl rfl (K.fieldAddrO rfl Tryz.fld31_1 Tryz.size29) ?_
      refine KT.step rfl rfl (K.loadO rfl rfl (by simp) rfl Tryz.agg29) ?_
      refine KT.step rfl rfl (K.len rfl hd Tryz.underlying29) ?_
      refine KT.step rfl rfl (K.move rfl) ?_
      refine KT.nil ?_
      refine thenK_n ?_
      refine KC.block ?_
      refine KC.loop (fun _ : Nat => _) (fun i => [(1, .optr 0 0), (17, .d jd), (18, .d (DI (J.length : Nat))), (19, .d (DI (i : Nat)))]) (fun i => i ≤ J.length ∧ ∀ j ∈ J.take i, jobB N j = true) (fun i => J.length - i) 0 ⟨Nat.zero_le _, fun j hj => by simp at hj⟩ rfl (by simp [Go.Vm.look, extK, enterK]) ?_
      intro i hi
      obtain ⟨hi, hall⟩ := hi
      refine KC.seq ?_
      refine KC.region ?_
      refine KT.step rfl rfl (K.lss rfl rfl) ?_
      refine KT.nil ?_
      refine thenK_n ?_
      refine KC.seq ?_
      refine KC.cond rfl (fun hc20 => ?_) (fun hc20 => ?_)
      · skip
        replace hc20 := of_decide_eq_true hc20
        have hil : i < J.length := by omega
        refine KC.skip ?_
        refine thenK_n ?_
        refine KC.seq ?_
        refine KC.block ?_
        refine KC.seq ?_
        refine KC.region ?_
        refine KT.idx rfl rfl rfl (by assumption) rfl (by omega) Tryz.underlying29 Tryz.size44 fun c21 cs21 hq21 => ?_
        refine KT.step rfl rfl (K.load rfl Tryz.agg44) ?_
        refine KT.step rfl rfl (K.assign rfl) ?_
        refine KT.nil ?_
        refine thenK_n ?_
        refine KC.seq ?_
        refine KC.region ?_
        refine KT.step rfl rfl (K.loadOA ([DI N, jd]) rfl rfl (by decide) Tryz.agg31 Tryz.size31 rfl) ?_
        refine KT.step rfl rfl (K.move rfl) ?_
        refine KT.step rfl rfl (K.call2 rfl rfl plainTryz_31 (isJob69 hq21 (hr _ (List.getElem_mem hil)) gm.1 gm.2)) ?_
        refine KT.step rfl rfl (K.not rfl) ?_
        refine KT.nil ?_
        refine thenK_n ?_
        refine KC.cond rfl (fun hc26 => ?_) (fun hc26 => ?_)
        · skip
          refine KC.seq ?_
          refine KC.region ?_
          refine KT.step rfl rfl (K.assign rfl) ?_
          refine KT.nil ?_
          refine thenK_n ?_
          refine KC.ret ?_
          refine blockK_r ?_
          refine thenK_r ?_
          refine thenK_r ?_
          refine blockK_r ?_
          refine thenK_r ?_
          exact ⟨.inl rfl, _, rfl, fin_b (shopB_no (List.getElem_mem hil) (by simpa using hc26))⟩
        · skip
          refine KC.skip ?_
          refine blockK_n ?_
          refine thenK_n ?_
          refine KC.region ?_
          refine KT.step rfl rfl (K.add rfl rfl (wrap_id (by omega))) ?_
          refine KT.step rfl rfl (K.move rfl) ?_
          refine KT.nil ?_
          refine thenK_n ?_
          refine ⟨i + 1, ⟨by omega, ?_⟩, by omega, rfl, by simp [Go.Vm.look, extK]⟩
          intro j hj
          rw [List.take_succ_eq_append_getElem hil, List.mem_append, List.mem_singleton] at hj
          rcases hj with hj | rfl
          · exact hall j hj
          · simpa using hc26
      · skip
        replace hc20 := of_decide_eq_false hc20
        refine KC.exit ?_
        refine thenK_x ?_
        refine thenK_x ?_
        refine blockK_e ?_
        refine thenK_n ?_
        refine KC.seq ?_
        refine KC.region ?_
        refine KT.step rfl rfl (K.loadOA ([DI N, jd]) rfl rfl (by decide) Tryz.agg31 Tryz.size31 rfl) ?_
        have et : J.take i = J := List.take_of_length_le (by omega)
        rw [et] at hall
        have h4 : ∀ j ∈ J, j.length ≤ 4 := fun j hj => (jobB_iff.1 (hall j hj)).2.1
        refine KT.step rfl rfl (K.call1 rfl plainTryz_20 (size70 hd gj.2 h4)) ?_
        refine KT.step rfl rfl (K.leq rfl rfl) ?_
        refine KT.step rfl rfl (K.assign rfl) ?_
        refine KT.nil ?_
        refine thenK_n ?_
        refine KC.ret ?_
        exact ⟨.inl rfl, _, rfl, fin_b (by rw [shopB, List.all_eq_true.2 hall, decide_eq_true gm.1, decide_eq_true gm.2, decide_eq_true gj.1, decide_eq_true gj.2]; simp only [Bool.true_and]; exact decide_eq_decide.2 (by omega))⟩
set_option maxRecDepth 10000 in
theorem back72 (a : Int × Int) : DeepCall Tryz.prog 68 [.agg (c2 a)] (.agg (c2 (a.2, a.1))) := by
  refine deepCall_K 5 Tryz.func68 rfl (Nat.le_of_ble_eq_true rfl) fun M W0 => ?_
  refine KC.seq ?_
  refine KC.region ?_
  refine KT.step rfl rfl (K.box rfl) ?_
  refine KT.step rfl rfl (K.alloc Tryz.zero78) ?_
  refine KT.nil ?_
  refine thenK_n ?_
  refine KC.seq ?_
  refine KC.region ?_
  refine KT.step rfl rfl (K.fieldAddrO rfl Tryz.fld78_1 Tryz.size3) ?_
  refine KT.step rfl rfl (K.loadO rfl rfl (by simp) rfl Tryz.agg3) ?_
  refine KT.step rfl rfl (K.fieldAddrO rfl Tryz.fld78_0 Tryz.size3) ?_
  refine KT.step rfl rfl (K.loadO rfl rfl (by simp) rfl Tryz.agg3) ?_
  refine KT.step rfl rfl (K.buildS rfl (build121_2 _ _)) ?_
  refine KT.putAll rfl rfl rfl rfl rfl rfl rfl rfl Tryz.size78 ?_
  refine KT.nil ?_
  refine thenK_n ?_
  refine KC.ret ?_
  exact ⟨.inl rfl, _, resK_c (c2 (a.2, a.1)) rfl rfl rfl (by decide) Tryz.agg78 Tryz.size78 rfl, rfl⟩
end Go.Proofs.YtdgahcbalabjdaaGreat

