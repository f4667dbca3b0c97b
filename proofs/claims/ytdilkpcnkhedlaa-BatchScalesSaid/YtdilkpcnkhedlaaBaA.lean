import Derived.Test.YtdilkpcnkhedlaaBaP
import Derived.Test.YtdilkpcnkhedlaaHtU
import Derived.Test.YtdilkpcnkhedlaaProg
import Derived.KernelRfl
/-
  Batch: shops that are valid.
-/
namespace Go.Proofs.Ytdilkpcnkhedlaa
open Go.Vm Go.Ht Go.Ba
theorem Try.mixed : Try.prog.follows .mixedOrders = true := by kernel_rfl
theorem Try.agg3 : isAggT Try.prog 3 = some false := by kernel_rfl
theorem Try.size3 : sizeT Try.prog 3 = some 1 := by kernel_rfl
theorem Try.one3 : OneT Try.prog 3 (.int .i64 0) := ⟨by kernel_rfl, by kernel_rfl, rfl, of_decide_eq_true (by kernel_rfl)⟩
theorem Try.agg4 : isAggT Try.prog 4 = some false := by kernel_rfl
theorem Try.size4 : sizeT Try.prog 4 = some 1 := by kernel_rfl
theorem Try.one4 : OneT Try.prog 4 (.bool false) := ⟨by kernel_rfl, by kernel_rfl, rfl, of_decide_eq_true (by kernel_rfl)⟩
theorem Try.agg9 : isAggT Try.prog 9 = some false := by kernel_rfl
theorem Try.size9 : sizeT Try.prog 9 = some 1 := by kernel_rfl
theorem Try.agg27 : isAggT Try.prog 27 = some false := by kernel_rfl
theorem Try.size27 : sizeT Try.prog 27 = some 1 := by kernel_rfl
theorem Try.one27 : OneT Try.prog 27 (.int .i64 0) := ⟨by kernel_rfl, by kernel_rfl, rfl, of_decide_eq_true (by kernel_rfl)⟩
theorem Try.agg26 : isAggT Try.prog 26 = some false := by kernel_rfl
theorem Try.size26 : sizeT Try.prog 26 = some 1 := by kernel_rfl
theorem Try.one26 : OneT Try.prog 26 (.slice none 0 0) := ⟨by kernel_rfl, by kernel_rfl, rfl, of_decide_eq_true (by kernel_rfl)⟩
theorem Try.agg25 : isAggT Try.prog 25 = some false := by kernel_rfl
theorem Try.size25 : sizeT Try.prog 25 = some 1 := by kernel_rfl
theorem Try.one25 : OneT Try.prog 25 (.slice none 0 0) := ⟨by kernel_rfl, by kernel_rfl, rfl, of_decide_eq_true (by kernel_rfl)⟩
theorem Try.agg32 : isAggT Try.prog 32 = some true := by kernel_rfl
theorem Try.size32 : sizeT Try.prog 32 = some 2 := by kernel_rfl
theorem Try.zero32 : zeroT Try.prog 32 = some (.agg #[.int .i64 0, .slice none 0 0]) := by kernel_rfl
theorem Try.fld32_0 : fieldT Try.prog 32 0 = some { name := "Machines", type := 3, offset := 0, embedded := false, tag := "", pkgPath := "", byteOffset := 0 } := by kernel_rfl
theorem Try.fld32_1 : fieldT Try.prog 32 1 = some { name := "Jobs", type := 30, offset := 1, embedded := false, tag := "", pkgPath := "", byteOffset := 8 } := by kernel_rfl
theorem Try.places32 : (match Try.prog.underlying 32 with | some (.struct fs) => placesT Try.prog fs | _ => none) = some #[(0, 1), (1, 1)] := by kernel_rfl
theorem Try.agg79 : isAggT Try.prog 79 = some true := by kernel_rfl
theorem Try.size79 : sizeT Try.prog 79 = some 2 := by kernel_rfl
theorem Try.zero79 : zeroT Try.prog 79 = some (.agg #[.int .i64 0, .int .i64 0]) := by kernel_rfl
theorem Try.fld79_0 : fieldT Try.prog 79 0 = some { name := "Machine", type := 3, offset := 0, embedded := false, tag := "", pkgPath := "", byteOffset := 0 } := by kernel_rfl
theorem Try.fld79_1 : fieldT Try.prog 79 1 = some { name := "Time", type := 3, offset := 1, embedded := false, tag := "", pkgPath := "", byteOffset := 8 } := by kernel_rfl
theorem Try.places79 : (match Try.prog.underlying 79 with | some (.struct fs) => placesT Try.prog fs | _ => none) = some #[(0, 1), (1, 1)] := by kernel_rfl
theorem Try.agg78 : isAggT Try.prog 78 = some false := by kernel_rfl
theorem Try.size78 : sizeT Try.prog 78 = some 1 := by kernel_rfl
theorem Try.one78 : OneT Try.prog 78 (.slice none 0 0) := ⟨by kernel_rfl, by kernel_rfl, rfl, of_decide_eq_true (by kernel_rfl)⟩
theorem Try.agg30 : isAggT Try.prog 30 = some false := by kernel_rfl
theorem Try.size30 : sizeT Try.prog 30 = some 1 := by kernel_rfl
theorem Try.one30 : OneT Try.prog 30 (.slice none 0 0) := ⟨by kernel_rfl, by kernel_rfl, rfl, of_decide_eq_true (by kernel_rfl)⟩
theorem Try.agg165 : isAggT Try.prog 165 = some true := by kernel_rfl
theorem Try.size165 : sizeT Try.prog 165 = some 4 := by kernel_rfl
theorem Try.zero165 : zeroT Try.prog 165 = some (.agg #[.bool false, .bool false, .bool false, .bool false]) := by kernel_rfl
theorem Try.agg82 : isAggT Try.prog 82 = some true := by kernel_rfl
theorem Try.size82 : sizeT Try.prog 82 = some 3 := by kernel_rfl
theorem Try.zero82 : zeroT Try.prog 82 = some (.agg #[.slice none 0 0, .slice none 0 0, .slice none 0 0]) := by kernel_rfl
theorem Try.fld82_0 : fieldT Try.prog 82 0 = some { name := "ops", type := 78, offset := 0, embedded := false, tag := "", pkgPath := "massecuite/batch", byteOffset := 0 } := by kernel_rfl
theorem Try.fld82_1 : fieldT Try.prog 82 1 = some { name := "arcs", type := 80, offset := 1, embedded := false, tag := "", pkgPath := "massecuite/batch", byteOffset := 24 } := by kernel_rfl
theorem Try.fld82_2 : fieldT Try.prog 82 2 = some { name := "machines", type := 25, offset := 2, embedded := false, tag := "", pkgPath := "massecuite/batch", byteOffset := 48 } := by kernel_rfl
theorem Try.places82 : (match Try.prog.underlying 82 with | some (.struct fs) => placesT Try.prog fs | _ => none) = some #[(0, 1), (1, 1), (2, 1)] := by kernel_rfl
theorem Try.agg130 : isAggT Try.prog 130 = some true := by kernel_rfl
theorem Try.size130 : sizeT Try.prog 130 = some 2 := by kernel_rfl
theorem Try.zero130 : zeroT Try.prog 130 = some (.agg #[.int .i64 0, .int .i64 0]) := by kernel_rfl
theorem Try.fld130_0 : fieldT Try.prog 130 0 = some { name := "from", type := 3, offset := 0, embedded := false, tag := "", pkgPath := "massecuite/batch", byteOffset := 0 } := by kernel_rfl
theorem Try.fld130_1 : fieldT Try.prog 130 1 = some { name := "to", type := 3, offset := 1, embedded := false, tag := "", pkgPath := "massecuite/batch", byteOffset := 8 } := by kernel_rfl
theorem Try.places130 : (match Try.prog.underlying 130 with | some (.struct fs) => placesT Try.prog fs | _ => none) = some #[(0, 1), (1, 1)] := by kernel_rfl
theorem Try.agg80 : isAggT Try.prog 80 = some false := by kernel_rfl
theorem Try.size80 : sizeT Try.prog 80 = some 1 := by kernel_rfl
theorem Try.one80 : OneT Try.prog 80 (.slice none 0 0) := ⟨by kernel_rfl, by kernel_rfl, rfl, of_decide_eq_true (by kernel_rfl)⟩
theorem plainTry_60 : plainFn Try.prog 60 = true := by kernel_rfl
theorem plainTry_77 : plainFn Try.prog 77 = true := by kernel_rfl
theorem plainTry_68 : plainFn Try.prog 68 = true := by kernel_rfl
theorem plainTry_50 : plainFn Try.prog 50 = true := by kernel_rfl
theorem plainTry_79 : plainFn Try.prog 79 = true := by kernel_rfl
theorem plainTry_49 : plainFn Try.prog 49 = true := by kernel_rfl
theorem zero4 : pureRun Try.prog (Instr.build 165 #[]) = some (.agg #[.bool false, .bool false, .bool false, .bool false]) := by kernel_rfl
theorem build130_2 (x y : Int) : opBuild Try.prog 130 [(0, .d (DI x)), (1, .d (DI y))] = some (.d (.agg [DI x, DI y])) := by kernel_rfl
set_option maxRecDepth 10000 in
theorem in60 (x lo hi : Int) : DeepCall Try.prog 60 [DI x, DI lo, DI hi] (DB (decide (lo ≤ x) && decide (x ≤ hi))) := by
  refine deepCall_K 5 Try.func60 rfl (Nat.le_of_ble_eq_true rfl) fun M W0 => ?_
  refine KC.seq ?_
  refine KC.region ?_
  refine KT.step rfl rfl (K.assign rfl) ?_
  refine KT.nil ?_
  refine thenK_n ?_
  refine KC.seq ?_
  refine KC.region ?_
  refine KT.step rfl rfl (K.move rfl) ?_
  refine KT.step rfl rfl (K.move rfl) ?_
  refine KT.step rfl rfl (K.leq rfl rfl) ?_
  refine KT.step rfl rfl (K.move rfl) ?_
  refine KT.bcase (fun hb10 => ?_) (fun hb10 => ?_)
  · skip
    replace hb10 := of_decide_eq_true hb10
    refine KT.step rfl rfl (K.move rfl) ?_
    refine KT.step rfl rfl (K.move rfl) ?_
    refine KT.step rfl rfl (K.leq rfl rfl) ?_
    refine KT.step rfl rfl (K.pick rfl (fun _ => rfl) (fun h => by cases h)) ?_
    refine KT.step rfl rfl (K.assign rfl) ?_
    refine KT.nil ?_
    refine thenK_n ?_
    refine KC.ret ?_
    exact ⟨.inl rfl, _, rfl, fin_b (by rw [decide_eq_true hb10, Bool.true_and])⟩
  · skip
    replace hb10 := of_decide_eq_false hb10
    refine KT.skip rfl rfl ?_
    refine KT.skip rfl rfl ?_
    refine KT.skip rfl rfl ?_
    refine KT.step rfl rfl (K.pick rfl (fun h => by cases h) (fun _ => rfl)) ?_
    refine KT.step rfl rfl (K.assign rfl) ?_
    refine KT.nil ?_
    refine thenK_n ?_
    refine KC.ret ?_
    exact ⟨.inl rfl, _, rfl, fin_b (by rw [decide_eq_false hb10]; rfl)⟩
set_option maxRecDepth 10000 in
theorem isJob77 {N : Int} {d jd : DV} {j : List (Int × Int)} (hd : PrD d j) (hl : j.length ≤ 9223372036854775807) (m1 : 1 ≤ N) (m4 : N ≤ 4) : DeepCall Try.prog 77 [.agg [DI N, jd], d] (DB (jobB N j)) := by
  refine deepCall_K 5 Try.func77 rfl (Nat.le_of_ble_eq_true rfl) fun M W0 => ?_
  refine KC.seq ?_
  refine KC.region ?_
  refine KT.step rfl rfl (K.box rfl) ?_
  refine KT.step rfl rfl (K.assign rfl) ?_
  refine KT.nil ?_
  refine thenK_n ?_
  refine KC.seq ?_
  refine KC.seq ?_
  refine KC.region ?_
  refine KT.step rfl rfl (K.move rfl) ?_
  refine KT.step rfl rfl (K.lenF rfl hd Try.underlying78) ?_
  refine KT.step rfl rfl (K.call3 rfl rfl rfl plainTry_60 (in60 _ _ _)) ?_
  refine KT.step rfl rfl (K.not rfl) ?_
  refine KT.nil ?_
  refine thenK_n ?_
  refine KC.cond rfl (fun hc11 => ?_) (fun hc11 => ?_)
  · skip
    refine KC.seq ?_
    refine KC.region ?_
    refine KT.step rfl rfl (K.assign rfl) ?_
    refine KT.nil ?_
    refine thenK_n ?_
    refine KC.ret ?_
    refine thenK_r ?_
    refine ⟨.inl rfl, _, rfl, fin_b ?_⟩
    have : ¬ (1 ≤ j.length ∧ j.length ≤ 4) := fun h => by simp at hc11; omega
    rw [← Bool.not_eq_true, jobB_iff]
    exact fun h => this ⟨h.1, h.2.1⟩
  · skip
    refine KC.skip ?_
    refine thenK_n ?_
    refine KC.seq ?_
    refine KC.region ?_
    refine KT.step rfl rfl (K.buildL rfl zero4) ?_
    refine KT.step rfl rfl (K.alloc Try.zero165) ?_
    refine KT.putAll (cs := usedC []) rfl rfl rfl rfl rfl rfl rfl rfl Try.size165 ?_
    refine KT.nil ?_
    refine thenK_n ?_
    refine KC.seq ?_
    refine KC.seq ?_
    refine KC.region ?_
    refine KT.step rfl rfl (K.move rfl) ?_
    refine KT.step rfl rfl (K.lenF rfl hd Try.underlying78) ?_
    refine KT.step rfl rfl (K.move rfl) ?_
    refine KT.nil ?_
    refine thenK_n ?_
    refine KC.block ?_
    have hlen : 1 ≤ j.length ∧ j.length ≤ 4 := by simp at hc11; omega
    refine KC.loop (fun p : List VObj × Nat => p.1) (fun p => [(2, .optr 0 0), (5, .optr 1 0), (13, .d d), (14, .d (DI (j.length : Nat))), (15, .d (DI (p.2 : Nat)))]) (fun p => p.2 ≤ j.length ∧ p.1[0]? = some ⟨[.d (DI N), .d jd], 0⟩ ∧ p.1[1]? = some ⟨usedC (j.take p.2), 0⟩ ∧ (∀ o ∈ j.take p.2, opB N o = true) ∧ ((j.take p.2).map Prod.fst).Nodup) (fun p => j.length - p.2) (_, 0) ⟨Nat.zero_le _, rfl, rfl, fun o ho => by simp at ho, by simp⟩ rfl (by simp [Go.Vm.look, extK, enterK]) ?_
    intro p hp
    obtain ⟨σ0, i⟩ := p
    obtain ⟨hi, y0, y1, hall, hnd⟩ := hp
    simp only at hi y0 y1 hall hnd ⊢
    refine KC.seq ?_
    refine KC.region ?_
    refine KT.step rfl rfl (K.lss rfl rfl) ?_
    refine KT.nil ?_
    refine thenK_n ?_
    refine KC.seq ?_
    refine KC.cond rfl (fun hc16 => ?_) (fun hc16 => ?_)
    · skip
      replace hc16 := of_decide_eq_true hc16
      have hil : i < j.length := by omega
      refine KC.skip ?_
      refine thenK_n ?_
      refine KC.seq ?_
      refine KC.block ?_
      refine KC.seq ?_
      refine KC.region ?_
      refine KT.step rfl rfl (K.idxF c2_len (m := i) rfl hd rfl (by omega) Try.underlying78 Try.size79) ?_
      refine KT.step rfl rfl (K.loadFl (cs := c2 j[i]) rfl rfl Try.agg79 Try.size79) ?_
      refine KT.step rfl rfl (K.alloc Try.zero79) ?_
      refine KT.storeL (cs := (c2 j[i]).map .d) rfl rfl rfl rfl rfl rfl rfl Try.size79 ?_
      refine KT.nil ?_
      refine thenK_n ?_
      refine KC.seq ?_
      refine KC.seq ?_
      refine KC.region ?_
      refine KT.step rfl rfl (K.fieldAddrO rfl Try.fld79_0 Try.size3) ?_
      refine KT.step rfl rfl (K.loadO rfl (List.getElem?_concat_length ..) (by simp) rfl Try.agg3) ?_
      refine KT.step rfl rfl (K.fieldAddrO rfl Try.fld32_0 Try.size3) ?_
      refine KT.step rfl rfl (K.loadO rfl (get_left y0) (by simp) rfl Try.agg3) ?_
      refine KT.step rfl rfl (K.sub rfl rfl (wrap_id (by omega))) ?_
      refine KT.step rfl rfl (K.call3 rfl rfl rfl plainTry_60 (in60 _ _ _)) ?_
      refine KT.step rfl rfl (K.not rfl) ?_
      refine KT.step rfl rfl (K.move rfl) ?_
      refine KT.bcase (fun hb26 => ?_) (fun hb26 => ?_)
      · skip
        refine KT.skip rfl rfl ?_
        refine KT.skip rfl rfl ?_
        refine KT.skip rfl rfl ?_
        refine KT.skip rfl rfl ?_
        refine KT.step rfl rfl (K.pick rfl (fun _ => rfl) (fun h => by cases h)) ?_
        refine KT.step rfl rfl (K.move rfl) ?_
        refine KT.skip rfl rfl ?_
        refine KT.skip rfl rfl ?_
        refine KT.skip rfl rfl ?_
        refine KT.skip rfl rfl ?_
        refine KT.step rfl rfl (K.pick rfl (fun _ => rfl) (fun h => by cases h)) ?_
        refine KT.nil ?_
        refine thenK_n ?_
        refine KC.cond rfl (fun hc37 => ?_) (fun hc37 => ?_)
        · skip
          refine KC.seq ?_
          refine KC.region ?_
          refine KT.step rfl rfl (K.assign rfl) ?_
          refine KT.nil ?_
          refine thenK_n ?_
          refine KC.ret ?_
          refine thenK_r ?_
          refine blockK_r ?_
          refine thenK_r ?_
          refine thenK_r ?_
          refine blockK_r ?_
          refine thenK_r ?_
          exact ⟨.inl rfl, _, rfl, fin_b (jobB_no1 (List.getElem_mem hil) (by simp only [opB, Bool.not_eq_true'] at hb26 ⊢; rw [hb26]; rfl))⟩
        · cases hc37
      · skip
        have g1 : 0 ≤ j[i].1 ∧ j[i].1 ≤ N - 1 := by simpa using hb26
        refine KT.step rfl rfl (K.fieldAddrO rfl Try.fld79_1 Try.size3) ?_
        refine KT.step rfl rfl (K.loadO rfl (List.getElem?_concat_length ..) (by simp) rfl Try.agg3) ?_
        refine KT.step rfl rfl (K.call3 rfl rfl rfl plainTry_60 (in60 _ _ _)) ?_
        refine KT.step rfl rfl (K.not rfl) ?_
        refine KT.step rfl rfl (K.pick rfl (fun h => by cases h) (fun _ => rfl)) ?_
        refine KT.step rfl rfl (K.move rfl) ?_
        refine KT.bcase (fun hb32 => ?_) (fun hb32 => ?_)
        · skip
          refine KT.skip rfl rfl ?_
          refine KT.skip rfl rfl ?_
          refine KT.skip rfl rfl ?_
          refine KT.skip rfl rfl ?_
          refine KT.step rfl rfl (K.pick rfl (fun _ => rfl) (fun h => by cases h)) ?_
          refine KT.nil ?_
          refine thenK_n ?_
          refine KC.cond rfl (fun hc37 => ?_) (fun hc37 => ?_)
          · skip
            refine KC.seq ?_
            refine KC.region ?_
            refine KT.step rfl rfl (K.assign rfl) ?_
            refine KT.nil ?_
            refine thenK_n ?_
            refine KC.ret ?_
            refine thenK_r ?_
            refine blockK_r ?_
            refine thenK_r ?_
            refine thenK_r ?_
            refine blockK_r ?_
            refine thenK_r ?_
            exact ⟨.inl rfl, _, rfl, fin_b (jobB_no1 (List.getElem_mem hil) (by simp only [opB, Bool.not_eq_true'] at hb32 ⊢; rw [hb32, Bool.and_false]))⟩
          · cases hc37
        · skip
          have g2 : 1 ≤ j[i].2 ∧ j[i].2 ≤ 20 := by simpa using hb32
          have hop : opB N j[i] = true := by simp [opB, g1, g2]
          refine KT.step rfl rfl (K.fieldAddrO rfl Try.fld79_0 Try.size3) ?_
          refine KT.step rfl rfl (K.loadO rfl (List.getElem?_concat_length ..) (by simp) rfl Try.agg3) ?_
          refine KT.step rfl rfl (K.idxA (m := j[i].1.toNat) rfl (by exact congrArg (fun z => some (XV.d (DI z))) (show j[i].1 = ((j[i].1).toNat : Int) by omega)) (by omega) Try.underlying165 Try.size4) ?_
          refine KT.step rfl rfl (K.loadO rfl (get_left y1) (by simp) (by rw [Nat.zero_add, Nat.mul_one]; exact usedC_get (by omega)) Try.agg4) ?_
          refine KT.step rfl rfl (K.pick rfl (fun h => by cases h) (fun _ => rfl)) ?_
          refine KT.nil ?_
          refine thenK_n ?_
          refine KC.cond rfl (fun hc37 => ?_) (fun hc37 => ?_)
          · skip
            replace hc37 : decide (((j[i].1.toNat : Nat) : Int) ∈ (j.take i).map Prod.fst) = true := hc37
            rw [show ((j[i].1.toNat : Nat) : Int) = j[i].1 by omega] at hc37
            refine KC.seq ?_
            refine KC.region ?_
            refine KT.step rfl rfl (K.assign rfl) ?_
            refine KT.nil ?_
            refine thenK_n ?_
            refine KC.ret ?_
            refine thenK_r ?_
            refine blockK_r ?_
            refine thenK_r ?_
            refine thenK_r ?_
            refine blockK_r ?_
            refine thenK_r ?_
            exact ⟨.inl rfl, _, rfl, fin_b (jobB_no2 hil (of_decide_eq_true hc37))⟩
          · skip
            replace hc37 : decide (((j[i].1.toNat : Nat) : Int) ∈ (j.take i).map Prod.fst) = false := hc37
            rw [show ((j[i].1.toNat : Nat) : Int) = j[i].1 by omega] at hc37
            refine KC.skip ?_
            refine thenK_n ?_
            refine KC.region ?_
            refine KT.step rfl rfl (K.fieldAddrO rfl Try.fld79_0 Try.size3) ?_
            refine KT.step rfl rfl (K.loadO rfl (List.getElem?_concat_length ..) (by simp) rfl Try.agg3) ?_
            refine KT.step rfl rfl (K.idxA (m := j[i].1.toNat) rfl (by exact congrArg (fun z => some (XV.d (DI z))) (show j[i].1 = ((j[i].1).toNat : Int) by omega)) (by omega) Try.underlying165 Try.size4) ?_
            refine KT.storeG rfl rfl rfl rfl (get_left y1) (by rw [usedC_len]; omega) rfl rfl Try.size4 fun σ3 l3 u3 v3 => ?_
            have z0 := (v3 0 (by decide)).trans (get_left y0)
            rw [Nat.zero_add, Nat.mul_one, usedC_set (o := j[i]) (by omega), ← List.take_succ_eq_append_getElem hil] at u3
            refine KT.nil ?_
            refine blockK_n ?_
            refine thenK_n ?_
            refine KC.region ?_
            refine KT.step rfl rfl (K.add rfl rfl (wrap_id (by omega))) ?_
            refine KT.step rfl rfl (K.move rfl) ?_
            refine KT.nil ?_
            refine thenK_n ?_
            refine ⟨(σ3, i + 1), ⟨by simp only; omega, z0, u3, ?_, nodup_take hil hnd (of_decide_eq_false hc37)⟩, by simp only; omega, rfl, by simp [Go.Vm.look, extK]⟩
            intro o ho
            rw [List.take_succ_eq_append_getElem hil, List.mem_append, List.mem_singleton] at ho
            rcases ho with ho | rfl
            · exact hall o ho
            · exact hop
    · skip
      replace hc16 := of_decide_eq_false hc16
      refine KC.exit ?_
      refine thenK_x ?_
      refine thenK_x ?_
      refine blockK_e ?_
      refine thenK_n ?_
      refine KC.seq ?_
      refine KC.region ?_
      refine KT.step rfl rfl (K.assign rfl) ?_
      refine KT.nil ?_
      refine thenK_n ?_
      refine KC.ret ?_
      have et : j.take i = j := List.take_of_length_le (by omega)
      rw [et] at hall hnd
      exact ⟨.inl rfl, _, rfl, fin_b (by rw [jobB, List.all_eq_true.2 hall, decide_eq_true hnd, decide_eq_true hlen.1, decide_eq_true hlen.2]; rfl)⟩
set_option maxRecDepth 10000 in
theorem size68 {N : Int} {jd : DV} {J : List (List (Int × Int))} (hd : JbD jd J) (h3 : J.length ≤ 3) (h4 : ∀ j ∈ J, j.length ≤ 4) : DeepCall Try.prog 68 [.agg [DI N, jd]] (DI (J.flatten.length : Nat)) := by
  refine deepCall_K 5 Try.func68 rfl (Nat.le_of_ble_eq_true rfl) fun M W0 => ?_
  refine KC.seq ?_
  refine KC.region ?_
  refine KT.step rfl rfl (K.box rfl) ?_
  refine KT.step rfl rfl (K.assign rfl) ?_
  refine KT.nil ?_
  refine thenK_n ?_
  refine KC.seq ?_
  refine KC.region ?_
  refine KT.step rfl rfl (K.assign rfl) ?_
  refine KT.nil ?_
  refine thenK_n ?_
  refine KC.seq ?_
  refine KC.seq ?_
  refine KC.region ?_
  refine KT.step rfl rfl (K.fieldAddrO rfl Try.fld32_1 Try.size30) ?_
  refine KT.step rfl rfl (K.loadO rfl rfl (by simp) rfl Try.agg30) ?_
  refine KT.step rfl rfl (K.len rfl hd Try.underlying30) ?_
  refine KT.step rfl rfl (K.move rfl) ?_
  refine KT.nil ?_
  refine thenK_n ?_
  refine KC.block ?_
  refine KC.loop (fun _ : Nat => _) (fun i => [(3, .d (DI ((J.take i).flatten.length : Nat))), (7, .d jd), (8, .d (DI (J.length : Nat))), (9, .d (DI (i : Nat)))]) (fun i => i ≤ J.length) (fun i => J.length - i) 0 (Nat.zero_le _) rfl (by simp [Go.Vm.look, extK, enterK]) ?_
  intro i hi
  refine KC.seq ?_
  refine KC.region ?_
  refine KT.step rfl rfl (K.lss rfl rfl) ?_
  refine KT.nil ?_
  refine thenK_n ?_
  refine KC.seq ?_
  refine KC.cond rfl (fun hc10 => ?_) (fun hc10 => ?_)
  · skip
    replace hc10 := of_decide_eq_true hc10
    have hil : i < J.length := by omega
    refine KC.skip ?_
    refine thenK_n ?_
    refine KC.seq ?_
    refine KC.block ?_
    refine KC.seq ?_
    refine KC.region ?_
    refine KT.idx rfl rfl rfl (by assumption) rfl (by omega) Try.underlying30 Try.size78 fun c11 cs11 hq11 => ?_
    refine KT.step rfl rfl (K.load rfl Try.agg78) ?_
    refine KT.step rfl rfl (K.assign rfl) ?_
    refine KT.nil ?_
    refine thenK_n ?_
    refine KC.region ?_
    refine KT.step rfl rfl (K.move rfl) ?_
    refine KT.step rfl rfl (K.move rfl) ?_
    refine KT.step rfl rfl (K.lenF rfl hq11 Try.underlying78) ?_
    have b1 := h4 _ (List.getElem_mem hil)
    have b2 := flat_le h4 (k := i)
    refine KT.step rfl rfl (K.add rfl rfl (addN (by omega))) ?_
    refine KT.step rfl rfl (K.assign rfl) ?_
    refine KT.nil ?_
    refine blockK_n ?_
    refine thenK_n ?_
    refine KC.region ?_
    refine KT.step rfl rfl (K.add rfl rfl (wrap_id (by omega))) ?_
    refine KT.step rfl rfl (K.move rfl) ?_
    refine KT.nil ?_
    refine thenK_n ?_
    have e1 : (J.take (i + 1)).flatten.length = (J.take i).flatten.length + J[i].length := by rw [List.take_succ_eq_append_getElem hil, List.flatten_append, List.length_append]; simp
    refine ⟨i + 1, by omega, by omega, rfl, by simp [-List.length_flatten, Go.Vm.look, extK, e1]⟩
  · skip
    replace hc10 := of_decide_eq_false hc10
    refine KC.exit ?_
    refine thenK_x ?_
    refine thenK_x ?_
    refine blockK_e ?_
    refine thenK_n ?_
    refine KC.seq ?_
    refine KC.region ?_
    refine KT.step rfl rfl (K.move rfl) ?_
    refine KT.step rfl rfl (K.assign rfl) ?_
    refine KT.nil ?_
    refine thenK_n ?_
    refine KC.ret ?_
    have et : J.take i = J := List.take_of_length_le (by omega)
    rw [et]
    exact ⟨.inl rfl, _, rfl, fin_d rfl⟩
set_option maxRecDepth 10000 in
theorem valid50 {N : Int} {jd : DV} {J : List (List (Int × Int))} (hd : JbD jd J) (hl : J.length ≤ 9223372036854775807) (hr : ∀ j ∈ J, j.length ≤ 9223372036854775807) : DeepCall Try.prog 50 [.agg [DI N, jd]] (DB (shopB N J)) := by
  refine deepCall_K 5 Try.func50 rfl (Nat.le_of_ble_eq_true rfl) fun M W0 => ?_
  refine KC.seq ?_
  refine KC.region ?_
  refine KT.step rfl rfl (K.box rfl) ?_
  refine KT.step rfl rfl (K.assign rfl) ?_
  refine KT.nil ?_
  refine thenK_n ?_
  refine KC.seq ?_
  refine KC.seq ?_
  refine KC.region ?_
  refine KT.step rfl rfl (K.fieldAddrO rfl Try.fld32_0 Try.size3) ?_
  refine KT.step rfl rfl (K.loadO rfl rfl (by simp) rfl Try.agg3) ?_
  refine KT.step rfl rfl (K.call3 rfl rfl rfl plainTry_60 (in60 _ _ _)) ?_
  refine KT.step rfl rfl (K.not rfl) ?_
  refine KT.step rfl rfl (K.move rfl) ?_
  refine KT.bcase (fun hb9 => ?_) (fun hb9 => ?_)
  · skip
    refine KT.skip rfl rfl ?_
    refine KT.skip rfl rfl ?_
    refine KT.skip rfl rfl ?_
    refine KT.skip rfl rfl ?_
    refine KT.skip rfl rfl ?_
    refine KT.step rfl rfl (K.pick rfl (fun _ => rfl) (fun h => by cases h)) ?_
    refine KT.nil ?_
    refine thenK_n ?_
    refine KC.cond rfl (fun hc15 => ?_) (fun hc15 => ?_)
    · skip
      refine KC.seq ?_
      refine KC.region ?_
      refine KT.step rfl rfl (K.assign rfl) ?_
      refine KT.nil ?_
      refine thenK_n ?_
      refine KC.ret ?_
      refine thenK_r ?_
      refine ⟨.inl rfl, _, rfl, fin_b ?_⟩
      have : ¬ (1 ≤ N ∧ N ≤ 4) := fun h => by simp at hb9; omega
      rw [← Bool.not_eq_true, shopB_iff]
      exact fun h => this ⟨h.m1, h.m4⟩
    · cases hc15
  · skip
    have gm : 1 ≤ N ∧ N ≤ 4 := by simpa using hb9
    refine KT.step rfl rfl (K.fieldAddrO rfl Try.fld32_1 Try.size30) ?_
    refine KT.step rfl rfl (K.loadO rfl rfl (by simp) rfl Try.agg30) ?_
    refine KT.step rfl rfl (K.len rfl hd Try.underlying30) ?_
    refine KT.step rfl rfl (K.call3 rfl rfl rfl plainTry_60 (in60 _ _ _)) ?_
    refine KT.step rfl rfl (K.not rfl) ?_
    refine KT.step rfl rfl (K.pick rfl (fun h => by cases h) (fun _ => rfl)) ?_
    refine KT.nil ?_
    refine thenK_n ?_
    refine KC.cond rfl (fun hc15 => ?_) (fun hc15 => ?_)
    · skip
      refine KC.seq ?_
      refine KC.region ?_
      refine KT.step rfl rfl (K.assign rfl) ?_
      refine KT.nil ?_
      refine thenK_n ?_
      refine KC.ret ?_
      refine thenK_r ?_
      refine ⟨.inl rfl, _, rfl, fin_b ?_⟩
      have : ¬ (1 ≤ J.length ∧ J.length ≤ 3) := fun h => by simp at hc15; omega
      rw [← Bool.not_eq_true, shopB_iff]
      exact fun h => this ⟨h.j1, h.j3⟩
    · skip
      have gj : 1 ≤ J.length ∧ J.length ≤ 3 := by simp at hc15; omega
      refine KC.skip ?_
      refine thenK_n ?_
      refine KC.seq ?_
      refine KC.seq ?_
      refine KC.region ?_
      refine KT.step rfl rfl (K.fieldAddrO rfl Try.fld32_1 Try.size30) ?_
      refine KT.step rfl rfl (K.loadO rfl rfl (by simp) rfl Try.agg30) ?_
      refine KT.step rfl rfl (K.len rfl hd Try.underlying30) ?_
      refine KT.step rfl rfl (K.move rfl) ?_
      refine KT.nil ?_
      refine thenK_n ?_
      refine KC.block ?_
      refine KC.loop (fun _ : Nat => _) (fun i => [(1, .optr 0 0), (17, .d jd), (18, .d (DI (J.length : Nat))), (19, .d (DI (i : Nat)))]) (fun i => i ≤ J.length ∧ ∀ j ∈ J.take i, jobB N j = true) (fun i => J.length - i) 0 ⟨Nat.zero_le _, fun j hj => by simp at hj⟩ rfl (by simp [Go.Vm.look, extK, enterK]) ?_
      intro i hi
      obtain ⟨hi, hall⟩ := hi
      refine KC.seq ?_
      refine KC.region ?_
      refine KT.step rfl rfl (K.lss rfl rfl) ?_
      refine KT.nil ?_
      refine thenK_n ?_
      refine KC.seq ?_
      refine KC.cond rfl (fun hc20 => ?_) (fun hc20 => ?_)
      · skip
        replace hc20 := of_decide_eq_true hc20
        have hil : i < J.length := by omega
        refine KC.skip ?_
        refine thenK_n ?_
        refine KC.seq ?_
        refine KC.block ?_
        refine KC.seq ?_
        refine KC.region ?_
        refine KT.idx rfl rfl rfl (by assumption) rfl (by omega) Try.underlying30 Try.size78 fun c21 cs21 hq21 => ?_
        refine KT.step rfl rfl (K.load rfl Try.agg78) ?_
        refine KT.step rfl rfl (K.assign rfl) ?_
        refine KT.nil ?_
        refine thenK_n ?_
        refine KC.seq ?_
        refine KC.region ?_
        refine KT.step rfl rfl (K.loadOA ([DI N, jd]) rfl rfl (by decide) Try.agg32 Try.size32 rfl) ?_
        refine KT.step rfl rfl (K.move rfl) ?_
        refine KT.step rfl rfl (K.call2 rfl rfl plainTry_77 (isJob77 hq21 (hr _ (List.getElem_mem hil)) gm.1 gm.2)) ?_
        refine KT.step rfl rfl (K.not rfl) ?_
        refine KT.nil ?_
        refine thenK_n ?_
        refine KC.cond rfl (fun hc26 => ?_) (fun hc26 => ?_)
        · skip
          refine KC.seq ?_
          refine KC.region ?_
          refine KT.step rfl rfl (K.assign rfl) ?_
          refine KT.nil ?_
          refine thenK_n ?_
          refine KC.ret ?_
          refine blockK_r ?_
          refine thenK_r ?_
          refine thenK_r ?_
          refine blockK_r ?_
          refine thenK_r ?_
          exact ⟨.inl rfl, _, rfl, fin_b (shopB_no (List.getElem_mem hil) (by simpa using hc26))⟩
        · skip
          refine KC.skip ?_
          refine blockK_n ?_
          refine thenK_n ?_
          refine KC.region ?_
          refine KT.step rfl rfl (K.add rfl rfl (wrap_id (by omega))) ?_
          refine KT.step rfl rfl (K.move rfl) ?_
          refine KT.nil ?_
          refine thenK_n ?_
          refine ⟨i + 1, ⟨by omega, ?_⟩, by omega, rfl, by simp [Go.Vm.look, extK]⟩
          intro j hj
          rw [List.take_succ_eq_append_getElem hil, List.mem_append, List.mem_singleton] at hj
          rcases hj with hj | rfl
          · exact hall j hj
          · simpa using hc26
      · skip
        replace hc20 := of_decide_eq_false hc20
        refine KC.exit ?_
        refine thenK_x ?_
        refine thenK_x ?_
        refine blockK_e ?_
        refine thenK_n ?_
        refine KC.seq ?_
        refine KC.region ?_
        refine KT.step rfl rfl (K.loadOA ([DI N, jd]) rfl rfl (by decide) Try.agg32 Try.size32 rfl) ?_
        have et : J.take i = J := List.take_of_length_le (by omega)
        rw [et] at hall
        have h4 : ∀ j ∈ J, j.length ≤ 4 := fun j hj => (jobB_iff.1 (hall j hj)).2.1
        refine KT.step rfl rfl (K.call1 rfl plainTry_68 (size68 hd gj.2 h4)) ?_
        refine KT.step rfl rfl (K.leq rfl rfl) ?_
        refine KT.step rfl rfl (K.assign rfl) ?_
        refine KT.nil ?_
        refine thenK_n ?_
        refine KC.ret ?_
        exact ⟨.inl rfl, _, rfl, fin_b (by rw [shopB, List.all_eq_true.2 hall, decide_eq_true gm.1, decide_eq_true gm.2, decide_eq_true gj.1, decide_eq_true gj.2]; simp only [Bool.true_and]; exact decide_eq_decide.2 (by omega))⟩
set_option maxRecDepth 10000 in
theorem back79 (a : Int × Int) : DeepCall Try.prog 79 [.agg (c2 a)] (.agg (c2 (a.2, a.1))) := by
  refine deepCall_K 5 Try.func79 rfl (Nat.le_of_ble_eq_true rfl) fun M W0 => ?_
  refine KC.seq ?_
  refine KC.region ?_
  refine KT.step rfl rfl (K.box rfl) ?_
  refine KT.step rfl rfl (K.alloc Try.zero130) ?_
  refine KT.nil ?_
  refine thenK_n ?_
  refine KC.seq ?_
  refine KC.region ?_
  refine KT.step rfl rfl (K.fieldAddrO rfl Try.fld130_1 Try.size3) ?_
  refine KT.step rfl rfl (K.loadO rfl rfl (by simp) rfl Try.agg3) ?_
  refine KT.step rfl rfl (K.fieldAddrO rfl Try.fld130_0 Try.size3) ?_
  refine KT.step rfl rfl (K.loadO rfl rfl (by simp) rfl Try.agg3) ?_
  refine KT.step rfl rfl (K.buildS rfl (build130_2 _ _)) ?_
  refine KT.putAll rfl rfl rfl rfl rfl rfl rfl rfl Try.size130 ?_
  refine KT.nil ?_
  refine thenK_n ?_
  refine KC.ret ?_
  exact ⟨.inl rfl, _, resK_c (c2 (a.2, a.1)) rfl rfl rfl (by decide) Try.agg130 Try.size130 rfl, rfl⟩
end Go.Proofs.Ytdilkpcnkhedlaa

