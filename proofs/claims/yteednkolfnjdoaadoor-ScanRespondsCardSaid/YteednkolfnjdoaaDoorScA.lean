import Derived.Test.YteednkolfnjdoaaDoorCyY
import Derived.Test.YteednkolfnjdoaaDoorScZ
import Derived.Test.YteednkolfnjdoaaDoorProg
import Derived.KernelRfl
/-
  Controllers: machines that are valid.
-/
namespace Go.Proofs.YteednkolfnjdoaaDoor
open Go.Vm Go.Sc
theorem Tryd.mixed : Tryd.prog.follows .mixedOrders = true := by kernel_rfl
theorem Tryd.agg3 : isAggT Tryd.prog 3 = some false := by kernel_rfl
theorem Tryd.size3 : sizeT Tryd.prog 3 = some 1 := by kernel_rfl
theorem Tryd.one3 : OneT Tryd.prog 3 (.int .i64 0) := ⟨by kernel_rfl, by kernel_rfl, rfl, of_decide_eq_true (by kernel_rfl)⟩
theorem Tryd.agg4 : isAggT Tryd.prog 4 = some false := by kernel_rfl
theorem Tryd.size4 : sizeT Tryd.prog 4 = some 1 := by kernel_rfl
theorem Tryd.one4 : OneT Tryd.prog 4 (.bool false) := ⟨by kernel_rfl, by kernel_rfl, rfl, of_decide_eq_true (by kernel_rfl)⟩
theorem Tryd.agg38 : isAggT Tryd.prog 38 = some false := by kernel_rfl
theorem Tryd.size38 : sizeT Tryd.prog 38 = some 1 := by kernel_rfl
theorem Tryd.one38 : OneT Tryd.prog 38 (.slice none 0 0) := ⟨by kernel_rfl, by kernel_rfl, rfl, of_decide_eq_true (by kernel_rfl)⟩
theorem Tryd.agg56 : isAggT Tryd.prog 56 = some false := by kernel_rfl
theorem Tryd.size56 : sizeT Tryd.prog 56 = some 1 := by kernel_rfl
theorem Tryd.agg58 : isAggT Tryd.prog 58 = some true := by kernel_rfl
theorem Tryd.size58 : sizeT Tryd.prog 58 = some 3 := by kernel_rfl
theorem Tryd.zero58 : zeroT Tryd.prog 58 = some (.agg #[.int .i64 0, .slice none 0 0, .slice none 0 0]) := by kernel_rfl
theorem Tryd.fld58_0 : fieldT Tryd.prog 58 0 = some { name := "Inputs", type := 3, offset := 0, embedded := false, tag := "", pkgPath := "", byteOffset := 0 } := by kernel_rfl
theorem Tryd.fld58_1 : fieldT Tryd.prog 58 1 = some { name := "Next", type := 56, offset := 1, embedded := false, tag := "", pkgPath := "", byteOffset := 8 } := by kernel_rfl
theorem Tryd.fld58_2 : fieldT Tryd.prog 58 2 = some { name := "Out", type := 56, offset := 2, embedded := false, tag := "", pkgPath := "", byteOffset := 32 } := by kernel_rfl
theorem Tryd.agg63 : isAggT Tryd.prog 63 = some true := by kernel_rfl
theorem Tryd.size63 : sizeT Tryd.prog 63 = some 3 := by kernel_rfl
theorem Tryd.zero63 : zeroT Tryd.prog 63 = some (.agg #[.int .i64 0, .slice none 0 0, .slice none 0 0]) := by kernel_rfl
theorem Tryd.fld63_0 : fieldT Tryd.prog 63 0 = some { name := "Inputs", type := 3, offset := 0, embedded := false, tag := "", pkgPath := "", byteOffset := 0 } := by kernel_rfl
theorem Tryd.fld63_1 : fieldT Tryd.prog 63 1 = some { name := "Next", type := 56, offset := 1, embedded := false, tag := "", pkgPath := "", byteOffset := 8 } := by kernel_rfl
theorem Tryd.fld63_2 : fieldT Tryd.prog 63 2 = some { name := "Out", type := 56, offset := 2, embedded := false, tag := "", pkgPath := "", byteOffset := 32 } := by kernel_rfl
theorem plainTryd_80 : plainFn Tryd.prog 80 = true := by kernel_rfl
theorem plainTryd_57 : plainFn Tryd.prog 57 = true := by kernel_rfl
theorem plainTryd_99 : plainFn Tryd.prog 99 = true := by kernel_rfl
theorem plainTryd_69 : plainFn Tryd.prog 69 = true := by kernel_rfl
set_option maxRecDepth 10000 in
theorem in80 (x lo hi : Int) : DeepCall Tryd.prog 80 [DI x, DI lo, DI hi] (DB (decide (lo ≤ x) && decide (x ≤ hi))) := by
  refine deepCall_K 5 Tryd.func80 rfl (Nat.le_of_ble_eq_true rfl) fun M W0 => ?_
  refine KC.seq ?_
  refine KC.region ?_
  refine KT.step rfl rfl (K.assign rfl) ?_
  refine KT.nil ?_
  refine thenK_n ?_
  refine KC.seq ?_
  refine KC.region ?_
  refine KT.step rfl rfl (K.move rfl) ?_
  refine KT.step rfl rfl (K.move rfl) ?_
  refine KT.step rfl rfl (K.leq rfl rfl) ?_
  refine KT.step rfl rfl (K.move rfl) ?_
  refine KT.bcase (fun hb10 => ?_) (fun hb10 => ?_)
  · skip
    replace hb10 := of_decide_eq_true hb10
    refine KT.step rfl rfl (K.move rfl) ?_
    refine KT.step rfl rfl (K.move rfl) ?_
    refine KT.step rfl rfl (K.leq rfl rfl) ?_
    refine KT.step rfl rfl (K.pick rfl (fun _ => rfl) (fun h => by cases h)) ?_
    refine KT.step rfl rfl (K.assign rfl) ?_
    refine KT.nil ?_
    refine thenK_n ?_
    refine KC.ret ?_
    exact ⟨.inl rfl, _, rfl, fin_b (by rw [decide_eq_true hb10, Bool.true_and])⟩
  · skip
    replace hb10 := of_decide_eq_false hb10
    refine KT.skip rfl rfl ?_
    refine KT.skip rfl rfl ?_
    refine KT.skip rfl rfl ?_
    refine KT.step rfl rfl (K.pick rfl (fun h => by cases h) (fun _ => rfl)) ?_
    refine KT.step rfl rfl (K.assign rfl) ?_
    refine KT.nil ?_
    refine thenK_n ?_
    refine KC.ret ?_
    exact ⟨.inl rfl, _, rfl, fin_b (by rw [decide_eq_false hb10]; rfl)⟩
set_option maxRecDepth 10000 in
theorem isWord57 {d : DV} {l : List Int} (hd : Ints d l) (hl : l.length ≤ 9223372036854775807) {m a : Int} (a0 : 0 ≤ a) (a1 : a ≤ 1000000) : DeepCall Tryd.prog 57 [d, DI m, DI a] (DB (wordB l m a)) := by
  refine deepCall_K 5 Tryd.func57 rfl (Nat.le_of_ble_eq_true rfl) fun M W0 => ?_
  refine KC.seq ?_
  refine KC.region ?_
  refine KT.step rfl rfl (K.assign rfl) ?_
  refine KT.nil ?_
  refine thenK_n ?_
  refine KC.seq ?_
  refine KC.seq ?_
  refine KC.region ?_
  refine KT.step rfl rfl (K.move rfl) ?_
  refine KT.step rfl rfl (K.len rfl hd Tryd.underlying38) ?_
  refine KT.step rfl rfl (K.move rfl) ?_
  refine KT.step rfl rfl (K.gtr rfl rfl) ?_
  refine KT.nil ?_
  refine thenK_n ?_
  refine KC.cond rfl (fun hc12 => ?_) (fun hc12 => ?_)
  · skip
    replace hc12 := of_decide_eq_true hc12
    refine KC.seq ?_
    refine KC.region ?_
    refine KT.step rfl rfl (K.assign rfl) ?_
    refine KT.nil ?_
    refine thenK_n ?_
    refine KC.ret ?_
    refine thenK_r ?_
    refine ⟨.inl rfl, _, rfl, fin_b ?_⟩
    rw [← Bool.not_eq_true, wordB_iff]
    exact fun h => by omega
  · skip
    replace hc12 := of_decide_eq_false hc12
    refine KC.skip ?_
    refine thenK_n ?_
    refine KC.seq ?_
    refine KC.seq ?_
    refine KC.region ?_
    refine KT.step rfl rfl (K.move rfl) ?_
    refine KT.step rfl rfl (K.len rfl hd Tryd.underlying38) ?_
    refine KT.step rfl rfl (K.move rfl) ?_
    refine KT.nil ?_
    refine thenK_n ?_
    refine KC.block ?_
    refine KC.loop (fun _ : Nat => []) (fun i => [(2, .d (DI a)), (13, .d d), (14, .d (DI (l.length : Nat))), (15, .d (DI (i : Nat)))]) (fun i => i ≤ l.length ∧ ∀ x ∈ l.take i, 0 ≤ x ∧ x ≤ a - 1) (fun i => l.length - i) 0 ⟨Nat.zero_le _, fun x hx => by simp at hx⟩ rfl (by simp [Go.Vm.look, extK, enterK]) ?_
    intro i hi
    obtain ⟨hi, hall⟩ := hi
    refine KC.seq ?_
    refine KC.region ?_
    refine KT.step rfl rfl (K.lss rfl rfl) ?_
    refine KT.nil ?_
    refine thenK_n ?_
    refine KC.seq ?_
    refine KC.cond rfl (fun hc16 => ?_) (fun hc16 => ?_)
    · skip
      replace hc16 := of_decide_eq_true hc16
      have hil : i < l.length := by omega
      refine KC.skip ?_
      refine thenK_n ?_
      refine KC.seq ?_
      refine KC.block ?_
      refine KC.seq ?_
      refine KC.region ?_
      refine KT.idxI rfl rfl rfl (by assumption) rfl (by omega) Tryd.underlying38 Tryd.size3 fun cs17 => ?_
      refine KT.step rfl rfl (K.load rfl Tryd.agg3) ?_
      refine KT.step rfl rfl (K.assign rfl) ?_
      refine KT.nil ?_
      refine thenK_n ?_
      refine KC.seq ?_
      refine KC.region ?_
      refine KT.step rfl rfl (K.move rfl) ?_
      refine KT.step rfl rfl (K.move rfl) ?_
      refine KT.step rfl rfl (K.sub rfl rfl (wrap_id (by omega))) ?_
      refine KT.step rfl rfl (K.call3 rfl rfl rfl plainTryd_80 (in80 _ _ _)) ?_
      refine KT.step rfl rfl (K.not rfl) ?_
      refine KT.nil ?_
      refine thenK_n ?_
      refine KC.cond rfl (fun hc23 => ?_) (fun hc23 => ?_)
      · skip
        refine KC.seq ?_
        refine KC.region ?_
        refine KT.step rfl rfl (K.assign rfl) ?_
        refine KT.nil ?_
        refine thenK_n ?_
        refine KC.ret ?_
        refine blockK_r ?_
        refine thenK_r ?_
        refine thenK_r ?_
        refine blockK_r ?_
        refine thenK_r ?_
        refine ⟨.inl rfl, _, rfl, fin_b ?_⟩
        rw [← Bool.not_eq_true, wordB_iff]
        exact fun h => by have := h.2 _ (List.getElem_mem hil); simp [this] at hc23
      · skip
        refine KC.skip ?_
        refine blockK_n ?_
        refine thenK_n ?_
        refine KC.region ?_
        refine KT.step rfl rfl (K.add rfl rfl (wrap_id (by omega))) ?_
        refine KT.step rfl rfl (K.move rfl) ?_
        refine KT.nil ?_
        refine thenK_n ?_
        refine ⟨i + 1, ⟨by omega, fun x hx => ?_⟩, by omega, rfl, by simp [Go.Vm.look, extK]⟩
        rw [List.take_succ_eq_append_getElem hil, List.mem_append, List.mem_singleton] at hx
        rcases hx with hx | rfl
        · exact hall x hx
        · simpa using hc23
    · skip
      replace hc16 := of_decide_eq_false hc16
      refine KC.exit ?_
      refine thenK_x ?_
      refine thenK_x ?_
      refine blockK_e ?_
      refine thenK_n ?_
      refine KC.seq ?_
      refine KC.region ?_
      refine KT.step rfl rfl (K.assign rfl) ?_
      refine KT.nil ?_
      refine thenK_n ?_
      refine KC.ret ?_
      have et : l.take i = l := List.take_of_length_le (by omega)
      rw [et] at hall
      exact ⟨.inl rfl, _, rfl, fin_b (wordB_iff.2 ⟨by omega, hall⟩)⟩
set_option maxRecDepth 10000 in
theorem isRow99 {d : DV} {l : List Int} (hd : Ints d l) (hl : l.length ≤ 9223372036854775807) {n m : Int} (m0 : 0 ≤ m) (m1 : m ≤ 100000) : DeepCall Tryd.prog 99 [d, DI n, DI m] (DB (rowB l n m)) := by
  refine deepCall_K 5 Tryd.func99 rfl (Nat.le_of_ble_eq_true rfl) fun M W0 => ?_
  refine KC.seq ?_
  refine KC.region ?_
  refine KT.step rfl rfl (K.assign rfl) ?_
  refine KT.nil ?_
  refine thenK_n ?_
  refine KC.seq ?_
  refine KC.region ?_
  refine KT.step rfl rfl (K.move rfl) ?_
  refine KT.step rfl rfl (K.len rfl hd Tryd.underlying38) ?_
  refine KT.step rfl rfl (K.move rfl) ?_
  refine KT.step rfl rfl (K.eql rfl rfl) ?_
  refine KT.step rfl rfl (K.move rfl) ?_
  refine KT.bcase (fun hb11 => ?_) (fun hb11 => ?_)
  · skip
    replace hb11 := of_decide_eq_true hb11
    refine KT.step rfl rfl (K.move rfl) ?_
    refine KT.step rfl rfl (K.move rfl) ?_
    refine KT.step rfl rfl (K.move rfl) ?_
    refine KT.step rfl rfl (K.add rfl rfl (wrap_id (by omega))) ?_
    refine KT.step rfl rfl (K.call3 rfl rfl rfl plainTryd_57 (isWord57 hd hl (by omega) (by omega))) ?_
    refine KT.step rfl rfl (K.pick rfl (fun _ => rfl) (fun h => by cases h)) ?_
    refine KT.step rfl rfl (K.assign rfl) ?_
    refine KT.nil ?_
    refine thenK_n ?_
    refine KC.ret ?_
    exact ⟨.inl rfl, _, rfl, fin_b (by unfold rowB; rw [decide_eq_true hb11]; rfl)⟩
  · skip
    replace hb11 := of_decide_eq_false hb11
    refine KT.skip rfl rfl ?_
    refine KT.skip rfl rfl ?_
    refine KT.skip rfl rfl ?_
    refine KT.skip rfl rfl ?_
    refine KT.skip rfl rfl ?_
    refine KT.step rfl rfl (K.pick rfl (fun h => by cases h) (fun _ => rfl)) ?_
    refine KT.step rfl rfl (K.assign rfl) ?_
    refine KT.nil ?_
    refine thenK_n ?_
    refine KC.ret ?_
    exact ⟨.inl rfl, _, rfl, fin_b (by unfold rowB; rw [decide_eq_false hb11]; rfl)⟩
set_option maxRecDepth 10000 in
theorem valid69 {a : Int} {nd od : DV} {nx ou : List (List Int)} (hn : Mat nd nx) (ho : Mat od ou) (hnl : nx.length ≤ 9223372036854775807) (_ : ou.length ≤ 9223372036854775807) (hnr : ∀ r ∈ nx, r.length ≤ 9223372036854775807) (hor : ∀ r ∈ ou, r.length ≤ 9223372036854775807) : DeepCall Tryd.prog 69 [.agg [DI a, nd, od]] (DB (vmB a nx ou)) := by
  refine deepCall_K 5 Tryd.func69 rfl (Nat.le_of_ble_eq_true rfl) fun M W0 => ?_
  refine KC.seq ?_
  refine KC.region ?_
  refine KT.step rfl rfl (K.box rfl) ?_
  refine KT.step rfl rfl (K.assign rfl) ?_
  refine KT.nil ?_
  refine thenK_n ?_
  refine KC.seq ?_
  refine KC.region ?_
  refine KT.step rfl rfl (K.fieldAddrO rfl Tryd.fld58_1 Tryd.size56) ?_
  refine KT.step rfl rfl (K.loadO rfl rfl (by simp) rfl Tryd.agg56) ?_
  refine KT.step rfl rfl (K.len rfl hn Tryd.underlying56) ?_
  refine KT.step rfl rfl (K.assign rfl) ?_
  refine KT.nil ?_
  refine thenK_n ?_
  refine KC.seq ?_
  refine KC.seq ?_
  refine KC.region ?_
  refine KT.step rfl rfl (K.fieldAddrO rfl Tryd.fld58_0 Tryd.size3) ?_
  refine KT.step rfl rfl (K.loadO rfl rfl (by simp) rfl Tryd.agg3) ?_
  refine KT.step rfl rfl (K.call3 rfl rfl rfl plainTryd_80 (in80 _ _ _)) ?_
  refine KT.step rfl rfl (K.not rfl) ?_
  refine KT.step rfl rfl (K.move rfl) ?_
  refine KT.bcase (fun hb12 => ?_) (fun hb12 => ?_)
  · skip
    refine KT.skip rfl rfl ?_
    refine KT.skip rfl rfl ?_
    refine KT.skip rfl rfl ?_
    refine KT.step rfl rfl (K.pick rfl (fun _ => rfl) (fun h => by cases h)) ?_
    refine KT.step rfl rfl (K.move rfl) ?_
    refine KT.skip rfl rfl ?_
    refine KT.skip rfl rfl ?_
    refine KT.skip rfl rfl ?_
    refine KT.skip rfl rfl ?_
    refine KT.skip rfl rfl ?_
    refine KT.step rfl rfl (K.pick rfl (fun _ => rfl) (fun h => by cases h)) ?_
    refine KT.nil ?_
    refine thenK_n ?_
    refine KC.cond rfl (fun hc23 => ?_) (fun hc23 => ?_)
    · skip
      refine KC.seq ?_
      refine KC.region ?_
      refine KT.step rfl rfl (K.assign rfl) ?_
      refine KT.nil ?_
      refine thenK_n ?_
      refine KC.ret ?_
      refine thenK_r ?_
      refine ⟨.inl rfl, _, rfl, fin_b (vmB_no fun h => ?_)⟩
      have := h.a1; have := h.a8
      simp at hb12; omega
    · cases hc23
  · skip
    have ga : 1 ≤ a ∧ a ≤ 8 := by simpa using hb12
    refine KT.step rfl rfl (K.move rfl) ?_
    refine KT.step rfl rfl (K.call3 rfl rfl rfl plainTryd_80 (in80 _ _ _)) ?_
    refine KT.step rfl rfl (K.not rfl) ?_
    refine KT.step rfl rfl (K.pick rfl (fun h => by cases h) (fun _ => rfl)) ?_
    refine KT.step rfl rfl (K.move rfl) ?_
    refine KT.bcase (fun hb17 => ?_) (fun hb17 => ?_)
    · skip
      refine KT.skip rfl rfl ?_
      refine KT.skip rfl rfl ?_
      refine KT.skip rfl rfl ?_
      refine KT.skip rfl rfl ?_
      refine KT.skip rfl rfl ?_
      refine KT.step rfl rfl (K.pick rfl (fun _ => rfl) (fun h => by cases h)) ?_
      refine KT.nil ?_
      refine thenK_n ?_
      refine KC.cond rfl (fun hc23 => ?_) (fun hc23 => ?_)
      · skip
        refine KC.seq ?_
        refine KC.region ?_
        refine KT.step rfl rfl (K.assign rfl) ?_
        refine KT.nil ?_
        refine thenK_n ?_
        refine KC.ret ?_
        refine thenK_r ?_
        refine ⟨.inl rfl, _, rfl, fin_b (vmB_no fun h => ?_)⟩
        have := h.n1; have := h.n16
        simp at hb17; omega
      · cases hc23
    · skip
      have gn : 1 ≤ nx.length ∧ nx.length ≤ 16 := by
        have h : (1 : Int) ≤ (nx.length : Nat) ∧ ((nx.length : Nat) : Int) ≤ 16 := by simpa using hb17
        omega
      refine KT.step rfl rfl (K.fieldAddrO rfl Tryd.fld58_2 Tryd.size56) ?_
      refine KT.step rfl rfl (K.loadO rfl rfl (by simp) rfl Tryd.agg56) ?_
      refine KT.step rfl rfl (K.len rfl ho Tryd.underlying56) ?_
      refine KT.step rfl rfl (K.move rfl) ?_
      refine KT.step rfl rfl (K.neq rfl rfl) ?_
      refine KT.step rfl rfl (K.pick rfl (fun h => by cases h) (fun _ => rfl)) ?_
      refine KT.nil ?_
      refine thenK_n ?_
      refine KC.cond rfl (fun hc23 => ?_) (fun hc23 => ?_)
      · skip
        replace hc23 := of_decide_eq_true hc23
        refine KC.seq ?_
        refine KC.region ?_
        refine KT.step rfl rfl (K.assign rfl) ?_
        refine KT.nil ?_
        refine thenK_n ?_
        refine KC.ret ?_
        refine thenK_r ?_
        refine ⟨.inl rfl, _, rfl, fin_b (vmB_no fun h => ?_)⟩
        have := h.oul; omega
      · skip
        replace hc23 := of_decide_eq_false hc23
        refine KC.skip ?_
        refine thenK_n ?_
        refine KC.seq ?_
        refine KC.seq ?_
        refine KC.region ?_
        refine KT.step rfl rfl (K.move rfl) ?_
        refine KT.step rfl rfl (K.move rfl) ?_
        refine KT.nil ?_
        refine thenK_n ?_
        refine KC.block ?_
        have gl : ou.length = nx.length := by omega
        refine KC.loop (fun _ : Nat => _) (fun i => [(1, .optr 0 0), (3, .d (DI (nx.length : Nat))), (24, .d (DI (nx.length : Nat))), (25, .d (DI (i : Nat)))]) (fun i => i ≤ nx.length ∧ (∀ r ∈ nx.take i, (r.length : Int) = a ∧ ∀ x ∈ r, 0 ≤ x ∧ x < nx.length) ∧ ∀ r ∈ ou.take i, (r.length : Int) = a ∧ ∀ x ∈ r, 0 ≤ x ∧ x ≤ 7) (fun i => nx.length - i) 0 ⟨Nat.zero_le _, fun x hx => by simp at hx, fun x hx => by simp at hx⟩ rfl (by simp [Go.Vm.look, extK, enterK]) ?_
        intro i hi
        obtain ⟨hi, hall, hall2⟩ := hi
        refine KC.seq ?_
        refine KC.region ?_
        refine KT.step rfl rfl (K.lss rfl rfl) ?_
        refine KT.nil ?_
        refine thenK_n ?_
        refine KC.seq ?_
        refine KC.cond rfl (fun hc26 => ?_) (fun hc26 => ?_)
        · skip
          replace hc26 := of_decide_eq_true hc26
          have hil : i < nx.length := by omega
          refine KC.skip ?_
          refine thenK_n ?_
          refine KC.seq ?_
          refine KC.block ?_
          refine KC.seq ?_
          refine KC.region ?_
          refine KT.step rfl rfl (K.move rfl) ?_
          refine KT.step rfl rfl (K.assign rfl) ?_
          refine KT.nil ?_
          refine thenK_n ?_
          refine KC.seq ?_
          refine KC.draw Tryd.mixed ?_
          refine KT.step rfl rfl (K.fieldAddrO rfl Tryd.fld58_1 Tryd.size56) ?_
          refine KT.step rfl rfl (K.loadO rfl rfl (by simp) rfl Tryd.agg56) ?_
          refine KT.step rfl rfl (K.move rfl) ?_
          refine KT.idx rfl rfl rfl (by assumption) rfl (by omega) Tryd.underlying56 Tryd.size38 fun c31 cs31 hq31 => ?_
          refine KT.step rfl rfl (K.load rfl Tryd.agg38) ?_
          refine KT.step rfl rfl (K.fieldAddrO rfl Tryd.fld58_0 Tryd.size3) ?_
          refine KT.step rfl rfl (K.loadO rfl rfl (by simp) rfl Tryd.agg3) ?_
          refine KT.step rfl rfl (K.move rfl) ?_
          refine KT.step rfl rfl (K.sub rfl rfl (wrap_id (by omega))) ?_
          refine KT.step rfl rfl (K.call3 rfl rfl rfl plainTryd_99 (isRow99 hq31 (hnr _ (List.getElem_mem hil)) (by omega) (by omega))) ?_
          refine KT.step rfl rfl (K.not rfl) ?_
          refine KT.step rfl rfl (K.move rfl) ?_
          refine KT.bcase (fun hb39 => ?_) (fun hb39 => ?_)
          · skip
            refine KT.skip rfl rfl ?_
            refine KT.skip rfl rfl ?_
            refine KT.skip rfl rfl ?_
            refine KT.skip rfl rfl ?_
            refine KT.skip rfl rfl ?_
            refine KT.skip rfl rfl ?_
            refine KT.skip rfl rfl ?_
            refine KT.skip rfl rfl ?_
            refine KT.skip rfl rfl ?_
            refine KT.step rfl rfl (K.pick rfl (fun _ => rfl) (fun h => by cases h)) ?_
            refine KT.nil ?_
            refine ⟨by kernel_rfl, ?_⟩
            refine thenK_n ?_
            refine KC.cond rfl (fun hc49 => ?_) (fun hc49 => ?_)
            · skip
              refine KC.seq ?_
              refine KC.region ?_
              refine KT.step rfl rfl (K.assign rfl) ?_
              refine KT.nil ?_
              refine thenK_n ?_
              refine KC.ret ?_
              refine blockK_r ?_
              refine thenK_r ?_
              refine thenK_r ?_
              refine blockK_r ?_
              refine thenK_r ?_
              refine ⟨.inl rfl, _, rfl, fin_b (vmB_no fun h => ?_)⟩
              obtain ⟨h1, h2⟩ := h.nr _ (List.getElem_mem hil)
              have : rowB nx[i] a (↑nx.length - 1) = true := rowB_iff.2 ⟨h1, fun x hx => by have := h2 x hx; omega⟩
              rw [this] at hb39; cases hb39
            · cases hc49
          · skip
            have gr : rowB nx[i] a (↑nx.length - 1) = true := by simpa using hb39
            refine KT.step rfl rfl (K.fieldAddrO rfl Tryd.fld58_2 Tryd.size56) ?_
            refine KT.step rfl rfl (K.loadO rfl rfl (by simp) rfl Tryd.agg56) ?_
            refine KT.step rfl rfl (K.move rfl) ?_
            refine KT.idx rfl rfl rfl (by assumption) rfl (by omega) Tryd.underlying56 Tryd.size38 fun c43 cs43 hq43 => ?_
            refine KT.step rfl rfl (K.load rfl Tryd.agg38) ?_
            refine KT.step rfl rfl (K.fieldAddrO rfl Tryd.fld58_0 Tryd.size3) ?_
            refine KT.step rfl rfl (K.loadO rfl rfl (by simp) rfl Tryd.agg3) ?_
            refine KT.step rfl rfl (K.call3 rfl rfl rfl plainTryd_99 (isRow99 hq43 (hor _ (List.getElem_mem (by omega))) (by omega) (by omega))) ?_
            refine KT.step rfl rfl (K.not rfl) ?_
            refine KT.step rfl rfl (K.pick rfl (fun h => by cases h) (fun _ => rfl)) ?_
            refine KT.nil ?_
            refine ⟨by kernel_rfl, ?_⟩
            refine thenK_n ?_
            refine KC.cond rfl (fun hc49 => ?_) (fun hc49 => ?_)
            · skip
              refine KC.seq ?_
              refine KC.region ?_
              refine KT.step rfl rfl (K.assign rfl) ?_
              refine KT.nil ?_
              refine thenK_n ?_
              refine KC.ret ?_
              refine blockK_r ?_
              refine thenK_r ?_
              refine thenK_r ?_
              refine blockK_r ?_
              refine thenK_r ?_
              refine ⟨.inl rfl, _, rfl, fin_b (vmB_no fun h => ?_)⟩
              have : rowB (ou[i]'(by omega)) a 7 = true := rowB_iff.2 (h.or _ (List.getElem_mem _))
              rw [this] at hc49; cases hc49
            · skip
              have gs : rowB (ou[i]'(by omega)) a 7 = true := by simpa using hc49
              refine KC.skip ?_
              refine blockK_n ?_
              refine thenK_n ?_
              refine KC.region ?_
              refine KT.step rfl rfl (K.add rfl rfl (wrap_id (by omega))) ?_
              refine KT.step rfl rfl (K.move rfl) ?_
              refine KT.nil ?_
              refine thenK_n ?_
              refine ⟨i + 1, ⟨by omega, fun x hx => ?_, fun x hx => ?_⟩, by omega, rfl, by simp [Go.Vm.look, extK]⟩
              · rw [List.take_succ_eq_append_getElem hil, List.mem_append, List.mem_singleton] at hx
                rcases hx with hx | rfl
                · exact hall x hx
                · obtain ⟨h1, h2⟩ := rowB_iff.1 gr
                  exact ⟨h1, fun x hx => by have := h2 x hx; omega⟩
              · rw [List.take_succ_eq_append_getElem (by omega), List.mem_append, List.mem_singleton] at hx
                rcases hx with hx | rfl
                · exact hall2 x hx
                · exact rowB_iff.1 gs
        · skip
          replace hc26 := of_decide_eq_false hc26
          refine KC.exit ?_
          refine thenK_x ?_
          refine thenK_x ?_
          refine blockK_e ?_
          refine thenK_n ?_
          refine KC.seq ?_
          refine KC.region ?_
          refine KT.step rfl rfl (K.assign rfl) ?_
          refine KT.nil ?_
          refine thenK_n ?_
          refine KC.ret ?_
          have et : nx.take i = nx := List.take_of_length_le (by omega)
          have eo : ou.take i = ou := List.take_of_length_le (by omega)
          rw [et] at hall
          rw [eo] at hall2
          exact ⟨.inl rfl, _, rfl, fin_b (vmB_iff.2 ⟨ga.1, ga.2, gn.1, gn.2, gl, hall, hall2⟩)⟩
end Go.Proofs.YteednkolfnjdoaaDoor

