import Derived.Test.YtjfpeiioddfjcaaZnA
/-
  Zones: what the operations make of matrices.
-/
namespace Go.Proofs.Ytjfpeiioddfjcaa
open Go.Vm Go.Zn
theorem plainTry_63 : plainFn Try.prog 63 = true := by kernel_rfl
theorem plainTry_68 : plainFn Try.prog 68 = true := by kernel_rfl
theorem plainTry_89 : plainFn Try.prog 89 = true := by kernel_rfl
theorem plainTry_39 : plainFn Try.prog 39 = true := by kernel_rfl
set_option maxRecDepth 10000 in
theorem tight51 {n : Nat} {a : Nat → Nat → Int} (hn : n ≤ 4) (ha : ZgM 5000 (Go.Zn.flo n a)) : DeepCall Try.prog 51 [.agg (mc n a)] (.agg (mc n (tightM n a))) := by
  refine deepCall_K 5 Try.func51 rfl (Nat.le_of_ble_eq_true rfl) fun M W0 => ?_
  refine KC.seq ?_
  refine KC.region ?_
  refine KT.step rfl rfl (K.box rfl) ?_
  refine KT.step rfl rfl (K.alloc Try.zero87) ?_
  refine KT.nil ?_
  refine thenK_n ?_
  refine KC.seq ?_
  refine KC.region ?_
  refine KT.step rfl rfl (K.loadOA (mc (n) (a)) rfl rfl (by decide) Try.agg87 Try.size87 rfl) ?_
  refine KT.step rfl rfl (K.call1 rfl plainTry_90 (floored90 hn)) ?_
  refine KT.putAll (cs := mcx n (Go.Zn.flo n a)) rfl rfl rfl rfl rfl rfl rfl rfl Try.size87 ?_
  refine KT.nil ?_
  refine thenK_n ?_
  refine KC.seq ?_
  refine KC.seq ?_
  refine KC.region ?_
  refine KT.step rfl rfl (K.fieldAddrO rfl Try.fld87_0 Try.size3) ?_
  refine KT.step rfl rfl (K.loadO rfl rfl (by simp) rfl Try.agg3) ?_
  refine KT.step rfl rfl (K.move rfl) ?_
  refine KT.nil ?_
  refine thenK_n ?_
  refine KC.block ?_
  refine KC.loop (fun k : Nat => [⟨mcx n (fwK cops n (Go.Zn.flo n a) k), 0⟩, ⟨mcx 0 (fun _ _ => 0), 0⟩]) (fun k => [(1, .optr 0 0), (2, .optr 1 0), (9, .d (DI (n : Nat))), (10, .d (DI (k : Nat)))]) (fun k => k ≤ n) (fun k => n - k) 0 (Nat.zero_le _) rfl (by simp [Go.Vm.look, extK, enterK]) ?_
  intro k hk
  refine KC.seq ?_
  refine KC.region ?_
  refine KT.step rfl rfl (K.lss rfl rfl) ?_
  refine KT.nil ?_
  refine thenK_n ?_
  refine KC.seq ?_
  refine KC.cond rfl (fun hc11 => ?_) (fun hc11 => ?_)
  · skip
    replace hc11 := of_decide_eq_true hc11
    refine KC.skip ?_
    refine thenK_n ?_
    refine KC.seq ?_
    refine KC.block ?_
    refine KC.seq ?_
    refine KC.region ?_
    refine KT.step rfl rfl (K.move rfl) ?_
    refine KT.step rfl rfl (K.assign rfl) ?_
    refine KT.nil ?_
    refine thenK_n ?_
    refine KC.seq ?_
    refine KC.region ?_
    refine KT.step rfl rfl (K.fieldAddrO rfl Try.fld87_0 Try.size3) ?_
    refine KT.step rfl rfl (K.loadO rfl rfl (by simp) rfl Try.agg3) ?_
    refine KT.step rfl rfl (K.move rfl) ?_
    refine KT.nil ?_
    refine thenK_n ?_
    refine KC.block ?_
    have hb1 := base_one k
    have hb2 := base_top (k := k) (by omega)
    have hst0 := stage_K (n := n) ha k (by omega)
    refine KC.loop (fun i : Nat => [⟨mcx n (fwI cops n (fwK cops n (Go.Zn.flo n a) k) k i), 0⟩, ⟨mcx 0 (fun _ _ => 0), 0⟩]) (fun i => [(1, .optr 0 0), (2, .optr 1 0), (9, .d (DI (n : Nat))), (10, .d (DI (k : Nat))), (3, .d (DI (k : Nat))), (14, .d (DI (n : Nat))), (15, .d (DI (i : Nat)))]) (fun i => i ≤ n) (fun i => n - i) 0 (Nat.zero_le _) rfl (by simp [Go.Vm.look, extK, enterK]) ?_
    intro i hi
    refine KC.seq ?_
    refine KC.region ?_
    refine KT.step rfl rfl (K.lss rfl rfl) ?_
    refine KT.nil ?_
    refine thenK_n ?_
    refine KC.seq ?_
    refine KC.cond rfl (fun hc16 => ?_) (fun hc16 => ?_)
    · skip
      replace hc16 := of_decide_eq_true hc16
      refine KC.skip ?_
      refine thenK_n ?_
      refine KC.seq ?_
      refine KC.block ?_
      refine KC.seq ?_
      refine KC.region ?_
      refine KT.step rfl rfl (K.move rfl) ?_
      refine KT.step rfl rfl (K.assign rfl) ?_
      refine KT.nil ?_
      refine thenK_n ?_
      refine KC.seq ?_
      refine KC.region ?_
      refine KT.step rfl rfl (K.fieldAddrO rfl Try.fld87_0 Try.size3) ?_
      refine KT.step rfl rfl (K.loadO rfl rfl (by simp) rfl Try.agg3) ?_
      refine KT.step rfl rfl (K.move rfl) ?_
      refine KT.nil ?_
      refine thenK_n ?_
      refine KC.block ?_
      refine KC.loop (fun j : Nat => [⟨mcx n (fwJ cops (fwI cops n (fwK cops n (Go.Zn.flo n a) k) k i) k i j), 0⟩, ⟨mcx 0 (fun _ _ => 0), 0⟩]) (fun j => [(1, .optr 0 0), (2, .optr 1 0), (9, .d (DI (n : Nat))), (10, .d (DI (k : Nat))), (3, .d (DI (k : Nat))), (14, .d (DI (n : Nat))), (15, .d (DI (i : Nat))), (4, .d (DI (i : Nat))), (19, .d (DI (n : Nat))), (20, .d (DI (j : Nat)))]) (fun j => j ≤ n) (fun j => n - j) 0 (Nat.zero_le _) rfl (by simp [Go.Vm.look, extK, enterK]) ?_
      intro j hj
      have hst := stage_J (by omega) (by omega) (stage_I (k := k) (n := n) (by omega) (by omega) hst0 i) j
      refine KC.seq ?_
      refine KC.region ?_
      refine KT.step rfl rfl (K.lss rfl rfl) ?_
      refine KT.nil ?_
      refine thenK_n ?_
      refine KC.seq ?_
      refine KC.cond rfl (fun hc21 => ?_) (fun hc21 => ?_)
      · skip
        replace hc21 := of_decide_eq_true hc21
        refine KC.skip ?_
        refine thenK_n ?_
        refine KC.seq ?_
        refine KC.block ?_
        refine KC.seq ?_
        refine KC.region ?_
        refine KT.step rfl rfl (K.move rfl) ?_
        refine KT.step rfl rfl (K.assign rfl) ?_
        refine KT.nil ?_
        refine thenK_n ?_
        refine KC.draw Try.mixed ?_
        refine KT.step rfl rfl (K.move rfl) ?_
        refine KT.step rfl rfl (K.move rfl) ?_
        refine KT.step rfl rfl (K.move rfl) ?_
        refine KT.step rfl rfl (K.move rfl) ?_
        refine KT.step rfl rfl (K.fieldAddrO rfl Try.fld87_1 Try.size85) ?_
        refine KT.step rfl rfl (K.idxA rfl rfl (by omega) Try.underlying85 Try.size84) ?_
        refine KT.step rfl rfl (K.idxA rfl rfl (by omega) Try.underlying84 Try.size3) ?_
        refine KT.step rfl rfl (K.getM rfl rfl rfl (by omega) (by omega) (by decide) Try.agg3) ?_
        refine KT.step rfl rfl (K.move rfl) ?_
        refine KT.step rfl rfl (K.move rfl) ?_
        refine KT.step rfl rfl (K.fieldAddrO rfl Try.fld87_1 Try.size85) ?_
        refine KT.step rfl rfl (K.idxA rfl rfl (by omega) Try.underlying85 Try.size84) ?_
        refine KT.step rfl rfl (K.idxA rfl rfl (by omega) Try.underlying84 Try.size3) ?_
        refine KT.step rfl rfl (K.getM rfl rfl rfl (by omega) (by omega) (by decide) Try.agg3) ?_
        refine KT.step rfl rfl (K.move rfl) ?_
        refine KT.step rfl rfl (K.move rfl) ?_
        refine KT.step rfl rfl (K.fieldAddrO rfl Try.fld87_1 Try.size85) ?_
        refine KT.step rfl rfl (K.idxA rfl rfl (by omega) Try.underlying85 Try.size84) ?_
        refine KT.step rfl rfl (K.idxA rfl rfl (by omega) Try.underlying84 Try.size3) ?_
        refine KT.step rfl rfl (K.getM rfl rfl rfl (by omega) (by omega) (by decide) Try.agg3) ?_
        refine KT.step rfl rfl (K.call2 rfl rfl plainTry_91 (sum91 (Lim.mono (hst i k).2.1 (by unfold TOP; omega) (by unfold TOP; omega)) (Lim.mono (hst k j).2.1 (by unfold TOP; omega) (by unfold TOP; omega)))) ?_
        refine KT.step rfl rfl (K.min2 rfl rfl) ?_
        refine KT.step rfl rfl (K.fieldAddrO rfl Try.fld87_1 Try.size85) ?_
        refine KT.step rfl rfl (K.idxA rfl rfl (by omega) Try.underlying85 Try.size84) ?_
        refine KT.step rfl rfl (K.idxA rfl rfl (by omega) Try.underlying84 Try.size3) ?_
        refine KT.putM rfl rfl rfl rfl rfl rfl (by omega) (by omega) Try.size3 ?_
        refine KT.nil ?_
        refine ⟨by kernel_rfl, ?_⟩
        refine blockK_n ?_
        refine thenK_n ?_
        refine KC.region ?_
        refine KT.step rfl rfl (K.add rfl rfl (wrap_id (by omega))) ?_
        refine KT.step rfl rfl (K.move rfl) ?_
        refine KT.nil ?_
        refine thenK_n ?_
        refine ⟨j + 1, by omega, by omega, rfl, by simp [Go.Vm.look, extK]⟩
      · skip
        replace hc21 := of_decide_eq_false hc21
        refine KC.exit ?_
        refine thenK_x ?_
        refine thenK_x ?_
        refine blockK_e ?_
        refine blockK_n ?_
        refine thenK_n ?_
        refine KC.region ?_
        refine KT.step rfl rfl (K.add rfl rfl (wrap_id (by omega))) ?_
        refine KT.step rfl rfl (K.move rfl) ?_
        refine KT.nil ?_
        refine thenK_n ?_
        have e : j = n := by omega
        subst e
        refine ⟨i + 1, by omega, by omega, rfl, by simp [Go.Vm.look, extK]⟩
    · skip
      replace hc16 := of_decide_eq_false hc16
      refine KC.exit ?_
      refine thenK_x ?_
      refine thenK_x ?_
      refine blockK_e ?_
      refine blockK_n ?_
      refine thenK_n ?_
      refine KC.region ?_
      refine KT.step rfl rfl (K.add rfl rfl (wrap_id (by omega))) ?_
      refine KT.step rfl rfl (K.move rfl) ?_
      refine KT.nil ?_
      refine thenK_n ?_
      have e : i = n := by omega
      subst e
      refine ⟨k + 1, by omega, by omega, rfl, by simp [Go.Vm.look, extK]⟩
  · skip
    replace hc11 := of_decide_eq_false hc11
    refine KC.exit ?_
    refine thenK_x ?_
    refine thenK_x ?_
    refine blockK_e ?_
    refine thenK_n ?_
    refine KC.seq ?_
    refine KC.region ?_
    have e : k = n := by omega
    subst e
    refine KT.step rfl rfl (K.loadOA (mc (k) (tightM k a)) rfl rfl (by decide) Try.agg87 Try.size87 rfl) ?_
    refine KT.putAll (cs := mcx k (tightM k a)) rfl rfl rfl rfl rfl rfl rfl rfl Try.size87 ?_
    refine KT.nil ?_
    refine thenK_n ?_
    refine KC.ret ?_
    exact ⟨.inl rfl, _, resK_c (mc (k) (tightM k a)) rfl rfl rfl (by decide) Try.agg87 Try.size87 rfl, fin_mc rfl⟩
set_option maxRecDepth 10000 in
theorem empty69 {n : Nat} {a : Nat → Nat → Int} (hn : n ≤ 4) : DeepCall Try.prog 69 [.agg (mc n a)] (DB (emptyB n a)) := by
  refine deepCall_K 5 Try.func69 rfl (Nat.le_of_ble_eq_true rfl) fun M W0 => ?_
  refine KC.seq ?_
  refine KC.region ?_
  refine KT.step rfl rfl (K.box rfl) ?_
  refine KT.step rfl rfl (K.assign rfl) ?_
  refine KT.nil ?_
  refine thenK_n ?_
  refine KC.seq ?_
  refine KC.seq ?_
  refine KC.region ?_
  refine KT.step rfl rfl (K.fieldAddrO rfl Try.fld87_0 Try.size3) ?_
  refine KT.step rfl rfl (K.loadO rfl rfl (by simp) rfl Try.agg3) ?_
  refine KT.step rfl rfl (K.move rfl) ?_
  refine KT.nil ?_
  refine thenK_n ?_
  refine KC.block ?_
  refine KC.loop (fun i : Nat => [⟨mcx n a, 0⟩]) (fun i => [(1, .optr 0 0), (5, .d (DI (n : Nat))), (6, .d (DI (i : Nat)))]) (fun i => i ≤ n ∧ ∀ q, q < i → ¬ a q q < 1) (fun i => n - i) 0 ⟨Nat.zero_le _, fun q h => by omega⟩ rfl (by simp [Go.Vm.look, extK, enterK]) ?_
  intro i hi
  obtain ⟨hi, hall⟩ := hi
  refine KC.seq ?_
  refine KC.region ?_
  refine KT.step rfl rfl (K.lss rfl rfl) ?_
  refine KT.nil ?_
  refine thenK_n ?_
  refine KC.seq ?_
  refine KC.cond rfl (fun hc7 => ?_) (fun hc7 => ?_)
  · skip
    replace hc7 := of_decide_eq_true hc7
    refine KC.skip ?_
    refine thenK_n ?_
    refine KC.seq ?_
    refine KC.block ?_
    refine KC.seq ?_
    refine KC.region ?_
    refine KT.step rfl rfl (K.move rfl) ?_
    refine KT.step rfl rfl (K.assign rfl) ?_
    refine KT.nil ?_
    refine thenK_n ?_
    refine KC.seq ?_
    refine KC.region ?_
    refine KT.step rfl rfl (K.move rfl) ?_
    refine KT.step rfl rfl (K.move rfl) ?_
    refine KT.step rfl rfl (K.fieldAddrO rfl Try.fld87_1 Try.size85) ?_
    refine KT.step rfl rfl (K.idxA rfl rfl (by omega) Try.underlying85 Try.size84) ?_
    refine KT.step rfl rfl (K.idxA rfl rfl (by omega) Try.underlying84 Try.size3) ?_
    refine KT.step rfl rfl (K.getM rfl rfl rfl (by omega) (by omega) (by decide) Try.agg3) ?_
    refine KT.step rfl rfl (K.lss rfl rfl) ?_
    refine KT.nil ?_
    refine thenK_n ?_
    refine KC.cond rfl (fun hc15 => ?_) (fun hc15 => ?_)
    · skip
      replace hc15 := of_decide_eq_true hc15
      refine KC.seq ?_
      refine KC.region ?_
      refine KT.step rfl rfl (K.assign rfl) ?_
      refine KT.nil ?_
      refine thenK_n ?_
      refine KC.ret ?_
      refine blockK_r ?_
      refine thenK_r ?_
      refine thenK_r ?_
      refine blockK_r ?_
      refine thenK_r ?_
      exact ⟨.inl rfl, _, rfl, fin_b (List.any_eq_true.2 ⟨i, List.mem_range.2 (by omega), decide_eq_true hc15⟩)⟩
    · skip
      replace hc15 := of_decide_eq_false hc15
      refine KC.skip ?_
      refine blockK_n ?_
      refine thenK_n ?_
      refine KC.region ?_
      refine KT.step rfl rfl (K.add rfl rfl (wrap_id (by omega))) ?_
      refine KT.step rfl rfl (K.move rfl) ?_
      refine KT.nil ?_
      refine thenK_n ?_
      refine ⟨i + 1, ⟨by omega, fun q hq => ?_⟩, by omega, rfl, by simp [Go.Vm.look, extK]⟩
      by_cases e : q = i
      · subst e; exact hc15
      · exact hall q (by omega)
  · skip
    replace hc7 := of_decide_eq_false hc7
    refine KC.exit ?_
    refine thenK_x ?_
    refine thenK_x ?_
    refine blockK_e ?_
    refine thenK_n ?_
    refine KC.seq ?_
    refine KC.region ?_
    refine KT.step rfl rfl (K.assign rfl) ?_
    refine KT.nil ?_
    refine thenK_n ?_
    refine KC.ret ?_
    exact ⟨.inl rfl, _, rfl, fin_b (by
      cases hb : emptyB n a with
      | false => rfl
      | true =>
        obtain ⟨q, h1, h2⟩ := List.any_eq_true.1 hb
        exact absurd (of_decide_eq_true h2) (hall q (by have := List.mem_range.1 h1; omega)))⟩
set_option maxRecDepth 10000 in
theorem includes70 {n : Nat} {a b : Nat → Nat → Int} (hn : n ≤ 4) : DeepCall Try.prog 70 [.agg (mc n a), .agg (mc n b)] (DB (inclB n a b)) := by
  refine deepCall_K 5 Try.func70 rfl (Nat.le_of_ble_eq_true rfl) fun M W0 => ?_
  refine KC.seq ?_
  refine KC.region ?_
  refine KT.step rfl rfl (K.box rfl) ?_
  refine KT.step rfl rfl (K.box rfl) ?_
  refine KT.step rfl rfl (K.assign rfl) ?_
  refine KT.nil ?_
  refine thenK_n ?_
  refine KC.seq ?_
  refine KC.seq ?_
  refine KC.region ?_
  refine KT.step rfl rfl (K.fieldAddrO rfl Try.fld87_0 Try.size3) ?_
  refine KT.step rfl rfl (K.loadO rfl rfl (by simp) rfl Try.agg3) ?_
  refine KT.step rfl rfl (K.move rfl) ?_
  refine KT.nil ?_
  refine thenK_n ?_
  refine KC.block ?_
  refine KC.loop (fun i : Nat => [⟨mcx n a, 0⟩, ⟨mcx n b, 0⟩]) (fun i => [(2, .optr 0 0), (3, .optr 1 0), (8, .d (DI (n : Nat))), (9, .d (DI (i : Nat)))]) (fun i => i ≤ n ∧ ∀ p q, p < i → q < n → b p q ≤ a p q) (fun i => n - i) 0 ⟨Nat.zero_le _, fun p q h => by omega⟩ rfl (by simp [Go.Vm.look, extK, enterK]) ?_
  intro i hi
  obtain ⟨hi, hall⟩ := hi
  refine KC.seq ?_
  refine KC.region ?_
  refine KT.step rfl rfl (K.lss rfl rfl) ?_
  refine KT.nil ?_
  refine thenK_n ?_
  refine KC.seq ?_
  refine KC.cond rfl (fun hc10 => ?_) (fun hc10 => ?_)
  · skip
    replace hc10 := of_decide_eq_true hc10
    refine KC.skip ?_
    refine thenK_n ?_
    refine KC.seq ?_
    refine KC.block ?_
    refine KC.seq ?_
    refine KC.region ?_
    refine KT.step rfl rfl (K.move rfl) ?_
    refine KT.step rfl rfl (K.assign rfl) ?_
    refine KT.nil ?_
    refine thenK_n ?_
    refine KC.seq ?_
    refine KC.region ?_
    refine KT.step rfl rfl (K.fieldAddrO rfl Try.fld87_0 Try.size3) ?_
    refine KT.step rfl rfl (K.loadO rfl rfl (by simp) rfl Try.agg3) ?_
    refine KT.step rfl rfl (K.move rfl) ?_
    refine KT.nil ?_
    refine thenK_n ?_
    refine KC.block ?_
    refine KC.loop (fun j : Nat => [⟨mcx n a, 0⟩, ⟨mcx n b, 0⟩]) (fun j => [(2, .optr 0 0), (3, .optr 1 0), (8, .d (DI (n : Nat))), (9, .d (DI (i : Nat))), (5, .d (DI (i : Nat))), (13, .d (DI (n : Nat))), (14, .d (DI (j : Nat)))]) (fun j => j ≤ n ∧ ∀ q, q < j → b i q ≤ a i q) (fun j => n - j) 0 ⟨Nat.zero_le _, fun q h => by omega⟩ rfl (by simp [Go.Vm.look, extK, enterK]) ?_
    intro j hj
    obtain ⟨hj, hall2⟩ := hj
    refine KC.seq ?_
    refine KC.region ?_
    refine KT.step rfl rfl (K.lss rfl rfl) ?_
    refine KT.nil ?_
    refine thenK_n ?_
    refine KC.seq ?_
    refine KC.cond rfl (fun hc15 => ?_) (fun hc15 => ?_)
    · skip
      replace hc15 := of_decide_eq_true hc15
      refine KC.skip ?_
      refine thenK_n ?_
      refine KC.seq ?_
      refine KC.block ?_
      refine KC.seq ?_
      refine KC.region ?_
      refine KT.step rfl rfl (K.move rfl) ?_
      refine KT.step rfl rfl (K.assign rfl) ?_
      refine KT.nil ?_
      refine thenK_n ?_
      refine KC.seq ?_
      refine KC.draw Try.mixed ?_
      refine KT.step rfl rfl (K.move rfl) ?_
      refine KT.step rfl rfl (K.move rfl) ?_
      refine KT.step rfl rfl (K.fieldAddrO rfl Try.fld87_1 Try.size85) ?_
      refine KT.step rfl rfl (K.idxA rfl rfl (by omega) Try.underlying85 Try.size84) ?_
      refine KT.step rfl rfl (K.idxA rfl rfl (by omega) Try.underlying84 Try.size3) ?_
      refine KT.step rfl rfl (K.getM rfl rfl rfl (by omega) (by omega) (by decide) Try.agg3) ?_
      refine KT.step rfl rfl (K.move rfl) ?_
      refine KT.step rfl rfl (K.move rfl) ?_
      refine KT.step rfl rfl (K.fieldAddrO rfl Try.fld87_1 Try.size85) ?_
      refine KT.step rfl rfl (K.idxA rfl rfl (by omega) Try.underlying85 Try.size84) ?_
      refine KT.step rfl rfl (K.idxA rfl rfl (by omega) Try.underlying84 Try.size3) ?_
      refine KT.step rfl rfl (K.getM rfl rfl rfl (by omega) (by omega) (by decide) Try.agg3) ?_
      refine KT.step rfl rfl (K.gtr rfl rfl) ?_
      refine KT.nil ?_
      refine ⟨by kernel_rfl, ?_⟩
      refine thenK_n ?_
      refine KC.cond rfl (fun hc29 => ?_) (fun hc29 => ?_)
      · skip
        replace hc29 := of_decide_eq_true hc29
        refine KC.seq ?_
        refine KC.region ?_
        refine KT.step rfl rfl (K.assign rfl) ?_
        refine KT.nil ?_
        refine thenK_n ?_
        refine KC.ret ?_
        refine blockK_r ?_
        refine thenK_r ?_
        refine thenK_r ?_
        refine blockK_r ?_
        refine blockK_r ?_
        refine thenK_r ?_
        refine thenK_r ?_
        refine blockK_r ?_
        refine thenK_r ?_
        exact ⟨.inl rfl, _, rfl, fin_b (inclB_false (show i < n by omega) (show j < n by omega) (by omega))⟩
      · skip
        replace hc29 := of_decide_eq_false hc29
        refine KC.skip ?_
        refine blockK_n ?_
        refine thenK_n ?_
        refine KC.region ?_
        refine KT.step rfl rfl (K.add rfl rfl (wrap_id (by omega))) ?_
        refine KT.step rfl rfl (K.move rfl) ?_
        refine KT.nil ?_
        refine thenK_n ?_
        refine ⟨j + 1, ⟨by omega, fun q hq => ?_⟩, by omega, rfl, by simp [Go.Vm.look, extK]⟩
        by_cases e : q = j
        · subst e; omega
        · exact hall2 q (by omega)
    · skip
      replace hc15 := of_decide_eq_false hc15
      refine KC.exit ?_
      refine thenK_x ?_
      refine thenK_x ?_
      refine blockK_e ?_
      refine blockK_n ?_
      refine thenK_n ?_
      refine KC.region ?_
      refine KT.step rfl rfl (K.add rfl rfl (wrap_id (by omega))) ?_
      refine KT.step rfl rfl (K.move rfl) ?_
      refine KT.nil ?_
      refine thenK_n ?_
      refine ⟨i + 1, ⟨by omega, fun p q hp hq => ?_⟩, by omega, rfl, by simp [Go.Vm.look, extK]⟩
      by_cases e : p = i
      · subst e; exact hall2 q (by omega)
      · exact hall p q (by omega) hq
  · skip
    replace hc10 := of_decide_eq_false hc10
    refine KC.exit ?_
    refine thenK_x ?_
    refine thenK_x ?_
    refine blockK_e ?_
    refine thenK_n ?_
    refine KC.seq ?_
    refine KC.region ?_
    refine KT.step rfl rfl (K.assign rfl) ?_
    refine KT.nil ?_
    refine thenK_n ?_
    refine KC.ret ?_
    exact ⟨.inl rfl, _, rfl, fin_b (inclB_true fun p q hp hq => hall p q (by omega) hq)⟩
set_option maxRecDepth 10000 in
theorem delay65 {n : Nat} {a : Nat → Nat → Int} (hn : n ≤ 4) (h1 : 1 ≤ n) : DeepCall Try.prog 65 [.agg (mc n a)] (.agg (mc n (delM n a))) := by
  refine deepCall_K 5 Try.func65 rfl (Nat.le_of_ble_eq_true rfl) fun M W0 => ?_
  refine KC.seq ?_
  refine KC.region ?_
  refine KT.step rfl rfl (K.box rfl) ?_
  refine KT.step rfl rfl (K.alloc Try.zero87) ?_
  refine KT.nil ?_
  refine thenK_n ?_
  refine KC.seq ?_
  refine KC.seq ?_
  refine KC.region ?_
  refine KT.step rfl rfl (K.assign rfl) ?_
  refine KT.nil ?_
  refine thenK_n ?_
  refine KC.block ?_
  refine KC.loop (fun i : Nat => [⟨mcx n (delP a i), 0⟩, ⟨mcx 0 (fun _ _ => 0), 0⟩]) (fun i => [(1, .optr 0 0), (2, .optr 1 0), (3, .d (DI (i : Nat)))]) (fun i => 1 ≤ i ∧ i ≤ n) (fun i => n - i) 1 ⟨Nat.le_refl _, h1⟩ (by rw [delP_one]; rfl) (by simp [Go.Vm.look, extK, enterK]) ?_
  intro i hi
  obtain ⟨hi1, hi⟩ := hi
  refine KC.seq ?_
  refine KC.seq ?_
  refine KC.region ?_
  refine KT.step rfl rfl (K.move rfl) ?_
  refine KT.step rfl rfl (K.fieldAddrO rfl Try.fld87_0 Try.size3) ?_
  refine KT.step rfl rfl (K.loadO rfl rfl (by simp) rfl Try.agg3) ?_
  refine KT.step rfl rfl (K.lss rfl rfl) ?_
  refine KT.nil ?_
  refine thenK_n ?_
  refine KC.cond rfl (fun hc7 => ?_) (fun hc7 => ?_)
  · skip
    replace hc7 := of_decide_eq_true hc7
    refine KC.skip ?_
    refine thenK_n ?_
    refine KC.seq ?_
    refine KC.block ?_
    refine KC.region ?_
    refine KT.step rfl rfl (K.move rfl) ?_
    refine KT.step rfl rfl (K.fieldAddrO rfl Try.fld87_1 Try.size85) ?_
    refine KT.step rfl rfl (K.idxA rfl rfl (by omega) Try.underlying85 Try.size84) ?_
    refine KT.step rfl rfl (K.idxA (m := 0) rfl rfl (by omega) Try.underlying84 Try.size3) ?_
    refine KT.putM rfl rfl rfl rfl rfl rfl (by omega) (by omega) Try.size3 ?_
    refine KT.nil ?_
    refine blockK_n ?_
    refine thenK_n ?_
    refine KC.region ?_
    refine KT.step rfl rfl (K.move rfl) ?_
    refine KT.step rfl rfl (K.add rfl rfl (wrap_id (by omega))) ?_
    refine KT.step rfl rfl (K.assign rfl) ?_
    refine KT.nil ?_
    refine thenK_n ?_
    refine ⟨i + 1, ⟨by omega, by omega⟩, by omega, (by rw [← set2_delP hi1]; rfl), by simp [Go.Vm.look, extK]⟩
  · skip
    replace hc7 := of_decide_eq_false hc7
    refine KC.exit ?_
    refine thenK_x ?_
    refine thenK_x ?_
    refine blockK_e ?_
    refine thenK_n ?_
    refine KC.seq ?_
    refine KC.region ?_
    have e : i = n := by omega
    subst e
    refine KT.step rfl rfl (K.loadOA (mc (i) (delM i a)) rfl rfl (by decide) Try.agg87 Try.size87 rfl) ?_
    refine KT.putAll (cs := mcx i (delM i a)) rfl rfl rfl rfl rfl rfl rfl rfl Try.size87 ?_
    refine KT.nil ?_
    refine thenK_n ?_
    refine KC.ret ?_
    exact ⟨.inl rfl, _, resK_c (mc (i) (delM i a)) rfl rfl rfl (by decide) Try.agg87 Try.size87 rfl, fin_mc rfl⟩
end Go.Proofs.Ytjfpeiioddfjcaa

