import Derived.Test.YtjfpeiioddfjcaaZnU
import Derived.Test.YtjfpeiioddfjcaaZnB
/-
  Zones: guards, resets, rows.
-/
namespace Go.Proofs.Ytjfpeiioddfjcaa
open Go.Vm Go.Zn
theorem clone_fin {cs : List DV} {len : Nat} {cap : Option Nat} (hn : cs.length = len) (h0 : len ≠ 0) :
    deepen (freezeAll [(⟨[], 0⟩ : VObj), ⟨(cs.take len).map .d, 0⟩]) 5 (.osl 1 0 len 1 len false) = some (cloneD (.sl cs len cap)) := by
  have e : cs.take len = cs := List.take_of_length_le (by omega)
  rw [e]
  rw [deepen_osl (ob := ⟨cs.map .d, 1⟩) rfl rfl (by simp [hn])]
  have h2 : ((cs.map XV.d).drop 0).take (len * 1) = cs.map XV.d := by
    rw [List.drop_zero, Nat.mul_one, List.take_of_length_le (by simp [hn])]
  rw [show ((⟨cs.map XV.d, 1⟩ : VObj).cells.drop 0).take (len * 1) = cs.map XV.d from h2, mapM_deep]
  simp [cloneD, h0, e]
set_option maxRecDepth 10000 in
theorem clone39_nil : DeepCall Try.prog 39 [Dnil] Dnil := by
  refine deepCall_K 5 Try.func39 rfl (Nat.le_of_ble_eq_true rfl) fun M W0 => ?_
  refine KC.seq ?_
  refine KC.region ?_
  refine KT.step rfl rfl (K.assign rfl) ?_
  refine KT.nil ?_
  refine thenK_n ?_
  refine KC.seq ?_
  refine KC.seq ?_
  refine KC.region ?_
  refine KT.step rfl rfl (K.move rfl) ?_
  refine KT.step rfl rfl (K.eqNilNil rfl Try.underlying23) ?_
  refine KT.nil ?_
  refine thenK_n ?_
  refine KC.cond rfl (fun hc4 => ?_) (fun hc4 => ?_)
  · skip
    refine KC.seq ?_
    refine KC.region ?_
    refine KT.step rfl rfl (K.assign rfl) ?_
    refine KT.nil ?_
    refine thenK_n ?_
    refine KC.ret ?_
    refine thenK_r ?_
    exact ⟨.inl rfl, _, rfl, fin_d rfl⟩
  · cases hc4

set_option maxRecDepth 10000 in
theorem clone39_zero {cs : List DV} {cap : Option Nat} : DeepCall Try.prog 39 [.sl cs 0 cap] (.sl [] 0 (some 0)) := by
  refine deepCall_K 5 Try.func39 rfl (Nat.le_of_ble_eq_true rfl) fun M W0 => ?_
  refine KC.seq ?_
  refine KC.region ?_
  refine KT.step rfl rfl (K.assign rfl) ?_
  refine KT.nil ?_
  refine thenK_n ?_
  refine KC.seq ?_
  refine KC.seq ?_
  refine KC.region ?_
  refine KT.step rfl rfl (K.move rfl) ?_
  refine KT.step rfl rfl (K.eqNil rfl Try.underlying23) ?_
  refine KT.nil ?_
  refine thenK_n ?_
  refine KC.cond rfl (fun hc4 => ?_) (fun hc4 => ?_)
  · cases hc4
  · skip
    refine KC.skip ?_
    refine thenK_n ?_
    refine KC.seq ?_
    refine KC.region ?_
    refine KT.step rfl rfl (K.build0 Try.underlying23 Try.one3) ?_
    refine KT.step rfl rfl (K.move rfl) ?_
    refine KT.step rfl rfl (K.appNone rfl rfl Try.underlying23 Try.one3) ?_
    refine KT.step rfl rfl (K.assign rfl) ?_
    refine KT.nil ?_
    refine thenK_n ?_
    refine KC.ret ?_
    exact ⟨.inl rfl, _, rfl, rfl⟩

set_option maxRecDepth 10000 in
theorem clone39_all {cs : List DV} {len : Nat} {cap : Option Nat} (hn : cs.length = len) (h1 : ((cs.take len).map XV.d).all oneX = true) (h0 : len ≠ 0) (hl : len ≤ 1073741824) : DeepCall Try.prog 39 [.sl cs len cap] (cloneD (.sl cs len cap)) := by
  refine deepCall_K 5 Try.func39 rfl (Nat.le_of_ble_eq_true rfl) fun M W0 => ?_
  refine KC.seq ?_
  refine KC.region ?_
  refine KT.step rfl rfl (K.assign rfl) ?_
  refine KT.nil ?_
  refine thenK_n ?_
  refine KC.seq ?_
  refine KC.seq ?_
  refine KC.region ?_
  refine KT.step rfl rfl (K.move rfl) ?_
  refine KT.step rfl rfl (K.eqNil rfl Try.underlying23) ?_
  refine KT.nil ?_
  refine thenK_n ?_
  refine KC.cond rfl (fun hc4 => ?_) (fun hc4 => ?_)
  · cases hc4
  · skip
    refine KC.skip ?_
    refine thenK_n ?_
    refine KC.seq ?_
    refine KC.region ?_
    refine KT.step rfl rfl (K.build0 Try.underlying23 Try.one3) ?_
    refine KT.step rfl rfl (K.move rfl) ?_
    refine KT.step rfl rfl (K.appAll rfl rfl rfl hn h1 h0 hl Try.underlying23 Try.one3) ?_
    refine KT.step rfl rfl (K.assign rfl) ?_
    refine KT.nil ?_
    refine thenK_n ?_
    refine KC.ret ?_
    exact ⟨.inl rfl, _, rfl, clone_fin hn h0⟩

theorem clone39 {d : DV} {l : List Int} (hd : Ints d l) (hl : l.length ≤ 1073741824) : DeepCall Try.prog 39 [d] (cloneD d) := by
  rcases litOf_vec hd with ⟨rfl, rfl⟩ | ⟨cs, cap, rfl, hn, hr⟩
  · exact clone39_nil
  · by_cases h0 : l.length = 0
    · rw [h0]; exact clone39_zero
    · refine clone39_all hn ?_ h0 hl
      rw [List.all_map, List.all_eq_true]
      intro x hx
      obtain ⟨i, hi, rfl⟩ := List.getElem_of_mem (List.mem_of_mem_take hx)
      rw [hr i cs[i] l[i] (List.getElem?_eq_getElem hi) (List.getElem?_eq_getElem (by omega))]
      rfl
set_option maxRecDepth 10000 in
theorem and63 {n i j : Nat} {a : Nat → Nat → Int} {b : Int} (hn : n ≤ 4) (hi : i < n) (hj : j < n) (ha : ZgM 5000 (Go.Zn.flo n (set2 a i j (min (a i j) b)))) : DeepCall Try.prog 63 [.agg (mc n a), .agg [DI i, DI j, DI b]] (.agg (mc n (tightM n (set2 a i j (min (a i j) b))))) := by
  refine deepCall_K 5 Try.func63 rfl (Nat.le_of_ble_eq_true rfl) fun M W0 => ?_
  refine KC.seq ?_
  refine KC.region ?_
  refine KT.step rfl rfl (K.box rfl) ?_
  refine KT.step rfl rfl (K.box rfl) ?_
  refine KT.step rfl rfl (K.alloc Try.zero87) ?_
  refine KT.nil ?_
  refine thenK_n ?_
  refine KC.seq ?_
  refine KC.draw Try.mixed ?_
  refine KT.step rfl rfl (K.fieldAddrO rfl Try.fld38_0 Try.size3) ?_
  refine KT.step rfl rfl (K.loadO rfl rfl (by simp) rfl Try.agg3) ?_
  refine KT.step rfl rfl (K.fieldAddrO rfl Try.fld38_1 Try.size3) ?_
  refine KT.step rfl rfl (K.loadO rfl rfl (by simp) rfl Try.agg3) ?_
  refine KT.step rfl rfl (K.fieldAddrO rfl Try.fld38_0 Try.size3) ?_
  refine KT.step rfl rfl (K.loadO rfl rfl (by simp) rfl Try.agg3) ?_
  refine KT.step rfl rfl (K.fieldAddrO rfl Try.fld38_1 Try.size3) ?_
  refine KT.step rfl rfl (K.loadO rfl rfl (by simp) rfl Try.agg3) ?_
  refine KT.step rfl rfl (K.fieldAddrO rfl Try.fld87_1 Try.size85) ?_
  refine KT.step rfl rfl (K.idxA rfl rfl (by omega) Try.underlying85 Try.size84) ?_
  refine KT.step rfl rfl (K.idxA rfl rfl (by omega) Try.underlying84 Try.size3) ?_
  refine KT.step rfl rfl (K.getM rfl rfl rfl (by omega) (by omega) (by decide) Try.agg3) ?_
  refine KT.step rfl rfl (K.fieldAddrO rfl Try.fld38_2 Try.size3) ?_
  refine KT.step rfl rfl (K.loadO rfl rfl (by simp) rfl Try.agg3) ?_
  refine KT.step rfl rfl (K.min2 rfl rfl) ?_
  refine KT.step rfl rfl (K.fieldAddrO rfl Try.fld87_1 Try.size85) ?_
  refine KT.step rfl rfl (K.idxA rfl rfl (by omega) Try.underlying85 Try.size84) ?_
  refine KT.step rfl rfl (K.idxA rfl rfl (by omega) Try.underlying84 Try.size3) ?_
  refine KT.putM rfl rfl rfl rfl rfl rfl (by omega) (by omega) Try.size3 ?_
  refine KT.nil ?_
  refine ⟨by kernel_rfl, ?_⟩
  refine thenK_n ?_
  refine KC.seq ?_
  refine KC.region ?_
  refine KT.step rfl rfl (K.loadOA (mc (n) (set2 a i j (min (a i j) b))) rfl rfl (by decide) Try.agg87 Try.size87 rfl) ?_
  refine KT.step rfl rfl (K.call1 rfl plainTry_51 (tight51 hn ha)) ?_
  refine KT.putAll (cs := mcx n (tightM n (set2 a i j (min (a i j) b)))) rfl rfl rfl rfl rfl rfl rfl rfl Try.size87 ?_
  refine KT.nil ?_
  refine thenK_n ?_
  refine KC.ret ?_
  exact ⟨.inl rfl, _, resK_c (mc (n) (tightM n (set2 a i j (min (a i j) b)))) rfl rfl rfl (by decide) Try.agg87 Try.size87 rfl, fin_mc rfl⟩
set_option maxRecDepth 10000 in
theorem reset68 {n s : Nat} {a : Nat → Nat → Int} (hn : n ≤ 4) (h1 : 1 ≤ n) (hs : s < 2 ^ 63) : DeepCall Try.prog 68 [.agg (mc n a), DI s] (.agg (mc n (resM n s a))) := by
  refine deepCall_K 5 Try.func68 rfl (Nat.le_of_ble_eq_true rfl) fun M W0 => ?_
  refine KC.seq ?_
  refine KC.region ?_
  refine KT.step rfl rfl (K.box rfl) ?_
  refine KT.step rfl rfl (K.alloc Try.zero87) ?_
  refine KT.nil ?_
  refine thenK_n ?_
  refine KC.seq ?_
  refine KC.seq ?_
  refine KC.region ?_
  refine KT.step rfl rfl (K.assign rfl) ?_
  refine KT.nil ?_
  refine thenK_n ?_
  refine KC.block ?_
  refine KC.loop (fun c : Nat => [⟨mcx n (resP n s a c), 0⟩, ⟨mcx 0 (fun _ _ => 0), 0⟩]) (fun c => [(1, .d (DI (s : Nat))), (2, .optr 0 0), (4, .optr 1 0), (5, .d (DI ((c + 1 : Nat) : Int)))]) (fun c => c + 1 ≤ n) (fun c => n - c) 0 h1 rfl (by simp [Go.Vm.look, extK, enterK]) ?_
  intro c hc
  refine KC.seq ?_
  refine KC.seq ?_
  refine KC.region ?_
  refine KT.step rfl rfl (K.move rfl) ?_
  refine KT.step rfl rfl (K.fieldAddrO rfl Try.fld87_0 Try.size3) ?_
  refine KT.step rfl rfl (K.loadO rfl rfl (by simp) rfl Try.agg3) ?_
  refine KT.step rfl rfl (K.lss rfl rfl) ?_
  refine KT.nil ?_
  refine thenK_n ?_
  refine KC.cond rfl (fun hc10 => ?_) (fun hc10 => ?_)
  · skip
    replace hc10 := of_decide_eq_true hc10
    have hbit := bitOne s (c + 1)
    have hle : s / 2 ^ (c + 1) &&& 1 ≤ 1 := Nat.and_le_right
    refine KC.skip ?_
    refine thenK_n ?_
    refine KC.seq ?_
    refine KC.block ?_
    refine KC.seq ?_
    refine KC.seq ?_
    refine KC.region ?_
    refine KT.step rfl rfl (K.move rfl) ?_
    refine KT.step rfl rfl (K.move rfl) ?_
    refine KT.step rfl rfl (K.shr rfl rfl (by omega) (shrI (a := s) (i := c + 1) (by omega))) ?_
    refine KT.step rfl rfl (K.band rfl rfl (show IntKind.i64.wrap (BitVec.ofInt IntKind.i64.bits ((s / 2 ^ (c + 1) : Nat) : Int) &&& BitVec.ofInt IntKind.i64.bits (1 : Int)).toNat = ((s / 2 ^ (c + 1) &&& 1 : Nat) : Int) from andI (b := 1) (Nat.lt_of_le_of_lt (Nat.div_le_self _ _) hs) (by decide))) ?_
    refine KT.step rfl rfl (K.eql rfl rfl) ?_
    refine KT.nil ?_
    refine thenK_n ?_
    refine KC.cond rfl (fun hc17 => ?_) (fun hc17 => ?_)
    · skip
      replace hc17 := of_decide_eq_true hc17
      have ht : s.testBit (c + 1) = false := by rw [← hbit]; exact decide_eq_false (by omega)
      have hr : resP n s a (c + 1) = resP n s a c := by rw [resP, ht]; rfl
      refine KC.exit ?_
      refine thenK_x ?_
      refine blockK_e ?_
      refine thenK_n ?_
      refine KC.region ?_
      refine KT.step rfl rfl (K.move rfl) ?_
      refine KT.step rfl rfl (K.add rfl rfl (oneN (by omega))) ?_
      refine KT.step rfl rfl (K.assign rfl) ?_
      refine KT.nil ?_
      refine thenK_n ?_
      refine ⟨c + 1, by omega, by omega, (by rw [hr]), by simp [Go.Vm.look, extK]⟩
    · skip
      replace hc17 := of_decide_eq_false hc17
      have ht : s.testBit (c + 1) = true := by rw [← hbit]; exact decide_eq_true (by omega)
      have hr : resP n s a (c + 1) = oneR n (resP n s a c) (c + 1) := by rw [resP, ht]; rfl
      refine KC.skip ?_
      refine thenK_n ?_
      refine KC.seq ?_
      refine KC.region ?_
      refine KT.step rfl rfl (K.move rfl) ?_
      refine KT.step rfl rfl (K.fieldAddrO rfl Try.fld87_1 Try.size85) ?_
      refine KT.step rfl rfl (K.idxA (m := 0) rfl rfl (by omega) Try.underlying85 Try.size84) ?_
      refine KT.step rfl rfl (K.getRow rfl rfl rfl (by omega) (by decide) Try.agg84 Try.size84) ?_
      refine KT.step rfl rfl (K.fieldAddrO rfl Try.fld87_1 Try.size85) ?_
      refine KT.step rfl rfl (K.idxA rfl rfl (by omega) Try.underlying85 Try.size84) ?_
      refine KT.putRow rfl rfl rfl rfl rfl rfl (by omega) Try.size84 ?_
      refine KT.nil ?_
      refine thenK_n ?_
      refine KC.seq ?_
      refine KC.region ?_
      refine KT.step rfl rfl (K.fieldAddrO rfl Try.fld87_0 Try.size3) ?_
      refine KT.step rfl rfl (K.loadO rfl rfl (by simp) rfl Try.agg3) ?_
      refine KT.step rfl rfl (K.move rfl) ?_
      refine KT.nil ?_
      refine thenK_n ?_
      refine KC.block ?_
      refine KC.loop (fun i : Nat => [⟨mcx n (colP (rowR (resP n s a c) (c + 1)) (c + 1) i), 0⟩, ⟨mcx 0 (fun _ _ => 0), 0⟩]) (fun i => [(1, .d (DI (s : Nat))), (2, .optr 0 0), (4, .optr 1 0), (5, .d (DI ((c + 1 : Nat) : Int))), (25, .d (DI (n : Nat))), (26, .d (DI (i : Nat)))]) (fun i => i ≤ n) (fun i => n - i) 0 (Nat.zero_le _) (by rw [colP_zero]; rfl) (by simp [Go.Vm.look, extK, enterK]) ?_
      intro i hi
      refine KC.seq ?_
      refine KC.region ?_
      refine KT.step rfl rfl (K.lss rfl rfl) ?_
      refine KT.nil ?_
      refine thenK_n ?_
      refine KC.seq ?_
      refine KC.cond rfl (fun hc27 => ?_) (fun hc27 => ?_)
      · skip
        replace hc27 := of_decide_eq_true hc27
        refine KC.skip ?_
        refine thenK_n ?_
        refine KC.seq ?_
        refine KC.block ?_
        refine KC.seq ?_
        refine KC.region ?_
        refine KT.step rfl rfl (K.move rfl) ?_
        refine KT.step rfl rfl (K.assign rfl) ?_
        refine KT.nil ?_
        refine thenK_n ?_
        refine KC.draw Try.mixed ?_
        refine KT.step rfl rfl (K.move rfl) ?_
        refine KT.step rfl rfl (K.move rfl) ?_
        refine KT.step rfl rfl (K.move rfl) ?_
        refine KT.step rfl rfl (K.fieldAddrO rfl Try.fld87_1 Try.size85) ?_
        refine KT.step rfl rfl (K.idxA rfl rfl (by omega) Try.underlying85 Try.size84) ?_
        refine KT.step rfl rfl (K.idxA (m := 0) rfl rfl (by omega) Try.underlying84 Try.size3) ?_
        refine KT.step rfl rfl (K.getM rfl rfl rfl (by omega) (by omega) (by decide) Try.agg3) ?_
        refine KT.step rfl rfl (K.fieldAddrO rfl Try.fld87_1 Try.size85) ?_
        refine KT.step rfl rfl (K.idxA rfl rfl (by omega) Try.underlying85 Try.size84) ?_
        refine KT.step rfl rfl (K.idxA rfl rfl (by omega) Try.underlying84 Try.size3) ?_
        refine KT.putM rfl rfl rfl rfl rfl rfl (by omega) (by omega) Try.size3 ?_
        refine KT.nil ?_
        refine ⟨by kernel_rfl, ?_⟩
        refine blockK_n ?_
        refine thenK_n ?_
        refine KC.region ?_
        refine KT.step rfl rfl (K.add rfl rfl (wrap_id (by omega))) ?_
        refine KT.step rfl rfl (K.move rfl) ?_
        refine KT.nil ?_
        refine thenK_n ?_
        refine ⟨i + 1, by omega, by omega, (by rw [← set2_colP (show 1 ≤ c + 1 by omega)]; rfl), by simp [Go.Vm.look, extK]⟩
      · skip
        replace hc27 := of_decide_eq_false hc27
        refine KC.exit ?_
        refine thenK_x ?_
        refine thenK_x ?_
        refine blockK_e ?_
        refine blockK_n ?_
        refine thenK_n ?_
        refine KC.region ?_
        refine KT.step rfl rfl (K.move rfl) ?_
        refine KT.step rfl rfl (K.add rfl rfl (oneN (by omega))) ?_
        refine KT.step rfl rfl (K.assign rfl) ?_
        refine KT.nil ?_
        refine thenK_n ?_
        refine ⟨c + 1, by omega, by omega, (by rw [hr, show i = n by omega]; rfl), by simp [Go.Vm.look, extK]⟩
  · skip
    replace hc10 := of_decide_eq_false hc10
    refine KC.exit ?_
    refine thenK_x ?_
    refine thenK_x ?_
    refine blockK_e ?_
    refine thenK_n ?_
    refine KC.seq ?_
    refine KC.region ?_
    have e : n = c + 1 := by omega
    subst e
    refine KT.step rfl rfl (K.loadOA (mc (c + 1) (resM (c + 1) s a)) rfl rfl (by decide) Try.agg87 Try.size87 rfl) ?_
    refine KT.putAll (cs := mcx (c + 1) (resM (c + 1) s a)) rfl rfl rfl rfl rfl rfl rfl rfl Try.size87 ?_
    refine KT.nil ?_
    refine thenK_n ?_
    refine KC.ret ?_
    exact ⟨.inl rfl, _, resK_c (mc (c + 1) (resM (c + 1) s a)) rfl rfl rfl (by decide) Try.agg87 Try.size87 rfl, fin_mc rfl⟩
set_option maxRecDepth 10000 in
theorem rows89 {n : Nat} {a : Nat → Nat → Int} (hn : n ≤ 4) : DeepCall Try.prog 89 [.agg (mc n a)] (zoneD n a) := by
  refine deepCall_K 5 Try.func89 rfl (Nat.le_of_ble_eq_true rfl) fun M W0 => ?_
  refine KC.seq ?_
  refine KC.region ?_
  refine KT.step rfl rfl (K.box rfl) ?_
  refine KT.step rfl rfl (K.assign rfl) ?_
  refine KT.nil ?_
  refine thenK_n ?_
  refine KC.seq ?_
  refine KC.region ?_
  refine KT.step rfl rfl (K.fieldAddrO rfl Try.fld87_0 Try.size3) ?_
  refine KT.step rfl rfl (K.loadO rfl rfl (by simp) rfl Try.agg3) ?_
  refine KT.step rfl rfl (K.make rfl rfl (Nat.le_refl n) (by omega) Try.underlying22 Try.one23) ?_
  refine KT.step rfl rfl (K.assign rfl) ?_
  refine KT.nil ?_
  refine thenK_n ?_
  refine KC.seq ?_
  refine KC.seq ?_
  refine KC.region ?_
  refine KT.step rfl rfl (K.move rfl) ?_
  refine KT.step rfl rfl (K.lenO rfl Try.underlying22) ?_
  refine KT.step rfl rfl (K.move rfl) ?_
  refine KT.nil ?_
  refine thenK_n ?_
  refine KC.block ?_
  refine KC.loop (fun i : Nat => [⟨mcx n a, min i 1⟩, ⟨updL n (fun k => .d (zrowD n a k)) (.d Dnil) i, 0⟩]) (fun i => [(1, .optr 0 0), (3, .osl 1 0 n 1 n true), (9, .d (DI (n : Nat))), (10, .d (DI (i : Nat)))]) (fun i => i ≤ n) (fun i => n - i) 0 (Nat.zero_le _) (by rw [← updL_zero]; rfl) (by simp [Go.Vm.look, extK, enterK]) ?_
  intro i hi
  refine KC.seq ?_
  refine KC.region ?_
  refine KT.step rfl rfl (K.lss rfl rfl) ?_
  refine KT.nil ?_
  refine thenK_n ?_
  refine KC.seq ?_
  refine KC.cond rfl (fun hc11 => ?_) (fun hc11 => ?_)
  · skip
    replace hc11 := of_decide_eq_true hc11
    refine KC.skip ?_
    refine thenK_n ?_
    refine KC.seq ?_
    refine KC.block ?_
    refine KC.seq ?_
    refine KC.region ?_
    refine KT.step rfl rfl (K.move rfl) ?_
    refine KT.step rfl rfl (K.assign rfl) ?_
    refine KT.nil ?_
    refine thenK_n ?_
    refine KC.draw Try.mixed ?_
    refine KT.step rfl rfl (K.move rfl) ?_
    refine KT.step rfl rfl (K.move rfl) ?_
    refine KT.step rfl rfl (K.move rfl) ?_
    refine KT.step rfl rfl (K.fieldAddrO rfl Try.fld87_1 Try.size85) ?_
    refine KT.step rfl rfl (K.idxA rfl rfl (by omega) Try.underlying85 Try.size84) ?_
    refine KT.step rfl rfl (K.fieldAddrO rfl Try.fld87_0 Try.size3) ?_
    refine KT.step rfl rfl (K.loadO rfl rfl (by show min i 1 ≠ 2; omega) rfl Try.agg3) ?_
    refine KT.step rfl rfl (K.sliceAh rfl rfl Try.underlying84 Try.size3 rfl (by show min i 1 ≠ 2; omega) (by decide) hn (by show 0 + 1 + i * 4 + 4 * 1 ≤ 17; omega)) ?_
    refine KT.step rfl rfl (K.callZ (ds := [.sl (zrowC n a i) n (some 4)]) [0] 5 rfl plainTry_39 (row_deep (by omega) hn) (clone39 (zrowC_ints (a := a) (i := i)) (by simp; omega))) ?_
    refine KT.step rfl rfl (K.idxO rfl rfl (by omega) Try.underlying22 Try.size23) ?_
    refine KT.step rfl rfl (K.storeO rfl rfl rfl (by rw [updL_len]; omega) (cellsX_clone (zrowC_ints (n := n) (a := a) (i := i) (cap := some 4))).1 (cellsX_clone (zrowC_ints (n := n) (a := a) (i := i) (cap := some 4))).2 Try.size23) ?_
    refine KT.nil ?_
    refine ⟨by kernel_rfl, ?_⟩
    refine blockK_n ?_
    refine thenK_n ?_
    refine KC.region ?_
    refine KT.step rfl rfl (K.add rfl rfl (wrap_id (by omega))) ?_
    refine KT.step rfl rfl (K.move rfl) ?_
    refine KT.nil ?_
    refine thenK_n ?_
    refine ⟨i + 1, by omega, by omega, ?_, by simp [Go.Vm.look, extK]⟩
    rw [frz0, show min (i + 1) 1 = 1 by omega, ← updL_set (show i < n by omega), Nat.zero_add]
    rfl
  · skip
    replace hc11 := of_decide_eq_false hc11
    refine KC.exit ?_
    refine thenK_x ?_
    refine thenK_x ?_
    refine blockK_e ?_
    refine thenK_n ?_
    refine KC.seq ?_
    refine KC.region ?_
    refine KT.step rfl rfl (K.move rfl) ?_
    refine KT.step rfl rfl (K.assign rfl) ?_
    refine KT.nil ?_
    refine thenK_n ?_
    refine KC.ret ?_
    have e : i = n := by omega
    subst e
    exact ⟨.inl rfl, _, rfl, rows_fin⟩
end Go.Proofs.Ytjfpeiioddfjcaa

