import Derived.Test.YtcjcchceeidgkaaLgA
/-
  Logic: fixed points.
-/
namespace Go.Proofs.Ytcjcchceeidgkaa
open Go.Vm Go.Lg
set_option maxRecDepth 10000 in
theorem settled79 {F : FuncId} {cs : List DV} {f : Nat → Nat} {X m : Nat} (hp : plainFn Try.prog F = true) (hstep : ∀ k, k ≤ m → DeepCall Try.prog F ([DI (itN f k X : Nat)] ++ cs) (DI (f (itN f k X) : Nat)))
    (hfix : f (itN f m X) = itN f m X) : DeepCall Try.prog 79 [DI (X : Nat), .fn (.func F) [] cs] (DI (itN f m X : Nat)) := by
  refine deepCall_K 5 Try.func79 rfl (Nat.le_of_ble_eq_true rfl) fun M W0 => ?_
  refine KC.seq ?_
  refine KC.region ?_
  refine KT.step rfl rfl (K.assign rfl) ?_
  refine KT.nil ?_
  refine thenK_n ?_
  refine KC.block ?_
  refine KC.loop (fun _ : Nat => []) (fun k => [(0, .d (DI (itN f k X : Nat))), (1, .d (.fn (.func F) [] cs))]) (fun k => k ≤ m) (fun k => m - k) 0 (Nat.zero_le _) rfl (by simp [Go.Vm.look, extK, enterK, itN]) ?_
  intro k hk
  refine KC.block ?_
  refine KC.seq ?_
  refine KC.region ?_
  refine KT.step rfl rfl (K.move rfl) ?_
  refine KT.step rfl rfl (K.move rfl) ?_
  refine KT.step rfl rfl (K.callC (ds := [DI (itN f k X : Nat)]) (cs := cs) rfl rfl rfl hp (hstep k hk)) ?_
  refine KT.step rfl rfl (K.assign rfl) ?_
  refine KT.nil ?_
  refine thenK_n ?_
  refine KC.seq ?_
  refine KC.seq ?_
  refine KC.region ?_
  refine KT.step rfl rfl (K.move rfl) ?_
  refine KT.step rfl rfl (K.move rfl) ?_
  refine KT.step rfl rfl (K.eql rfl rfl) ?_
  refine KT.nil ?_
  refine thenK_n ?_
  refine KC.cond rfl (fun hc11 => ?_) (fun hc11 => ?_)
  · skip
    replace hc11 := of_decide_eq_true hc11
    refine KC.seq ?_
    refine KC.region ?_
    refine KT.step rfl rfl (K.move rfl) ?_
    refine KT.step rfl rfl (K.assign rfl) ?_
    refine KT.nil ?_
    refine thenK_n ?_
    refine KC.ret ?_
    refine thenK_r ?_
    refine blockK_r ?_
    refine thenK_r ?_
    refine blockK_r ?_
    have e : f (itN f k X) = itN f k X := by omega
    exact ⟨.inl rfl, _, rfl, fin_d (by rw [itN_fix e m hk])⟩
  · skip
    replace hc11 := of_decide_eq_false hc11
    refine KC.skip ?_
    refine thenK_n ?_
    refine KC.region ?_
    refine KT.step rfl rfl (K.move rfl) ?_
    refine KT.step rfl rfl (K.assign rfl) ?_
    refine KT.nil ?_
    refine blockK_n ?_
    refine thenK_n ?_
    have hne : k ≠ m := fun e => by
      subst e
      exact hc11 (congrArg (fun z : Nat => (z : Int)) hfix)
    refine ⟨k + 1, by omega, by omega, rfl, by simp [Go.Vm.look, extK, itN]⟩
set_option maxRecDepth 10000 in
theorem untS80 {dn dl : DV} {nx lb : List Nat} (hS : Str dn dl nx lb) {x y X : Nat} (hx : x < 65536) (hy : y < 65536) (hX : X < 65536) : DeepCall Try.prog 80 [DI (X : Nat), .ptr [DI (y : Nat)], .ptr [DI (x : Nat)], .ptr [dn, dl]] (DI (untS nx x y X : Nat)) := by
  refine deepCall_K 5 Try.func80 rfl (Nat.le_of_ble_eq_true rfl) fun M W0 => ?_
  refine KC.seq ?_
  refine KC.region ?_
  refine KT.step rfl rfl (K.assign rfl) ?_
  refine KT.nil ?_
  refine thenK_n ?_
  refine KC.seq ?_
  refine KC.draw Try.mixed ?_
  refine KT.step rfl rfl (K.load rfl Try.agg3) ?_
  refine KT.step rfl rfl (K.load rfl Try.agg3) ?_
  refine KT.step rfl rfl (K.loadAgg (m := 2) rfl Try.agg31 Try.size31 (by simp)) ?_
  refine KT.step rfl rfl (K.move rfl) ?_
  refine KT.step rfl rfl (K.call2 rfl rfl plainTry_58 (before58 hS hX)) ?_
  have hbf := pow16 hS.n16 (befN_lt nx X)
  refine KT.step rfl rfl (K.band rfl rfl (show IntKind.i64.wrap (BitVec.ofInt IntKind.i64.bits ((x : Nat) : Int) &&& BitVec.ofInt IntKind.i64.bits ((befN nx X : Nat) : Int)).toNat = ((x &&& befN nx X : Nat) : Int) from andI (lt63 hx) (lt63 hbf))) ?_
  have hab : x &&& befN nx X < 65536 := and_ltR (n := 16) hbf
  refine KT.step rfl rfl (K.bor rfl rfl (show IntKind.i64.wrap (BitVec.ofInt IntKind.i64.bits ((y : Nat) : Int) ||| BitVec.ofInt IntKind.i64.bits ((x &&& befN nx X : Nat) : Int)).toNat = ((y ||| x &&& befN nx X : Nat) : Int) from orI (lt63 hy) (lt63 hab))) ?_
  refine KT.step rfl rfl (K.assign rfl) ?_
  refine KT.nil ?_
  refine ⟨by kernel_rfl, ?_⟩
  refine thenK_n ?_
  refine KC.ret ?_
  exact ⟨.inl rfl, _, rfl, fin_d rfl⟩
set_option maxRecDepth 10000 in
theorem alwS81 {dn dl : DV} {nx lb : List Nat} (hS : Str dn dl nx lb) {x X : Nat} (hx : x < 65536) (hX : X < 65536) : DeepCall Try.prog 81 [DI (X : Nat), .ptr [DI (x : Nat)], .ptr [dn, dl]] (DI (alwS nx x X : Nat)) := by
  refine deepCall_K 5 Try.func81 rfl (Nat.le_of_ble_eq_true rfl) fun M W0 => ?_
  refine KC.seq ?_
  refine KC.region ?_
  refine KT.step rfl rfl (K.assign rfl) ?_
  refine KT.nil ?_
  refine thenK_n ?_
  refine KC.seq ?_
  refine KC.draw Try.mixed ?_
  refine KT.step rfl rfl (K.load rfl Try.agg3) ?_
  refine KT.step rfl rfl (K.loadAgg (m := 2) rfl Try.agg31 Try.size31 (by simp)) ?_
  refine KT.step rfl rfl (K.move rfl) ?_
  refine KT.step rfl rfl (K.call2 rfl rfl plainTry_58 (before58 hS hX)) ?_
  have hbf := pow16 hS.n16 (befN_lt nx X)
  refine KT.step rfl rfl (K.band rfl rfl (show IntKind.i64.wrap (BitVec.ofInt IntKind.i64.bits ((x : Nat) : Int) &&& BitVec.ofInt IntKind.i64.bits ((befN nx X : Nat) : Int)).toNat = ((x &&& befN nx X : Nat) : Int) from andI (lt63 hx) (lt63 hbf))) ?_
  refine KT.step rfl rfl (K.assign rfl) ?_
  refine KT.nil ?_
  refine ⟨by kernel_rfl, ?_⟩
  refine thenK_n ?_
  refine KC.ret ?_
  exact ⟨.inl rfl, _, rfl, fin_d rfl⟩
set_option maxRecDepth 10000 in
theorem until60 {dn dl : DV} {nx lb : List Nat} (hS : Str dn dl nx lb) {x y : Nat} (hx : x < 2 ^ nx.length) (hy : y < 2 ^ nx.length) : DeepCall Try.prog 60 [.agg [dn, dl], DI (x : Nat), DI (y : Nat)] (DI (untN nx x y : Nat)) := by
  refine deepCall_K 5 Try.func60 rfl (Nat.le_of_ble_eq_true rfl) fun M W0 => ?_
  refine KC.seq ?_
  refine KC.region ?_
  refine KT.step rfl rfl (K.box rfl) ?_
  refine KT.step rfl rfl (K.box rfl) ?_
  refine KT.step rfl rfl (K.box rfl) ?_
  refine KT.step rfl rfl (K.assign rfl) ?_
  refine KT.nil ?_
  refine thenK_n ?_
  refine KC.seq ?_
  refine KC.region ?_
  refine KT.step rfl rfl (K.makeF (m := 0) rfl rfl rfl rfl) ?_
  refine KT.step rfl rfl (K.callZ [0, 1, 2] 4 (ds := [DI (0 : Nat), .fn (.func 80) [] [.ptr [DI (y : Nat)], .ptr [DI (x : Nat)], .ptr [dn, dl]]]) rfl plainTry_79 rfl (settled79 (f := untS nx x y) (X := 0) (m := nx.length + 1) plainTry_80 (fun k _ => untS80 hS (pow16 hS.n16 hx) (pow16 hS.n16 hy) ?_) (untN_fixM hy (by omega)))) ?_
  · cases k with
    | zero => exact Nat.zero_lt_succ _
    | succ k => exact pow16 hS.n16 (untS_lt hy _)
  refine KT.step rfl rfl (K.assign rfl) ?_
  refine KT.nil ?_
  refine thenK_n ?_
  refine KC.ret ?_
  exact ⟨.inl rfl, _, rfl, fin_d rfl⟩
set_option maxRecDepth 10000 in
theorem always62 {dn dl : DV} {nx lb : List Nat} (hS : Str dn dl nx lb) {x : Nat} (hx : x < 2 ^ nx.length) : DeepCall Try.prog 62 [.agg [dn, dl], DI (x : Nat)] (DI (alwN nx x : Nat)) := by
  refine deepCall_K 5 Try.func62 rfl (Nat.le_of_ble_eq_true rfl) fun M W0 => ?_
  refine KC.seq ?_
  refine KC.region ?_
  refine KT.step rfl rfl (K.box rfl) ?_
  refine KT.step rfl rfl (K.box rfl) ?_
  refine KT.step rfl rfl (K.assign rfl) ?_
  refine KT.nil ?_
  refine thenK_n ?_
  refine KC.seq ?_
  refine KC.region ?_
  refine KT.step rfl rfl (K.loadOA ([dn, dl]) rfl rfl (by decide) Try.agg31 Try.size31 rfl) ?_
  refine KT.step rfl rfl (K.call1 rfl plainTry_52 (all52 hS)) ?_
  refine KT.step rfl rfl (K.makeF (m := 0) rfl rfl rfl rfl) ?_
  refine KT.step rfl rfl (K.callZ [0, 1] 4 (ds := [DI (allN nx.length : Nat), .fn (.func 81) [] [.ptr [DI (x : Nat)], .ptr [dn, dl]]]) rfl plainTry_79 rfl (settled79 (f := alwS nx x) (X := allN nx.length) (m := nx.length + 1) plainTry_81 (fun k _ => alwS81 hS (pow16 hS.n16 hx) ?_) (alwN_fixM (by omega)))) ?_
  · cases k with
    | zero => exact pow16 hS.n16 (allN_lt _)
    | succ k => exact pow16 hS.n16 (alwS_lt _)
  refine KT.step rfl rfl (K.assign rfl) ?_
  refine KT.nil ?_
  refine thenK_n ?_
  refine KC.ret ?_
  exact ⟨.inl rfl, _, rfl, fin_d rfl⟩
end Go.Proofs.Ytcjcchceeidgkaa

