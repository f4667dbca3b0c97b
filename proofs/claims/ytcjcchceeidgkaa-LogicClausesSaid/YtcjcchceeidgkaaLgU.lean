import Derived.Test.YtcjcchceeidgkaaLgK
import Derived.Test.YtcjcchceeidgkaaLgX
/-
  Logic: the reference on sets of states, and on letters.
-/
namespace Go.Proofs.Ytcjcchceeidgkaa
open Go.Vm Go.Lg
theorem plainTry_12 : plainFn Try.prog 12 = true := by kernel_rfl
theorem plainTry_37 : plainFn Try.prog 37 = true := by kernel_rfl
theorem plainTry_34 : plainFn Try.prog 34 = true := by kernel_rfl
theorem plainTry_35 : plainFn Try.prog 35 = true := by kernel_rfl
theorem plainTry_36 : plainFn Try.prog 36 = true := by kernel_rfl
theorem plainTry_70 : plainFn Try.prog 70 = true := by kernel_rfl
theorem plainTry_82 : plainFn Try.prog 82 = true := by kernel_rfl
theorem plainTry_83 : plainFn Try.prog 83 = true := by kernel_rfl
set_option maxRecDepth 10000 in
theorem rbefore34 {dn dl : DV} {nx lb : List Nat} (hS : Str dn dl nx lb) {x : Nat} (hx : x < 65536) : DeepCall Try.prog 34 [.agg [dn, dl], DI (x : Nat)] (DI (befN nx x : Nat)) := by
  refine deepCall_K 5 Try.func34 rfl (Nat.le_of_ble_eq_true rfl) fun M W0 => ?_
  refine KC.seq ?_
  refine KC.region ?_
  refine KT.step rfl rfl (K.box rfl) ?_
  refine KT.step rfl rfl (K.assign rfl) ?_
  refine KT.nil ?_
  refine thenK_n ?_
  refine KC.seq ?_
  refine KC.region ?_
  refine KT.step rfl rfl (K.assign rfl) ?_
  refine KT.nil ?_
  refine thenK_n ?_
  refine KC.seq ?_
  refine KC.seq ?_
  refine KC.region ?_
  refine KT.step rfl rfl (K.fieldAddrO rfl Try.fld24_0 Try.size22) ?_
  refine KT.step rfl rfl (K.loadO rfl rfl (by simp) rfl Try.agg22) ?_
  refine KT.step rfl rfl (K.len rfl hS.hn Try.underlying22) ?_
  refine KT.step rfl rfl (K.move rfl) ?_
  refine KT.nil ?_
  refine thenK_n ?_
  refine KC.block ?_
  have hln := hS.n16
  refine KC.loop (fun _ : Nat => [⟨[.d dn, .d dl], 0⟩]) (fun i => [(1, .d (DI (x : Nat))), (2, .optr 0 0), (5, .d (DI (coll (mpN nx x) i : Nat))), (9, .d dn), (10, .d (DI (nx.length : Nat))), (11, .d (DI (i : Nat)))]) (fun i => i ≤ nx.length) (fun i => nx.length - i) 0 (Nat.zero_le _) rfl (by simp [Go.Vm.look, extK, enterK, coll]) ?_
  intro i hi
  refine KC.seq ?_
  refine KC.region ?_
  refine KT.step rfl rfl (K.lss rfl rfl) ?_
  refine KT.nil ?_
  refine thenK_n ?_
  refine KC.seq ?_
  refine KC.cond rfl (fun hc12 => ?_) (fun hc12 => ?_)
  · skip
    replace hc12 := of_decide_eq_true hc12
    refine KC.skip ?_
    refine thenK_n ?_
    refine KC.seq ?_
    refine KC.block ?_
    refine KC.seq ?_
    refine KC.region ?_
    refine KT.step rfl rfl (K.move rfl) ?_
    refine KT.idxNat rfl rfl rfl hS.hn rfl (by omega) Try.underlying22 Try.size3 fun rest => ?_
    refine KT.step rfl rfl (K.load rfl Try.agg3) ?_
    refine KT.step rfl rfl (K.assign rfl) ?_
    refine KT.step rfl rfl (K.assign rfl) ?_
    refine KT.nil ?_
    refine thenK_n ?_
    refine KC.seq ?_
    refine KC.region ?_
    refine KT.step rfl rfl (K.move rfl) ?_
    refine KT.step rfl rfl (K.move rfl) ?_
    refine KT.step rfl rfl (K.band rfl rfl (show IntKind.i64.wrap (BitVec.ofInt IntKind.i64.bits ((nx.getD i 0 : Nat) : Int) &&& BitVec.ofInt IntKind.i64.bits ((x : Nat) : Int)).toNat = ((nx.getD i 0 &&& x : Nat) : Int) from andI (lt63 (hS.hnx i)) (lt63 hx))) ?_
    refine KT.step rfl rfl (K.neq rfl rfl) ?_
    refine KT.nil ?_
    refine thenK_n ?_
    refine KC.cond rfl (fun hc19 => ?_) (fun hc19 => ?_)
    · skip
      replace hc19 := of_decide_eq_true hc19
      have hpi : (mpN nx x) i = true := meet_of hc19
      refine KC.region ?_
      have hcl : coll (mpN nx x) i < 2 ^ i := coll_lt _ _
      have hci : coll (mpN nx x) i < 65536 := pow16 (by omega) hcl
      have hp2 : 2 ^ i < 65536 := Nat.lt_of_lt_of_le (Nat.pow_lt_pow_right (by decide) (show i < 16 by omega)) (by decide)
      refine KT.step rfl rfl (K.move rfl) ?_
      refine KT.step rfl rfl (K.move rfl) ?_
      refine KT.step rfl rfl (K.shl rfl rfl (by omega) (shlI (i := i) (by omega))) ?_
      refine KT.step rfl rfl (K.bor rfl rfl (show IntKind.i64.wrap (BitVec.ofInt IntKind.i64.bits ((coll (mpN nx x) i : Nat) : Int) ||| BitVec.ofInt IntKind.i64.bits ((2 ^ i : Nat) : Int)).toNat = ((coll (mpN nx x) i ||| 2 ^ i : Nat) : Int) from orI (lt63 hci) (lt63 hp2))) ?_
      refine KT.step rfl rfl (K.assign rfl) ?_
      refine KT.nil ?_
      refine blockK_n ?_
      refine thenK_n ?_
      refine KC.region ?_
      refine KT.step rfl rfl (K.add rfl rfl (wrap_id (by omega))) ?_
      refine KT.step rfl rfl (K.move rfl) ?_
      refine KT.nil ?_
      refine thenK_n ?_
      refine ⟨i + 1, by omega, by omega, rfl, by simp [Go.Vm.look, extK, ← coll_yes (p := mpN nx x) (k := i) hpi]⟩
    · skip
      replace hc19 := of_decide_eq_false hc19
      have hpi : (mpN nx x) i = false := meet_not hc19
      refine KC.skip ?_
      refine blockK_n ?_
      refine thenK_n ?_
      refine KC.region ?_
      refine KT.step rfl rfl (K.add rfl rfl (wrap_id (by omega))) ?_
      refine KT.step rfl rfl (K.move rfl) ?_
      refine KT.nil ?_
      refine thenK_n ?_
      refine ⟨i + 1, by omega, by omega, rfl, by simp [Go.Vm.look, extK, ← coll_no (p := mpN nx x) (k := i) hpi]⟩
  · skip
    replace hc12 := of_decide_eq_false hc12
    refine KC.exit ?_
    refine thenK_x ?_
    refine thenK_x ?_
    refine blockK_e ?_
    refine thenK_n ?_
    refine KC.seq ?_
    refine KC.region ?_
    refine KT.step rfl rfl (K.move rfl) ?_
    refine KT.step rfl rfl (K.assign rfl) ?_
    refine KT.nil ?_
    refine thenK_n ?_
    refine KC.ret ?_
    have e : i = nx.length := by omega
    subst e
    exact ⟨.inl rfl, _, rfl, fin_d rfl⟩
set_option maxRecDepth 10000 in
theorem runtil35 {dn dl : DV} {nx lb : List Nat} (hS : Str dn dl nx lb) {x y : Nat} (hx : x < 2 ^ nx.length) (hy : y < 2 ^ nx.length) : DeepCall Try.prog 35 [.agg [dn, dl], DI (x : Nat), DI (y : Nat)] (DI (untN nx x y : Nat)) := by
  refine deepCall_K 5 Try.func35 rfl (Nat.le_of_ble_eq_true rfl) fun M W0 => ?_
  refine KC.seq ?_
  refine KC.region ?_
  refine KT.step rfl rfl (K.box rfl) ?_
  refine KT.step rfl rfl (K.assign rfl) ?_
  refine KT.nil ?_
  refine thenK_n ?_
  refine KC.seq ?_
  refine KC.seq ?_
  refine KC.region ?_
  refine KT.step rfl rfl (K.fieldAddrO rfl Try.fld24_0 Try.size22) ?_
  refine KT.step rfl rfl (K.loadO rfl rfl (by simp) rfl Try.agg22) ?_
  refine KT.step rfl rfl (K.len rfl hS.hn Try.underlying22) ?_
  refine KT.step rfl rfl (K.move rfl) ?_
  refine KT.nil ?_
  refine thenK_n ?_
  refine KC.block ?_
  have hln := hS.n16
  refine KC.loop (fun _ : Nat => [⟨[.d dn, .d dl], 0⟩]) (fun i => [(1, .d (DI (x : Nat))), (2, .d (DI (untR nx x i y : Nat))), (3, .optr 0 0), (9, .d (DI (nx.length : Nat))), (10, .d (DI (i : Nat)))]) (fun i => i ≤ nx.length) (fun i => nx.length - i) 0 (Nat.zero_le _) rfl (by simp [Go.Vm.look, extK, enterK, untR]) ?_
  intro i hi
  have hg := pow16 hS.n16 (untR_lt (x := x) hy i)
  refine KC.seq ?_
  refine KC.region ?_
  refine KT.step rfl rfl (K.lss rfl rfl) ?_
  refine KT.nil ?_
  refine thenK_n ?_
  refine KC.seq ?_
  refine KC.cond rfl (fun hc11 => ?_) (fun hc11 => ?_)
  · skip
    replace hc11 := of_decide_eq_true hc11
    refine KC.skip ?_
    refine thenK_n ?_
    refine KC.seq ?_
    refine KC.block ?_
    refine KC.region ?_
    refine KT.step rfl rfl (K.move rfl) ?_
    refine KT.step rfl rfl (K.move rfl) ?_
    refine KT.step rfl rfl (K.loadOA ([dn, dl]) rfl rfl (by decide) Try.agg24 Try.size24 rfl) ?_
    refine KT.step rfl rfl (K.move rfl) ?_
    refine KT.step rfl rfl (K.call2 rfl rfl plainTry_34 (rbefore34 hS hg)) ?_
    have hbf := pow16 hS.n16 (befN_lt nx (untR nx x i y))
    refine KT.step rfl rfl (K.band rfl rfl (show IntKind.i64.wrap (BitVec.ofInt IntKind.i64.bits ((x : Nat) : Int) &&& BitVec.ofInt IntKind.i64.bits ((befN nx (untR nx x i y) : Nat) : Int)).toNat = ((x &&& befN nx (untR nx x i y) : Nat) : Int) from andI (lt63 (pow16 hS.n16 hx)) (lt63 hbf))) ?_
    have hab : x &&& befN nx (untR nx x i y) < 65536 := and_ltR (n := 16) hbf
    refine KT.step rfl rfl (K.bor rfl rfl (show IntKind.i64.wrap (BitVec.ofInt IntKind.i64.bits ((untR nx x i y : Nat) : Int) ||| BitVec.ofInt IntKind.i64.bits ((x &&& befN nx (untR nx x i y) : Nat) : Int)).toNat = ((untR nx x i y ||| x &&& befN nx (untR nx x i y) : Nat) : Int) from orI (lt63 hg) (lt63 hab))) ?_
    refine KT.step rfl rfl (K.assign rfl) ?_
    refine KT.nil ?_
    refine blockK_n ?_
    refine thenK_n ?_
    refine KC.region ?_
    refine KT.step rfl rfl (K.add rfl rfl (wrap_id (by omega))) ?_
    refine KT.step rfl rfl (K.move rfl) ?_
    refine KT.nil ?_
    refine thenK_n ?_
    refine ⟨i + 1, by omega, by omega, rfl, by simp [Go.Vm.look, extK, untR]⟩
  · skip
    replace hc11 := of_decide_eq_false hc11
    refine KC.exit ?_
    refine thenK_x ?_
    refine thenK_x ?_
    refine blockK_e ?_
    refine thenK_n ?_
    refine KC.seq ?_
    refine KC.region ?_
    refine KT.step rfl rfl (K.move rfl) ?_
    refine KT.step rfl rfl (K.assign rfl) ?_
    refine KT.nil ?_
    refine thenK_n ?_
    refine KC.ret ?_
    have e : i = nx.length := by omega
    subst e
    exact ⟨.inl rfl, _, rfl, fin_d (by rw [untR_untN])⟩
set_option maxRecDepth 10000 in
theorem ralways36 {dn dl : DV} {nx lb : List Nat} (hS : Str dn dl nx lb) (ht : Tot nx) {x : Nat} (hx : x < 2 ^ nx.length) : DeepCall Try.prog 36 [.agg [dn, dl], DI (x : Nat)] (DI (alwN nx x : Nat)) := by
  refine deepCall_K 5 Try.func36 rfl (Nat.le_of_ble_eq_true rfl) fun M W0 => ?_
  refine KC.seq ?_
  refine KC.region ?_
  refine KT.step rfl rfl (K.box rfl) ?_
  refine KT.step rfl rfl (K.assign rfl) ?_
  refine KT.nil ?_
  refine thenK_n ?_
  refine KC.seq ?_
  refine KC.seq ?_
  refine KC.region ?_
  refine KT.step rfl rfl (K.fieldAddrO rfl Try.fld24_0 Try.size22) ?_
  refine KT.step rfl rfl (K.loadO rfl rfl (by simp) rfl Try.agg22) ?_
  refine KT.step rfl rfl (K.len rfl hS.hn Try.underlying22) ?_
  refine KT.step rfl rfl (K.move rfl) ?_
  refine KT.nil ?_
  refine thenK_n ?_
  refine KC.block ?_
  have hln := hS.n16
  refine KC.loop (fun _ : Nat => [⟨[.d dn, .d dl], 0⟩]) (fun i => [(1, .d (DI (alwR nx i x : Nat))), (2, .optr 0 0), (7, .d (DI (nx.length : Nat))), (8, .d (DI (i : Nat)))]) (fun i => i ≤ nx.length) (fun i => nx.length - i) 0 (Nat.zero_le _) rfl (by simp [Go.Vm.look, extK, enterK, alwR]) ?_
  intro i hi
  have hg := pow16 hS.n16 (alwR_lt (nx := nx) hx i)
  refine KC.seq ?_
  refine KC.region ?_
  refine KT.step rfl rfl (K.lss rfl rfl) ?_
  refine KT.nil ?_
  refine thenK_n ?_
  refine KC.seq ?_
  refine KC.cond rfl (fun hc9 => ?_) (fun hc9 => ?_)
  · skip
    replace hc9 := of_decide_eq_true hc9
    refine KC.skip ?_
    refine thenK_n ?_
    refine KC.seq ?_
    refine KC.block ?_
    refine KC.region ?_
    refine KT.step rfl rfl (K.move rfl) ?_
    refine KT.step rfl rfl (K.loadOA ([dn, dl]) rfl rfl (by decide) Try.agg24 Try.size24 rfl) ?_
    refine KT.step rfl rfl (K.move rfl) ?_
    refine KT.step rfl rfl (K.call2 rfl rfl plainTry_34 (rbefore34 hS hg)) ?_
    have hbf := pow16 hS.n16 (befN_lt nx (alwR nx i x))
    refine KT.step rfl rfl (K.band rfl rfl (show IntKind.i64.wrap (BitVec.ofInt IntKind.i64.bits ((alwR nx i x : Nat) : Int) &&& BitVec.ofInt IntKind.i64.bits ((befN nx (alwR nx i x) : Nat) : Int)).toNat = ((alwR nx i x &&& befN nx (alwR nx i x) : Nat) : Int) from andI (lt63 hg) (lt63 hbf))) ?_
    refine KT.step rfl rfl (K.assign rfl) ?_
    refine KT.nil ?_
    refine blockK_n ?_
    refine thenK_n ?_
    refine KC.region ?_
    refine KT.step rfl rfl (K.add rfl rfl (wrap_id (by omega))) ?_
    refine KT.step rfl rfl (K.move rfl) ?_
    refine KT.nil ?_
    refine thenK_n ?_
    refine ⟨i + 1, by omega, by omega, rfl, by simp [Go.Vm.look, extK, alwR]⟩
  · skip
    replace hc9 := of_decide_eq_false hc9
    refine KC.exit ?_
    refine thenK_x ?_
    refine thenK_x ?_
    refine blockK_e ?_
    refine thenK_n ?_
    refine KC.seq ?_
    refine KC.region ?_
    refine KT.step rfl rfl (K.move rfl) ?_
    refine KT.step rfl rfl (K.assign rfl) ?_
    refine KT.nil ?_
    refine thenK_n ?_
    refine KC.ret ?_
    have e : i = nx.length := by omega
    subst e
    exact ⟨.inl rfl, _, rfl, fin_d (by rw [alwR_alwN hx ht])⟩

theorem ext_lay (a b : Value) : pureRun Try.prog (callFunc 87 #[a, b]) = pureRun Try.prog (do pure (Next.value (← Extern.BytealgIndexByte.indexByte #[a, b])) : Sem Next) := by
  kernel_rfl
theorem ext_byte (b : UInt8) : pureRun Try.prog (Extern.BytealgIndexByte.indexByte #[.string LETTERS, .int .u8 (b.toNat : Nat)]) = some (.int .i64 (letB b)) := by
  have hb : ((b.toNat : Nat) : Int).toNat.toUInt8 = b := by simp
  rw [← find_let b]
  have e : pureRun Try.prog (Extern.BytealgIndexByte.indexByte #[.string LETTERS, .int .u8 (b.toNat : Nat)]) = pureRun Try.prog (match (List.range LETTERS.size).find? (fun i => LETTERS[i]! == ((b.toNat : Nat) : Int).toNat.toUInt8) with | some i => pure (goInt i) | none => pure (goInt (-1)) : Sem Value) := rfl
  rw [e, hb]
  cases (List.range LETTERS.size).find? (fun i => LETTERS[i]! == b) <;> rfl
theorem ext_find (b : UInt8) : pureRun Try.prog (callFunc 87 #[.string LETTERS, .int .u8 (b.toNat : Nat)]) = some (.value (.int .i64 (letB b))) := by
  rw [ext_lay]
  exact pureRun_v (ext_byte b)
set_option maxRecDepth 10000 in
theorem indexByte83 (b : UInt8) : DeepCall Try.prog 83 [.lit (.string LETTERS), .lit (.int .u8 (b.toNat : Nat))] (DI (letB b)) := by
  refine deepCall_K 5 Try.func83 rfl (Nat.le_of_ble_eq_true rfl) fun M W0 => ?_
  refine KC.seq ?_
  refine KC.region ?_
  refine KT.step rfl rfl (K.assign rfl) ?_
  refine KT.nil ?_
  refine thenK_n ?_
  refine KC.seq ?_
  refine KC.region ?_
  refine KT.step rfl rfl (K.move rfl) ?_
  refine KT.step rfl rfl (K.move rfl) ?_
  refine KT.step rfl rfl (K.ext (us := [.string LETTERS, .int .u8 (b.toNat : Nat)]) rfl (ext_find b)) ?_
  refine KT.step rfl rfl (K.assign rfl) ?_
  refine KT.nil ?_
  refine thenK_n ?_
  refine KC.ret ?_
  exact ⟨.inl rfl, _, rfl, fin_d rfl⟩
set_option maxRecDepth 10000 in
theorem lindex82 (b : UInt8) : DeepCall Try.prog 82 [.lit (.string LETTERS), .lit (.string ⟨#[b]⟩)] (DI (letB b)) := by
  refine deepCall_K 5 Try.func82 rfl (Nat.le_of_ble_eq_true rfl) fun M W0 => ?_
  refine KC.seq ?_
  refine KC.region ?_
  refine KT.step rfl rfl (K.assign rfl) ?_
  refine KT.nil ?_
  refine thenK_n ?_
  refine KC.seq ?_
  refine KC.region ?_
  refine KT.step rfl rfl (K.move rfl) ?_
  refine KT.step rfl rfl (K.lenStr rfl Try.underlying9) ?_
  refine KT.step rfl rfl (K.assign rfl) ?_
  refine KT.nil ?_
  refine thenK_n ?_
  refine KC.seq ?_
  refine KC.block ?_
  refine KC.seq ?_
  refine KC.region ?_
  refine KT.step rfl rfl (K.move rfl) ?_
  refine KT.step rfl rfl (K.eql rfl rfl) ?_
  refine KT.step rfl rfl (K.move rfl) ?_
  refine KT.step rfl rfl (K.move rfl) ?_
  refine KT.step rfl rfl (K.move rfl) ?_
  refine KT.step rfl rfl (K.eqlS rfl rfl) ?_
  refine KT.step rfl rfl (K.pick rfl (fun h => by cases h) (fun _ => rfl)) ?_
  refine KT.step rfl rfl (K.assign rfl) ?_
  refine KT.nil ?_
  refine thenK_n ?_
  refine KC.cond rfl (fun hc16 => ?_) (fun hc16 => ?_)
  · skip
    exact absurd (congrArg ByteArray.size (of_decide_eq_true hc16)) (by show ¬ (1 = 6); decide)
  · skip
    refine KC.seq ?_
    refine KC.region ?_
    refine KT.step rfl rfl (K.move rfl) ?_
    refine KT.step rfl rfl (K.eql rfl rfl) ?_
    refine KT.step rfl rfl (K.assign rfl) ?_
    refine KT.nil ?_
    refine thenK_n ?_
    refine KC.cond rfl (fun hc24 => ?_) (fun hc24 => ?_)
    · skip
      refine KC.seq ?_
      refine KC.region ?_
      refine KT.step rfl rfl (K.move rfl) ?_
      refine KT.step rfl rfl (K.move rfl) ?_
      refine KT.step rfl rfl (K.idxS0 rfl Try.underlying9) ?_
      refine KT.step rfl rfl (K.call2 rfl rfl plainTry_83 (indexByte83 b)) ?_
      refine KT.step rfl rfl (K.assign rfl) ?_
      refine KT.nil ?_
      refine thenK_n ?_
      refine KC.ret ?_
      refine blockK_r ?_
      refine thenK_r ?_
      exact ⟨.inl rfl, _, rfl, fin_d rfl⟩
    · cases hc24
set_option maxRecDepth 10000 in
theorem sindex70 (b : UInt8) : DeepCall Try.prog 70 [.lit (.string LETTERS), .lit (.string ⟨#[b]⟩)] (DI (letB b)) := by
  refine deepCall_K 5 Try.func70 rfl (Nat.le_of_ble_eq_true rfl) fun M W0 => ?_
  refine KC.seq ?_
  refine KC.region ?_
  refine KT.step rfl rfl (K.assign rfl) ?_
  refine KT.nil ?_
  refine thenK_n ?_
  refine KC.seq ?_
  refine KC.region ?_
  refine KT.step rfl rfl (K.move rfl) ?_
  refine KT.step rfl rfl (K.move rfl) ?_
  refine KT.step rfl rfl (K.call2 rfl rfl plainTry_82 (lindex82 b)) ?_
  refine KT.step rfl rfl (K.assign rfl) ?_
  refine KT.nil ?_
  refine thenK_n ?_
  refine KC.ret ?_
  exact ⟨.inl rfl, _, rfl, fin_d rfl⟩
set_option maxRecDepth 10000 in
theorem letter37 (op : ByteArray) : DeepCall Try.prog 37 [.lit (.string op)] (DI (letN op)) := by
  refine deepCall_K 5 Try.func37 rfl (Nat.le_of_ble_eq_true rfl) fun M W0 => ?_
  refine KC.seq ?_
  refine KC.region ?_
  refine KT.step rfl rfl (K.assign rfl) ?_
  refine KT.nil ?_
  refine thenK_n ?_
  refine KC.seq ?_
  refine KC.seq ?_
  refine KC.region ?_
  refine KT.step rfl rfl (K.move rfl) ?_
  refine KT.step rfl rfl (K.lenStr rfl Try.underlying9) ?_
  refine KT.step rfl rfl (K.neq rfl rfl) ?_
  refine KT.nil ?_
  refine thenK_n ?_
  refine KC.cond rfl (fun hc5 => ?_) (fun hc5 => ?_)
  · skip
    replace hc5 := of_decide_eq_true hc5
    refine KC.seq ?_
    refine KC.region ?_
    refine KT.step rfl rfl (K.assign rfl) ?_
    refine KT.nil ?_
    refine thenK_n ?_
    refine KC.ret ?_
    refine thenK_r ?_
    exact ⟨.inl rfl, _, rfl, fin_d (by rw [letN_size (by omega)])⟩
  · skip
    replace hc5 := of_decide_eq_false hc5
    obtain ⟨b, rfl⟩ := byte_of (op := op) (by omega)
    refine KC.skip ?_
    refine thenK_n ?_
    refine KC.seq ?_
    refine KC.region ?_
    refine KT.step rfl rfl (K.move rfl) ?_
    refine KT.step rfl rfl (K.call2 rfl rfl plainTry_70 (sindex70 b)) ?_
    refine KT.step rfl rfl (K.assign rfl) ?_
    refine KT.nil ?_
    refine thenK_n ?_
    refine KC.ret ?_
    exact ⟨.inl rfl, _, rfl, fin_d (by rw [letN_byte])⟩

theorem okS_alt {n : Nat} {x l : Int} : okS n x l = ! (((decide (x < 1) || decide (((2 ^ n : Nat) : Int) ≤ x)) || decide (l < 0)) || decide (64 ≤ l)) := by
  unfold okS
  by_cases h1 : 1 ≤ x <;> by_cases h2 : x ≤ ((2 ^ n : Nat) : Int) - 1 <;> by_cases h3 : 0 ≤ l <;> by_cases h4 : l ≤ 63 <;>
    simp only [h1, h2, h3, h4, decide_true, decide_false, Bool.and_true, Bool.and_false] <;>
    (first | rw [decide_eq_true (show x < 1 by omega)] | rw [decide_eq_false (show ¬ x < 1 by omega)]) <;>
    (first | rw [decide_eq_true (show ((2 ^ n : Nat) : Int) ≤ x by omega)] | rw [decide_eq_false (show ¬ ((2 ^ n : Nat) : Int) ≤ x by omega)]) <;>
    (first | rw [decide_eq_true (show l < 0 by omega)] | rw [decide_eq_false (show ¬ l < 0 by omega)]) <;>
    (first | rw [decide_eq_true (show (64 : Int) ≤ l by omega)] | rw [decide_eq_false (show ¬ (64 : Int) ≤ l by omega)]) <;> rfl
set_option maxRecDepth 10000 in
theorem rvalid12 {dn dl : DV} {N L : List Int} (hN : Ints dn N) (hL : Ints dl L) (hl : N.length ≤ 9223372036854775807 ∧ L.length ≤ 9223372036854775807) : DeepCall Try.prog 12 [.agg [dn, dl]] (DB (validS N L)) := by
  refine deepCall_K 5 Try.func12 rfl (Nat.le_of_ble_eq_true rfl) fun M W0 => ?_
  refine KC.seq ?_
  refine KC.region ?_
  refine KT.step rfl rfl (K.box rfl) ?_
  refine KT.step rfl rfl (K.assign rfl) ?_
  refine KT.nil ?_
  refine thenK_n ?_
  refine KC.seq ?_
  refine KC.region ?_
  refine KT.step rfl rfl (K.fieldAddrO rfl Try.fld24_0 Try.size22) ?_
  refine KT.step rfl rfl (K.loadO rfl rfl (by simp) rfl Try.agg22) ?_
  refine KT.step rfl rfl (K.len rfl hN Try.underlying22) ?_
  refine KT.step rfl rfl (K.assign rfl) ?_
  refine KT.nil ?_
  refine thenK_n ?_
  refine KC.seq ?_
  refine KC.seq ?_
  refine KC.region ?_
  refine KT.step rfl rfl (K.move rfl) ?_
  refine KT.step rfl rfl (K.lss rfl rfl) ?_
  refine KT.step rfl rfl (K.move rfl) ?_
  refine KT.bcase (fun hb11 => ?_) (fun hb11 => ?_)
  · skip
    replace hb11 := of_decide_eq_true hb11
    refine KT.skip rfl rfl ?_
    refine KT.skip rfl rfl ?_
    refine KT.step rfl rfl (K.pick rfl (fun _ => rfl) (fun h => by cases h)) ?_
    refine KT.step rfl rfl (K.move rfl) ?_
    refine KT.skip rfl rfl ?_
    refine KT.skip rfl rfl ?_
    refine KT.skip rfl rfl ?_
    refine KT.skip rfl rfl ?_
    refine KT.skip rfl rfl ?_
    refine KT.step rfl rfl (K.pick rfl (fun _ => rfl) (fun h => by cases h)) ?_
    refine KT.nil ?_
    refine thenK_n ?_
    refine KC.cond rfl (fun hc21 => ?_) (fun hc21 => ?_)
    · skip
      refine KC.seq ?_
      refine KC.region ?_
      refine KT.step rfl rfl (K.assign rfl) ?_
      refine KT.nil ?_
      refine thenK_n ?_
      refine KC.ret ?_
      refine thenK_r ?_
      refine ⟨.inl rfl, _, rfl, fin_b ?_⟩
      unfold validS
      rw [decide_eq_false (show ¬ 1 ≤ N.length by omega)]; rfl
    · cases hc21
  · skip
    replace hb11 := of_decide_eq_false hb11
    refine KT.step rfl rfl (K.move rfl) ?_
    refine KT.step rfl rfl (K.gtr rfl rfl) ?_
    refine KT.step rfl rfl (K.pick rfl (fun h => by cases h) (fun _ => rfl)) ?_
    refine KT.step rfl rfl (K.move rfl) ?_
    refine KT.bcase (fun hb15 => ?_) (fun hb15 => ?_)
    · skip
      replace hb15 := of_decide_eq_true hb15
      refine KT.skip rfl rfl ?_
      refine KT.skip rfl rfl ?_
      refine KT.skip rfl rfl ?_
      refine KT.skip rfl rfl ?_
      refine KT.skip rfl rfl ?_
      refine KT.step rfl rfl (K.pick rfl (fun _ => rfl) (fun h => by cases h)) ?_
      refine KT.nil ?_
      refine thenK_n ?_
      refine KC.cond rfl (fun hc21 => ?_) (fun hc21 => ?_)
      · skip
        refine KC.seq ?_
        refine KC.region ?_
        refine KT.step rfl rfl (K.assign rfl) ?_
        refine KT.nil ?_
        refine thenK_n ?_
        refine KC.ret ?_
        refine thenK_r ?_
        refine ⟨.inl rfl, _, rfl, fin_b ?_⟩
        unfold validS
        rw [decide_eq_false (show ¬ N.length ≤ 16 by omega), Bool.and_false]; rfl
      · cases hc21
    · skip
      replace hb15 := of_decide_eq_false hb15
      refine KT.step rfl rfl (K.fieldAddrO rfl Try.fld24_1 Try.size22) ?_
      refine KT.step rfl rfl (K.loadO rfl rfl (by simp) rfl Try.agg22) ?_
      refine KT.step rfl rfl (K.len rfl hL Try.underlying22) ?_
      refine KT.step rfl rfl (K.move rfl) ?_
      refine KT.step rfl rfl (K.neq rfl rfl) ?_
      refine KT.step rfl rfl (K.pick rfl (fun h => by cases h) (fun _ => rfl)) ?_
      refine KT.nil ?_
      refine thenK_n ?_
      refine KC.cond rfl (fun hc21 => ?_) (fun hc21 => ?_)
      · skip
        replace hc21 := of_decide_eq_true hc21
        refine KC.seq ?_
        refine KC.region ?_
        refine KT.step rfl rfl (K.assign rfl) ?_
        refine KT.nil ?_
        refine thenK_n ?_
        refine KC.ret ?_
        refine thenK_r ?_
        refine ⟨.inl rfl, _, rfl, fin_b ?_⟩
        unfold validS
        rw [decide_eq_false (show ¬ L.length = N.length by omega), Bool.and_false]; rfl
      · skip
        replace hc21 := of_decide_eq_false hc21
        refine KC.skip ?_
        refine thenK_n ?_
        refine KC.seq ?_
        refine KC.seq ?_
        refine KC.region ?_
        refine KT.step rfl rfl (K.fieldAddrO rfl Try.fld24_0 Try.size22) ?_
        refine KT.step rfl rfl (K.loadO rfl rfl (by simp) rfl Try.agg22) ?_
        refine KT.step rfl rfl (K.len rfl hN Try.underlying22) ?_
        refine KT.step rfl rfl (K.move rfl) ?_
        refine KT.nil ?_
        refine thenK_n ?_
        refine KC.block ?_
        refine KC.loop (fun _ : Nat => [⟨[.d dn, .d dl], 0⟩]) (fun i => [(1, .optr 0 0), (3, .d (DI (N.length : Nat))), (23, .d dn), (24, .d (DI (N.length : Nat))), (25, .d (DI (i : Nat)))]) (fun i => i ≤ N.length ∧ (List.range i).all (fun i => okS N.length (N.getD i 0) (L.getD i 0)) = true) (fun i => N.length - i) 0 ⟨Nat.zero_le _, rfl⟩ rfl (by simp [Go.Vm.look, extK, enterK]) ?_
        intro i hi
        obtain ⟨hi, hall⟩ := hi
        refine KC.seq ?_
        refine KC.region ?_
        refine KT.step rfl rfl (K.lss rfl rfl) ?_
        refine KT.nil ?_
        refine thenK_n ?_
        refine KC.seq ?_
        refine KC.cond rfl (fun hc26 => ?_) (fun hc26 => ?_)
        · skip
          replace hc26 := of_decide_eq_true hc26
          refine KC.skip ?_
          refine thenK_n ?_
          refine KC.seq ?_
          refine KC.block ?_
          refine KC.seq ?_
          refine KC.region ?_
          refine KT.step rfl rfl (K.move rfl) ?_
          refine KT.idxI rfl rfl rfl hN rfl (by omega) Try.underlying22 Try.size3 fun cs28 => ?_
          refine KT.step rfl rfl (K.load rfl Try.agg3) ?_
          refine KT.step rfl rfl (K.assign rfl) ?_
          refine KT.step rfl rfl (K.assign rfl) ?_
          refine KT.nil ?_
          refine thenK_n ?_
          refine KC.seq ?_
          refine KC.region ?_
          refine KT.step rfl rfl (K.move rfl) ?_
          refine KT.step rfl rfl (K.lss rfl rfl) ?_
          refine KT.step rfl rfl (K.move rfl) ?_
          refine KT.bcase (fun hb32 => ?_) (fun hb32 => ?_)
          · skip
            replace hb32 := of_decide_eq_true hb32
            refine KT.skip rfl rfl ?_
            refine KT.skip rfl rfl ?_
            refine KT.skip rfl rfl ?_
            refine KT.skip rfl rfl ?_
            refine KT.step rfl rfl (K.pick rfl (fun _ => rfl) (fun h => by cases h)) ?_
            refine KT.step rfl rfl (K.move rfl) ?_
            refine KT.skip rfl rfl ?_
            refine KT.skip rfl rfl ?_
            refine KT.skip rfl rfl ?_
            refine KT.skip rfl rfl ?_
            refine KT.skip rfl rfl ?_
            refine KT.skip rfl rfl ?_
            refine KT.step rfl rfl (K.pick rfl (fun _ => rfl) (fun h => by cases h)) ?_
            refine KT.step rfl rfl (K.move rfl) ?_
            refine KT.skip rfl rfl ?_
            refine KT.skip rfl rfl ?_
            refine KT.skip rfl rfl ?_
            refine KT.skip rfl rfl ?_
            refine KT.skip rfl rfl ?_
            refine KT.skip rfl rfl ?_
            refine KT.step rfl rfl (K.pick rfl (fun _ => rfl) (fun h => by cases h)) ?_
            refine KT.nil ?_
            refine thenK_n ?_
            refine KC.cond rfl (fun hc53 => ?_) (fun hc53 => ?_)
            · skip
              refine KC.seq ?_
              refine KC.region ?_
              refine KT.step rfl rfl (K.assign rfl) ?_
              refine KT.nil ?_
              refine thenK_n ?_
              refine KC.ret ?_
              refine blockK_r ?_
              refine thenK_r ?_
              refine thenK_r ?_
              refine blockK_r ?_
              refine thenK_r ?_
              refine ⟨.inl rfl, _, rfl, fin_b ?_⟩
              unfold validS
              rw [range_all_false (show i < N.length by omega) (show okS N.length (N.getD i 0) (L.getD i 0) = false from by rw [getD_int (show i < N.length by omega), getD_int (show i < L.length by omega)]; unfold okS; rw [decide_eq_false (show ¬ (1 : Int) ≤ N[i] by omega)]; rfl), Bool.and_false]
            · cases hc53
          · skip
            replace hb32 := of_decide_eq_false hb32
            refine KT.step rfl rfl (K.move rfl) ?_
            refine KT.step rfl rfl (K.move rfl) ?_
            refine KT.step rfl rfl (K.shl rfl rfl (by omega) (shlI (i := N.length) (by omega))) ?_
            refine KT.step rfl rfl (K.geq rfl rfl) ?_
            refine KT.step rfl rfl (K.pick rfl (fun h => by cases h) (fun _ => rfl)) ?_
            refine KT.step rfl rfl (K.move rfl) ?_
            refine KT.bcase (fun hb38 => ?_) (fun hb38 => ?_)
            · skip
              replace hb38 := of_decide_eq_true hb38
              refine KT.skip rfl rfl ?_
              refine KT.skip rfl rfl ?_
              refine KT.skip rfl rfl ?_
              refine KT.skip rfl rfl ?_
              refine KT.skip rfl rfl ?_
              refine KT.skip rfl rfl ?_
              refine KT.step rfl rfl (K.pick rfl (fun _ => rfl) (fun h => by cases h)) ?_
              refine KT.step rfl rfl (K.move rfl) ?_
              refine KT.skip rfl rfl ?_
              refine KT.skip rfl rfl ?_
              refine KT.skip rfl rfl ?_
              refine KT.skip rfl rfl ?_
              refine KT.skip rfl rfl ?_
              refine KT.skip rfl rfl ?_
              refine KT.step rfl rfl (K.pick rfl (fun _ => rfl) (fun h => by cases h)) ?_
              refine KT.nil ?_
              refine thenK_n ?_
              refine KC.cond rfl (fun hc53 => ?_) (fun hc53 => ?_)
              · skip
                refine KC.seq ?_
                refine KC.region ?_
                refine KT.step rfl rfl (K.assign rfl) ?_
                refine KT.nil ?_
                refine thenK_n ?_
                refine KC.ret ?_
                refine blockK_r ?_
                refine thenK_r ?_
                refine thenK_r ?_
                refine blockK_r ?_
                refine thenK_r ?_
                refine ⟨.inl rfl, _, rfl, fin_b ?_⟩
                unfold validS
                rw [range_all_false (show i < N.length by omega) (show okS N.length (N.getD i 0) (L.getD i 0) = false from by rw [getD_int (show i < N.length by omega), getD_int (show i < L.length by omega)]; unfold okS; rw [decide_eq_false (show ¬ N[i] ≤ ((2 ^ N.length : Nat) : Int) - 1 by omega), Bool.and_false]; rfl), Bool.and_false]
              · cases hc53
            · skip
              replace hb38 := of_decide_eq_false hb38
              refine KT.step rfl rfl (K.fieldAddrO rfl Try.fld24_1 Try.size22) ?_
              refine KT.step rfl rfl (K.loadO rfl rfl (by simp) rfl Try.agg22) ?_
              refine KT.step rfl rfl (K.move rfl) ?_
              refine KT.idxI rfl rfl rfl hL rfl (by omega) Try.underlying22 Try.size3 fun cs42 => ?_
              refine KT.step rfl rfl (K.load rfl Try.agg3) ?_
              refine KT.step rfl rfl (K.lss rfl rfl) ?_
              refine KT.step rfl rfl (K.pick rfl (fun h => by cases h) (fun _ => rfl)) ?_
              refine KT.step rfl rfl (K.move rfl) ?_
              refine KT.bcase (fun hb46 => ?_) (fun hb46 => ?_)
              · skip
                replace hb46 := of_decide_eq_true hb46
                refine KT.skip rfl rfl ?_
                refine KT.skip rfl rfl ?_
                refine KT.skip rfl rfl ?_
                refine KT.skip rfl rfl ?_
                refine KT.skip rfl rfl ?_
                refine KT.skip rfl rfl ?_
                refine KT.step rfl rfl (K.pick rfl (fun _ => rfl) (fun h => by cases h)) ?_
                refine KT.nil ?_
                refine thenK_n ?_
                refine KC.cond rfl (fun hc53 => ?_) (fun hc53 => ?_)
                · skip
                  refine KC.seq ?_
                  refine KC.region ?_
                  refine KT.step rfl rfl (K.assign rfl) ?_
                  refine KT.nil ?_
                  refine thenK_n ?_
                  refine KC.ret ?_
                  refine blockK_r ?_
                  refine thenK_r ?_
                  refine thenK_r ?_
                  refine blockK_r ?_
                  refine thenK_r ?_
                  refine ⟨.inl rfl, _, rfl, fin_b ?_⟩
                  unfold validS
                  rw [range_all_false (show i < N.length by omega) (show okS N.length (N.getD i 0) (L.getD i 0) = false from by rw [getD_int (show i < N.length by omega), getD_int (show i < L.length by omega)]; unfold okS; rw [decide_eq_false (show ¬ (0 : Int) ≤ L[i] by omega), Bool.false_and, Bool.and_false]), Bool.and_false]
                · cases hc53
              · skip
                replace hb46 := of_decide_eq_false hb46
                refine KT.step rfl rfl (K.fieldAddrO rfl Try.fld24_1 Try.size22) ?_
                refine KT.step rfl rfl (K.loadO rfl rfl (by simp) rfl Try.agg22) ?_
                refine KT.step rfl rfl (K.move rfl) ?_
                refine KT.idxI rfl rfl rfl hL rfl (by omega) Try.underlying22 Try.size3 fun cs50 => ?_
                refine KT.step rfl rfl (K.load rfl Try.agg3) ?_
                refine KT.step rfl rfl (K.geq rfl rfl) ?_
                refine KT.step rfl rfl (K.pick rfl (fun h => by cases h) (fun _ => rfl)) ?_
                refine KT.nil ?_
                refine thenK_n ?_
                refine KC.cond rfl (fun hc53 => ?_) (fun hc53 => ?_)
                · skip
                  replace hc53 := of_decide_eq_true hc53
                  refine KC.seq ?_
                  refine KC.region ?_
                  refine KT.step rfl rfl (K.assign rfl) ?_
                  refine KT.nil ?_
                  refine thenK_n ?_
                  refine KC.ret ?_
                  refine blockK_r ?_
                  refine thenK_r ?_
                  refine thenK_r ?_
                  refine blockK_r ?_
                  refine thenK_r ?_
                  refine ⟨.inl rfl, _, rfl, fin_b ?_⟩
                  unfold validS
                  rw [range_all_false (show i < N.length by omega) (show okS N.length (N.getD i 0) (L.getD i 0) = false from by rw [getD_int (show i < N.length by omega), getD_int (show i < L.length by omega)]; unfold okS; rw [decide_eq_false (show ¬ L[i] ≤ 63 by omega), Bool.and_false, Bool.and_false]), Bool.and_false]
                · skip
                  replace hc53 := of_decide_eq_false hc53
                  refine KC.skip ?_
                  refine blockK_n ?_
                  refine thenK_n ?_
                  refine KC.region ?_
                  refine KT.step rfl rfl (K.add rfl rfl (wrap_id (by omega))) ?_
                  refine KT.step rfl rfl (K.move rfl) ?_
                  refine KT.nil ?_
                  refine thenK_n ?_
                  refine ⟨i + 1, ⟨by omega, ?_⟩, by omega, rfl, by simp [Go.Vm.look, extK]⟩
                  rw [range_all_take, hall, Bool.true_and]
                  show okS N.length (N.getD i 0) (L.getD i 0) = true
                  rw [getD_int (show i < N.length by omega), getD_int (show i < L.length by omega)]
                  unfold okS
                  rw [decide_eq_true (show (1 : Int) ≤ N[i] by omega), decide_eq_true (show N[i] ≤ ((2 ^ N.length : Nat) : Int) - 1 by omega), decide_eq_true (show (0 : Int) ≤ L[i] by omega), decide_eq_true (show L[i] ≤ 63 by omega)]
                  rfl
        · skip
          replace hc26 := of_decide_eq_false hc26
          refine KC.exit ?_
          refine thenK_x ?_
          refine thenK_x ?_
          refine blockK_e ?_
          refine thenK_n ?_
          refine KC.seq ?_
          refine KC.region ?_
          refine KT.step rfl rfl (K.assign rfl) ?_
          refine KT.nil ?_
          refine thenK_n ?_
          refine KC.ret ?_
          refine ⟨.inl rfl, _, rfl, fin_b ?_⟩
          have e : i = N.length := by omega
          subst e
          unfold validS
          rw [hall, decide_eq_true (show L.length = N.length by omega), decide_eq_true (show 1 ≤ N.length by omega), decide_eq_true (show N.length ≤ 16 by omega)]
          rfl
end Go.Proofs.Ytcjcchceeidgkaa

