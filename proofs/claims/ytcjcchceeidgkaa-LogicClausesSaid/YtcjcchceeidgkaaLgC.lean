import Derived.Test.YtcjcchceeidgkaaLgB
/-
  Logic: the table of the operators.
-/
namespace Go.Proofs.Ytcjcchceeidgkaa
open Go.Vm Go.Lg
theorem plainTry_51 : plainFn Try.prog 51 = true := by kernel_rfl
theorem plainTry_53 : plainFn Try.prog 53 = true := by kernel_rfl
theorem plainTry_55 : plainFn Try.prog 55 = true := by kernel_rfl
theorem plainTry_56 : plainFn Try.prog 56 = true := by kernel_rfl
theorem plainTry_57 : plainFn Try.prog 57 = true := by kernel_rfl
theorem plainTry_59 : plainFn Try.prog 59 = true := by kernel_rfl
theorem plainTry_61 : plainFn Try.prog 61 = true := by kernel_rfl
theorem plainTry_63 : plainFn Try.prog 63 = true := by kernel_rfl
theorem plainTry_64 : plainFn Try.prog 64 = true := by kernel_rfl
theorem plainTry_65 : plainFn Try.prog 65 = true := by kernel_rfl
theorem plainTry_66 : plainFn Try.prog 66 = true := by kernel_rfl
theorem plainTry_67 : plainFn Try.prog 67 = true := by kernel_rfl
theorem plainTry_68 : plainFn Try.prog 68 = true := by kernel_rfl
theorem plainTry_29 : plainFn Try.prog 29 = true := by kernel_rfl
theorem Try.zero3 : zeroT Try.prog 3 = some (.int .i64 0) := by kernel_rfl
set_option maxRecDepth 10000 in
theorem op0 {dn dl : DV} {nx lb : List Nat} (hS : Str dn dl nx lb) {x y : Nat} (_ : x < 2 ^ nx.length) (_ : y < 2 ^ nx.length) : DeepCall Try.prog 51 ([DI (x : Nat), DI (y : Nat)] ++ [.ptr [dn, dl]]) (DI (opN nx lb 0 x y : Nat)) := by
  refine deepCall_K 5 Try.func51 rfl (Nat.le_of_ble_eq_true rfl) fun M W0 => ?_
  refine KC.seq ?_
  refine KC.region ?_
  refine KT.step rfl rfl (K.assign rfl) ?_
  refine KT.nil ?_
  refine thenK_n ?_
  refine KC.seq ?_
  refine KC.region ?_
  refine KT.step rfl rfl (K.loadAgg (m := 2) rfl Try.agg31 Try.size31 (by simp)) ?_
  refine KT.step rfl rfl (K.call1 rfl plainTry_52 (all52 hS)) ?_
  refine KT.step rfl rfl (K.assign rfl) ?_
  refine KT.nil ?_
  refine thenK_n ?_
  refine KC.ret ?_
  exact ⟨.inl rfl, _, rfl, fin_d rfl⟩
set_option maxRecDepth 10000 in
theorem op1 {dn dl : DV} {nx lb : List Nat} (hS : Str dn dl nx lb) {x y : Nat} (hx : x < 2 ^ nx.length) (hy : y < 2 ^ nx.length) : DeepCall Try.prog 53 ([DI (x : Nat), DI (y : Nat)] ++ [.ptr [dn, dl]]) (DI (opN nx lb 1 x y : Nat)) := by
  have xx := pow16 hS.n16 hx
  have yy := pow16 hS.n16 hy
  have a1 := notN_lt nx.length x
  have a1' := pow16 hS.n16 a1
  have a2 := notN_lt nx.length y
  have a2' := pow16 hS.n16 a2
  have a3 := or_lt hx hy
  have a3' := pow16 hS.n16 a3
  have a4 := notN_lt nx.length (x ||| y)
  have al := allN_lt nx.length
  have b1 := pow16 hS.n16 (befN_lt nx (notN nx.length x))
  have b2 := pow16 hS.n16 (alwN_lt (nx := nx) (x := notN nx.length x))
  have b3 := alwN_lt (nx := nx) (x := notN nx.length y)
  have b3' := pow16 hS.n16 b3
  have u1 := pow16 hS.n16 (untN_lt (x := allN nx.length) a1)
  have u2 := untN_lt (x := notN nx.length y) a4
  have u2' := pow16 hS.n16 u2
  have o1 := pow16 hS.n16 (or_lt b3 u2)
  refine deepCall_K 5 Try.func53 rfl (Nat.le_of_ble_eq_true rfl) fun M W0 => ?_
  refine KC.seq ?_
  refine KC.region ?_
  refine KT.step rfl rfl (K.assign rfl) ?_
  refine KT.nil ?_
  refine thenK_n ?_
  refine KC.seq ?_
  refine KC.region ?_
  refine KT.step rfl rfl (K.loadAgg (m := 2) rfl Try.agg31 Try.size31 (by simp)) ?_
  refine KT.step rfl rfl (K.move rfl) ?_
  refine KT.step rfl rfl (K.call2 rfl rfl plainTry_54 (not54 hS (by assumption))) ?_
  refine KT.step rfl rfl (K.assign rfl) ?_
  refine KT.nil ?_
  refine thenK_n ?_
  refine KC.ret ?_
  exact ⟨.inl rfl, _, rfl, fin_d rfl⟩
set_option maxRecDepth 10000 in
theorem op2 {dn dl : DV} {nx lb : List Nat} (hS : Str dn dl nx lb) {x y : Nat} (hx : x < 2 ^ nx.length) (hy : y < 2 ^ nx.length) : DeepCall Try.prog 55 ([DI (x : Nat), DI (y : Nat)] ++ []) (DI (opN nx lb 2 x y : Nat)) := by
  have xx := pow16 hS.n16 hx
  have yy := pow16 hS.n16 hy
  have a1 := notN_lt nx.length x
  have a1' := pow16 hS.n16 a1
  have a2 := notN_lt nx.length y
  have a2' := pow16 hS.n16 a2
  have a3 := or_lt hx hy
  have a3' := pow16 hS.n16 a3
  have a4 := notN_lt nx.length (x ||| y)
  have al := allN_lt nx.length
  have b1 := pow16 hS.n16 (befN_lt nx (notN nx.length x))
  have b2 := pow16 hS.n16 (alwN_lt (nx := nx) (x := notN nx.length x))
  have b3 := alwN_lt (nx := nx) (x := notN nx.length y)
  have b3' := pow16 hS.n16 b3
  have u1 := pow16 hS.n16 (untN_lt (x := allN nx.length) a1)
  have u2 := untN_lt (x := notN nx.length y) a4
  have u2' := pow16 hS.n16 u2
  have o1 := pow16 hS.n16 (or_lt b3 u2)
  refine deepCall_K 5 Try.func55 rfl (Nat.le_of_ble_eq_true rfl) fun M W0 => ?_
  refine KC.seq ?_
  refine KC.region ?_
  refine KT.step rfl rfl (K.assign rfl) ?_
  refine KT.nil ?_
  refine thenK_n ?_
  refine KC.seq ?_
  refine KC.region ?_
  refine KT.step rfl rfl (K.move rfl) ?_
  refine KT.step rfl rfl (K.move rfl) ?_
  refine KT.step rfl rfl (K.band rfl rfl (show IntKind.i64.wrap (BitVec.ofInt IntKind.i64.bits ((x : Nat) : Int) &&& BitVec.ofInt IntKind.i64.bits ((y : Nat) : Int)).toNat = ((x &&& y : Nat) : Int) from andI (lt63 xx) (lt63 yy))) ?_
  refine KT.step rfl rfl (K.assign rfl) ?_
  refine KT.nil ?_
  refine thenK_n ?_
  refine KC.ret ?_
  exact ⟨.inl rfl, _, rfl, fin_d rfl⟩
set_option maxRecDepth 10000 in
theorem op3 {dn dl : DV} {nx lb : List Nat} (hS : Str dn dl nx lb) {x y : Nat} (hx : x < 2 ^ nx.length) (hy : y < 2 ^ nx.length) : DeepCall Try.prog 56 ([DI (x : Nat), DI (y : Nat)] ++ []) (DI (opN nx lb 3 x y : Nat)) := by
  have xx := pow16 hS.n16 hx
  have yy := pow16 hS.n16 hy
  have a1 := notN_lt nx.length x
  have a1' := pow16 hS.n16 a1
  have a2 := notN_lt nx.length y
  have a2' := pow16 hS.n16 a2
  have a3 := or_lt hx hy
  have a3' := pow16 hS.n16 a3
  have a4 := notN_lt nx.length (x ||| y)
  have al := allN_lt nx.length
  have b1 := pow16 hS.n16 (befN_lt nx (notN nx.length x))
  have b2 := pow16 hS.n16 (alwN_lt (nx := nx) (x := notN nx.length x))
  have b3 := alwN_lt (nx := nx) (x := notN nx.length y)
  have b3' := pow16 hS.n16 b3
  have u1 := pow16 hS.n16 (untN_lt (x := allN nx.length) a1)
  have u2 := untN_lt (x := notN nx.length y) a4
  have u2' := pow16 hS.n16 u2
  have o1 := pow16 hS.n16 (or_lt b3 u2)
  refine deepCall_K 5 Try.func56 rfl (Nat.le_of_ble_eq_true rfl) fun M W0 => ?_
  refine KC.seq ?_
  refine KC.region ?_
  refine KT.step rfl rfl (K.assign rfl) ?_
  refine KT.nil ?_
  refine thenK_n ?_
  refine KC.seq ?_
  refine KC.region ?_
  refine KT.step rfl rfl (K.move rfl) ?_
  refine KT.step rfl rfl (K.move rfl) ?_
  refine KT.step rfl rfl (K.bor rfl rfl (show IntKind.i64.wrap (BitVec.ofInt IntKind.i64.bits ((x : Nat) : Int) ||| BitVec.ofInt IntKind.i64.bits ((y : Nat) : Int)).toNat = ((x ||| y : Nat) : Int) from orI (lt63 xx) (lt63 yy))) ?_
  refine KT.step rfl rfl (K.assign rfl) ?_
  refine KT.nil ?_
  refine thenK_n ?_
  refine KC.ret ?_
  exact ⟨.inl rfl, _, rfl, fin_d rfl⟩
set_option maxRecDepth 10000 in
theorem op4 {dn dl : DV} {nx lb : List Nat} (hS : Str dn dl nx lb) {x y : Nat} (hx : x < 2 ^ nx.length) (hy : y < 2 ^ nx.length) : DeepCall Try.prog 57 ([DI (x : Nat), DI (y : Nat)] ++ [.ptr [dn, dl]]) (DI (opN nx lb 4 x y : Nat)) := by
  have xx := pow16 hS.n16 hx
  have yy := pow16 hS.n16 hy
  have a1 := notN_lt nx.length x
  have a1' := pow16 hS.n16 a1
  have a2 := notN_lt nx.length y
  have a2' := pow16 hS.n16 a2
  have a3 := or_lt hx hy
  have a3' := pow16 hS.n16 a3
  have a4 := notN_lt nx.length (x ||| y)
  have al := allN_lt nx.length
  have b1 := pow16 hS.n16 (befN_lt nx (notN nx.length x))
  have b2 := pow16 hS.n16 (alwN_lt (nx := nx) (x := notN nx.length x))
  have b3 := alwN_lt (nx := nx) (x := notN nx.length y)
  have b3' := pow16 hS.n16 b3
  have u1 := pow16 hS.n16 (untN_lt (x := allN nx.length) a1)
  have u2 := untN_lt (x := notN nx.length y) a4
  have u2' := pow16 hS.n16 u2
  have o1 := pow16 hS.n16 (or_lt b3 u2)
  refine deepCall_K 5 Try.func57 rfl (Nat.le_of_ble_eq_true rfl) fun M W0 => ?_
  refine KC.seq ?_
  refine KC.region ?_
  refine KT.step rfl rfl (K.assign rfl) ?_
  refine KT.nil ?_
  refine thenK_n ?_
  refine KC.seq ?_
  refine KC.region ?_
  refine KT.step rfl rfl (K.loadAgg (m := 2) rfl Try.agg31 Try.size31 (by simp)) ?_
  refine KT.step rfl rfl (K.move rfl) ?_
  refine KT.step rfl rfl (K.call2 rfl rfl plainTry_58 (before58 hS (by assumption))) ?_
  refine KT.step rfl rfl (K.assign rfl) ?_
  refine KT.nil ?_
  refine thenK_n ?_
  refine KC.ret ?_
  exact ⟨.inl rfl, _, rfl, fin_d rfl⟩
set_option maxRecDepth 10000 in
theorem op5 {dn dl : DV} {nx lb : List Nat} (hS : Str dn dl nx lb) {x y : Nat} (hx : x < 2 ^ nx.length) (hy : y < 2 ^ nx.length) : DeepCall Try.prog 59 ([DI (x : Nat), DI (y : Nat)] ++ [.ptr [dn, dl]]) (DI (opN nx lb 5 x y : Nat)) := by
  have xx := pow16 hS.n16 hx
  have yy := pow16 hS.n16 hy
  have a1 := notN_lt nx.length x
  have a1' := pow16 hS.n16 a1
  have a2 := notN_lt nx.length y
  have a2' := pow16 hS.n16 a2
  have a3 := or_lt hx hy
  have a3' := pow16 hS.n16 a3
  have a4 := notN_lt nx.length (x ||| y)
  have al := allN_lt nx.length
  have b1 := pow16 hS.n16 (befN_lt nx (notN nx.length x))
  have b2 := pow16 hS.n16 (alwN_lt (nx := nx) (x := notN nx.length x))
  have b3 := alwN_lt (nx := nx) (x := notN nx.length y)
  have b3' := pow16 hS.n16 b3
  have u1 := pow16 hS.n16 (untN_lt (x := allN nx.length) a1)
  have u2 := untN_lt (x := notN nx.length y) a4
  have u2' := pow16 hS.n16 u2
  have o1 := pow16 hS.n16 (or_lt b3 u2)
  refine deepCall_K 5 Try.func59 rfl (Nat.le_of_ble_eq_true rfl) fun M W0 => ?_
  refine KC.seq ?_
  refine KC.region ?_
  refine KT.step rfl rfl (K.assign rfl) ?_
  refine KT.nil ?_
  refine thenK_n ?_
  refine KC.seq ?_
  refine KC.draw Try.mixed ?_
  refine KT.step rfl rfl (K.loadAgg (m := 2) rfl Try.agg31 Try.size31 (by simp)) ?_
  refine KT.step rfl rfl (K.loadAgg (m := 2) rfl Try.agg31 Try.size31 (by simp)) ?_
  refine KT.step rfl rfl (K.call1 rfl plainTry_52 (all52 hS)) ?_
  refine KT.step rfl rfl (K.move rfl) ?_
  refine KT.step rfl rfl (K.call3 rfl rfl rfl plainTry_60 (until60 hS (by assumption) (by assumption))) ?_
  refine KT.step rfl rfl (K.assign rfl) ?_
  refine KT.nil ?_
  refine ⟨by kernel_rfl, ?_⟩
  refine thenK_n ?_
  refine KC.ret ?_
  exact ⟨.inl rfl, _, rfl, fin_d rfl⟩
set_option maxRecDepth 10000 in
theorem op6 {dn dl : DV} {nx lb : List Nat} (hS : Str dn dl nx lb) {x y : Nat} (hx : x < 2 ^ nx.length) (hy : y < 2 ^ nx.length) : DeepCall Try.prog 61 ([DI (x : Nat), DI (y : Nat)] ++ [.ptr [dn, dl]]) (DI (opN nx lb 6 x y : Nat)) := by
  have xx := pow16 hS.n16 hx
  have yy := pow16 hS.n16 hy
  have a1 := notN_lt nx.length x
  have a1' := pow16 hS.n16 a1
  have a2 := notN_lt nx.length y
  have a2' := pow16 hS.n16 a2
  have a3 := or_lt hx hy
  have a3' := pow16 hS.n16 a3
  have a4 := notN_lt nx.length (x ||| y)
  have al := allN_lt nx.length
  have b1 := pow16 hS.n16 (befN_lt nx (notN nx.length x))
  have b2 := pow16 hS.n16 (alwN_lt (nx := nx) (x := notN nx.length x))
  have b3 := alwN_lt (nx := nx) (x := notN nx.length y)
  have b3' := pow16 hS.n16 b3
  have u1 := pow16 hS.n16 (untN_lt (x := allN nx.length) a1)
  have u2 := untN_lt (x := notN nx.length y) a4
  have u2' := pow16 hS.n16 u2
  have o1 := pow16 hS.n16 (or_lt b3 u2)
  refine deepCall_K 5 Try.func61 rfl (Nat.le_of_ble_eq_true rfl) fun M W0 => ?_
  refine KC.seq ?_
  refine KC.region ?_
  refine KT.step rfl rfl (K.assign rfl) ?_
  refine KT.nil ?_
  refine thenK_n ?_
  refine KC.seq ?_
  refine KC.region ?_
  refine KT.step rfl rfl (K.loadAgg (m := 2) rfl Try.agg31 Try.size31 (by simp)) ?_
  refine KT.step rfl rfl (K.move rfl) ?_
  refine KT.step rfl rfl (K.call2 rfl rfl plainTry_62 (always62 hS (by assumption))) ?_
  refine KT.step rfl rfl (K.assign rfl) ?_
  refine KT.nil ?_
  refine thenK_n ?_
  refine KC.ret ?_
  exact ⟨.inl rfl, _, rfl, fin_d rfl⟩
set_option maxRecDepth 10000 in
theorem op7 {dn dl : DV} {nx lb : List Nat} (hS : Str dn dl nx lb) {x y : Nat} (hx : x < 2 ^ nx.length) (hy : y < 2 ^ nx.length) : DeepCall Try.prog 63 ([DI (x : Nat), DI (y : Nat)] ++ [.ptr [dn, dl]]) (DI (opN nx lb 7 x y : Nat)) := by
  have xx := pow16 hS.n16 hx
  have yy := pow16 hS.n16 hy
  have a1 := notN_lt nx.length x
  have a1' := pow16 hS.n16 a1
  have a2 := notN_lt nx.length y
  have a2' := pow16 hS.n16 a2
  have a3 := or_lt hx hy
  have a3' := pow16 hS.n16 a3
  have a4 := notN_lt nx.length (x ||| y)
  have al := allN_lt nx.length
  have b1 := pow16 hS.n16 (befN_lt nx (notN nx.length x))
  have b2 := pow16 hS.n16 (alwN_lt (nx := nx) (x := notN nx.length x))
  have b3 := alwN_lt (nx := nx) (x := notN nx.length y)
  have b3' := pow16 hS.n16 b3
  have u1 := pow16 hS.n16 (untN_lt (x := allN nx.length) a1)
  have u2 := untN_lt (x := notN nx.length y) a4
  have u2' := pow16 hS.n16 u2
  have o1 := pow16 hS.n16 (or_lt b3 u2)
  refine deepCall_K 5 Try.func63 rfl (Nat.le_of_ble_eq_true rfl) fun M W0 => ?_
  refine KC.seq ?_
  refine KC.region ?_
  refine KT.step rfl rfl (K.assign rfl) ?_
  refine KT.nil ?_
  refine thenK_n ?_
  refine KC.seq ?_
  refine KC.region ?_
  refine KT.step rfl rfl (K.loadAgg (m := 2) rfl Try.agg31 Try.size31 (by simp)) ?_
  refine KT.step rfl rfl (K.move rfl) ?_
  refine KT.step rfl rfl (K.move rfl) ?_
  refine KT.step rfl rfl (K.call3 rfl rfl rfl plainTry_60 (until60 hS (by assumption) (by assumption))) ?_
  refine KT.step rfl rfl (K.assign rfl) ?_
  refine KT.nil ?_
  refine thenK_n ?_
  refine KC.ret ?_
  exact ⟨.inl rfl, _, rfl, fin_d rfl⟩
set_option maxRecDepth 10000 in
theorem op8 {dn dl : DV} {nx lb : List Nat} (hS : Str dn dl nx lb) {x y : Nat} (hx : x < 2 ^ nx.length) (hy : y < 2 ^ nx.length) : DeepCall Try.prog 64 ([DI (x : Nat), DI (y : Nat)] ++ [.ptr [dn, dl]]) (DI (opN nx lb 8 x y : Nat)) := by
  have xx := pow16 hS.n16 hx
  have yy := pow16 hS.n16 hy
  have a1 := notN_lt nx.length x
  have a1' := pow16 hS.n16 a1
  have a2 := notN_lt nx.length y
  have a2' := pow16 hS.n16 a2
  have a3 := or_lt hx hy
  have a3' := pow16 hS.n16 a3
  have a4 := notN_lt nx.length (x ||| y)
  have al := allN_lt nx.length
  have b1 := pow16 hS.n16 (befN_lt nx (notN nx.length x))
  have b2 := pow16 hS.n16 (alwN_lt (nx := nx) (x := notN nx.length x))
  have b3 := alwN_lt (nx := nx) (x := notN nx.length y)
  have b3' := pow16 hS.n16 b3
  have u1 := pow16 hS.n16 (untN_lt (x := allN nx.length) a1)
  have u2 := untN_lt (x := notN nx.length y) a4
  have u2' := pow16 hS.n16 u2
  have o1 := pow16 hS.n16 (or_lt b3 u2)
  refine deepCall_K 5 Try.func64 rfl (Nat.le_of_ble_eq_true rfl) fun M W0 => ?_
  refine KC.seq ?_
  refine KC.region ?_
  refine KT.step rfl rfl (K.assign rfl) ?_
  refine KT.nil ?_
  refine thenK_n ?_
  refine KC.seq ?_
  refine KC.draw Try.mixed ?_
  refine KT.step rfl rfl (K.loadAgg (m := 2) rfl Try.agg31 Try.size31 (by simp)) ?_
  refine KT.step rfl rfl (K.loadAgg (m := 2) rfl Try.agg31 Try.size31 (by simp)) ?_
  refine KT.step rfl rfl (K.loadAgg (m := 2) rfl Try.agg31 Try.size31 (by simp)) ?_
  refine KT.step rfl rfl (K.move rfl) ?_
  refine KT.step rfl rfl (K.call2 rfl rfl plainTry_54 (not54 hS (by assumption))) ?_
  refine KT.step rfl rfl (K.call2 rfl rfl plainTry_58 (before58 hS (by assumption))) ?_
  refine KT.step rfl rfl (K.call2 rfl rfl plainTry_54 (not54 hS (by assumption))) ?_
  refine KT.step rfl rfl (K.assign rfl) ?_
  refine KT.nil ?_
  refine ⟨by kernel_rfl, ?_⟩
  refine thenK_n ?_
  refine KC.ret ?_
  exact ⟨.inl rfl, _, rfl, fin_d rfl⟩
set_option maxRecDepth 10000 in
theorem op9 {dn dl : DV} {nx lb : List Nat} (hS : Str dn dl nx lb) {x y : Nat} (hx : x < 2 ^ nx.length) (hy : y < 2 ^ nx.length) : DeepCall Try.prog 65 ([DI (x : Nat), DI (y : Nat)] ++ [.ptr [dn, dl]]) (DI (opN nx lb 9 x y : Nat)) := by
  have xx := pow16 hS.n16 hx
  have yy := pow16 hS.n16 hy
  have a1 := notN_lt nx.length x
  have a1' := pow16 hS.n16 a1
  have a2 := notN_lt nx.length y
  have a2' := pow16 hS.n16 a2
  have a3 := or_lt hx hy
  have a3' := pow16 hS.n16 a3
  have a4 := notN_lt nx.length (x ||| y)
  have al := allN_lt nx.length
  have b1 := pow16 hS.n16 (befN_lt nx (notN nx.length x))
  have b2 := pow16 hS.n16 (alwN_lt (nx := nx) (x := notN nx.length x))
  have b3 := alwN_lt (nx := nx) (x := notN nx.length y)
  have b3' := pow16 hS.n16 b3
  have u1 := pow16 hS.n16 (untN_lt (x := allN nx.length) a1)
  have u2 := untN_lt (x := notN nx.length y) a4
  have u2' := pow16 hS.n16 u2
  have o1 := pow16 hS.n16 (or_lt b3 u2)
  refine deepCall_K 5 Try.func65 rfl (Nat.le_of_ble_eq_true rfl) fun M W0 => ?_
  refine KC.seq ?_
  refine KC.region ?_
  refine KT.step rfl rfl (K.assign rfl) ?_
  refine KT.nil ?_
  refine thenK_n ?_
  refine KC.seq ?_
  refine KC.draw Try.mixed ?_
  refine KT.step rfl rfl (K.loadAgg (m := 2) rfl Try.agg31 Try.size31 (by simp)) ?_
  refine KT.step rfl rfl (K.loadAgg (m := 2) rfl Try.agg31 Try.size31 (by simp)) ?_
  refine KT.step rfl rfl (K.loadAgg (m := 2) rfl Try.agg31 Try.size31 (by simp)) ?_
  refine KT.step rfl rfl (K.move rfl) ?_
  refine KT.step rfl rfl (K.call2 rfl rfl plainTry_54 (not54 hS (by assumption))) ?_
  refine KT.step rfl rfl (K.call2 rfl rfl plainTry_62 (always62 hS (by assumption))) ?_
  refine KT.step rfl rfl (K.call2 rfl rfl plainTry_54 (not54 hS (by assumption))) ?_
  refine KT.step rfl rfl (K.assign rfl) ?_
  refine KT.nil ?_
  refine ⟨by kernel_rfl, ?_⟩
  refine thenK_n ?_
  refine KC.ret ?_
  exact ⟨.inl rfl, _, rfl, fin_d rfl⟩
set_option maxRecDepth 10000 in
theorem op10 {dn dl : DV} {nx lb : List Nat} (hS : Str dn dl nx lb) {x y : Nat} (hx : x < 2 ^ nx.length) (hy : y < 2 ^ nx.length) : DeepCall Try.prog 66 ([DI (x : Nat), DI (y : Nat)] ++ [.ptr [dn, dl]]) (DI (opN nx lb 10 x y : Nat)) := by
  have xx := pow16 hS.n16 hx
  have yy := pow16 hS.n16 hy
  have a1 := notN_lt nx.length x
  have a1' := pow16 hS.n16 a1
  have a2 := notN_lt nx.length y
  have a2' := pow16 hS.n16 a2
  have a3 := or_lt hx hy
  have a3' := pow16 hS.n16 a3
  have a4 := notN_lt nx.length (x ||| y)
  have al := allN_lt nx.length
  have b1 := pow16 hS.n16 (befN_lt nx (notN nx.length x))
  have b2 := pow16 hS.n16 (alwN_lt (nx := nx) (x := notN nx.length x))
  have b3 := alwN_lt (nx := nx) (x := notN nx.length y)
  have b3' := pow16 hS.n16 b3
  have u1 := pow16 hS.n16 (untN_lt (x := allN nx.length) a1)
  have u2 := untN_lt (x := notN nx.length y) a4
  have u2' := pow16 hS.n16 u2
  have o1 := pow16 hS.n16 (or_lt b3 u2)
  refine deepCall_K 5 Try.func66 rfl (Nat.le_of_ble_eq_true rfl) fun M W0 => ?_
  refine KC.seq ?_
  refine KC.region ?_
  refine KT.step rfl rfl (K.assign rfl) ?_
  refine KT.nil ?_
  refine thenK_n ?_
  refine KC.seq ?_
  refine KC.draw Try.mixed ?_
  refine KT.step rfl rfl (K.loadAgg (m := 2) rfl Try.agg31 Try.size31 (by simp)) ?_
  refine KT.step rfl rfl (K.loadAgg (m := 2) rfl Try.agg31 Try.size31 (by simp)) ?_
  refine KT.step rfl rfl (K.loadAgg (m := 2) rfl Try.agg31 Try.size31 (by simp)) ?_
  refine KT.step rfl rfl (K.call1 rfl plainTry_52 (all52 hS)) ?_
  refine KT.step rfl rfl (K.loadAgg (m := 2) rfl Try.agg31 Try.size31 (by simp)) ?_
  refine KT.step rfl rfl (K.move rfl) ?_
  refine KT.step rfl rfl (K.call2 rfl rfl plainTry_54 (not54 hS (by assumption))) ?_
  refine KT.step rfl rfl (K.call3 rfl rfl rfl plainTry_60 (until60 hS (by assumption) (by assumption))) ?_
  refine KT.step rfl rfl (K.call2 rfl rfl plainTry_54 (not54 hS (by assumption))) ?_
  refine KT.step rfl rfl (K.assign rfl) ?_
  refine KT.nil ?_
  refine ⟨by kernel_rfl, ?_⟩
  refine thenK_n ?_
  refine KC.ret ?_
  exact ⟨.inl rfl, _, rfl, fin_d rfl⟩
set_option maxRecDepth 10000 in
theorem op11 {dn dl : DV} {nx lb : List Nat} (hS : Str dn dl nx lb) {x y : Nat} (hx : x < 2 ^ nx.length) (hy : y < 2 ^ nx.length) : DeepCall Try.prog 67 ([DI (x : Nat), DI (y : Nat)] ++ [.ptr [dn, dl]]) (DI (opN nx lb 11 x y : Nat)) := by
  have xx := pow16 hS.n16 hx
  have yy := pow16 hS.n16 hy
  have a1 := notN_lt nx.length x
  have a1' := pow16 hS.n16 a1
  have a2 := notN_lt nx.length y
  have a2' := pow16 hS.n16 a2
  have a3 := or_lt hx hy
  have a3' := pow16 hS.n16 a3
  have a4 := notN_lt nx.length (x ||| y)
  have al := allN_lt nx.length
  have b1 := pow16 hS.n16 (befN_lt nx (notN nx.length x))
  have b2 := pow16 hS.n16 (alwN_lt (nx := nx) (x := notN nx.length x))
  have b3 := alwN_lt (nx := nx) (x := notN nx.length y)
  have b3' := pow16 hS.n16 b3
  have u1 := pow16 hS.n16 (untN_lt (x := allN nx.length) a1)
  have u2 := untN_lt (x := notN nx.length y) a4
  have u2' := pow16 hS.n16 u2
  have o1 := pow16 hS.n16 (or_lt b3 u2)
  refine deepCall_K 5 Try.func67 rfl (Nat.le_of_ble_eq_true rfl) fun M W0 => ?_
  refine KC.seq ?_
  refine KC.region ?_
  refine KT.step rfl rfl (K.assign rfl) ?_
  refine KT.nil ?_
  refine thenK_n ?_
  refine KC.seq ?_
  refine KC.draw Try.mixed ?_
  refine KT.step rfl rfl (K.loadAgg (m := 2) rfl Try.agg31 Try.size31 (by simp)) ?_
  refine KT.step rfl rfl (K.loadAgg (m := 2) rfl Try.agg31 Try.size31 (by simp)) ?_
  refine KT.step rfl rfl (K.loadAgg (m := 2) rfl Try.agg31 Try.size31 (by simp)) ?_
  refine KT.step rfl rfl (K.move rfl) ?_
  refine KT.step rfl rfl (K.call2 rfl rfl plainTry_54 (not54 hS (by assumption))) ?_
  refine KT.step rfl rfl (K.call2 rfl rfl plainTry_62 (always62 hS (by assumption))) ?_
  refine KT.step rfl rfl (K.loadAgg (m := 2) rfl Try.agg31 Try.size31 (by simp)) ?_
  refine KT.step rfl rfl (K.loadAgg (m := 2) rfl Try.agg31 Try.size31 (by simp)) ?_
  refine KT.step rfl rfl (K.move rfl) ?_
  refine KT.step rfl rfl (K.call2 rfl rfl plainTry_54 (not54 hS (by assumption))) ?_
  refine KT.step rfl rfl (K.loadAgg (m := 2) rfl Try.agg31 Try.size31 (by simp)) ?_
  refine KT.step rfl rfl (K.move rfl) ?_
  refine KT.step rfl rfl (K.move rfl) ?_
  refine KT.step rfl rfl (K.bor rfl rfl (show IntKind.i64.wrap (BitVec.ofInt IntKind.i64.bits ((x : Nat) : Int) ||| BitVec.ofInt IntKind.i64.bits ((y : Nat) : Int)).toNat = ((x ||| y : Nat) : Int) from orI (lt63 xx) (lt63 yy))) ?_
  refine KT.step rfl rfl (K.call2 rfl rfl plainTry_54 (not54 hS (by assumption))) ?_
  refine KT.step rfl rfl (K.call3 rfl rfl rfl plainTry_60 (until60 hS (by assumption) (by assumption))) ?_
  refine KT.step rfl rfl (K.bor rfl rfl (show IntKind.i64.wrap (BitVec.ofInt IntKind.i64.bits ((alwN nx (notN nx.length y) : Nat) : Int) ||| BitVec.ofInt IntKind.i64.bits ((untN nx (notN nx.length y) (notN nx.length (x ||| y)) : Nat) : Int)).toNat = ((alwN nx (notN nx.length y) ||| untN nx (notN nx.length y) (notN nx.length (x ||| y)) : Nat) : Int) from orI (lt63 b3') (lt63 u2'))) ?_
  refine KT.step rfl rfl (K.call2 rfl rfl plainTry_54 (not54 hS (by assumption))) ?_
  refine KT.step rfl rfl (K.assign rfl) ?_
  refine KT.nil ?_
  refine ⟨by kernel_rfl, ?_⟩
  refine thenK_n ?_
  refine KC.ret ?_
  exact ⟨.inl rfl, _, rfl, fin_d rfl⟩
set_option maxRecDepth 10000 in
theorem op12 {dn dl : DV} {nx lb : List Nat} (hS : Str dn dl nx lb) {x y : Nat} (hx : x < 2 ^ nx.length) (hy : y < 2 ^ nx.length) {k : Nat} (hk : k < 6) : DeepCall Try.prog 68 ([DI (x : Nat), DI (y : Nat)] ++ [.ptr [dn, dl], .ptr [DI (k : Nat)]]) (DI (opN nx lb (k + 12) x y : Nat)) := by
  have xx := pow16 hS.n16 hx
  have yy := pow16 hS.n16 hy
  have a1 := notN_lt nx.length x
  have a1' := pow16 hS.n16 a1
  have a2 := notN_lt nx.length y
  have a2' := pow16 hS.n16 a2
  have a3 := or_lt hx hy
  have a3' := pow16 hS.n16 a3
  have a4 := notN_lt nx.length (x ||| y)
  have al := allN_lt nx.length
  have b1 := pow16 hS.n16 (befN_lt nx (notN nx.length x))
  have b2 := pow16 hS.n16 (alwN_lt (nx := nx) (x := notN nx.length x))
  have b3 := alwN_lt (nx := nx) (x := notN nx.length y)
  have b3' := pow16 hS.n16 b3
  have u1 := pow16 hS.n16 (untN_lt (x := allN nx.length) a1)
  have u2 := untN_lt (x := notN nx.length y) a4
  have u2' := pow16 hS.n16 u2
  have o1 := pow16 hS.n16 (or_lt b3 u2)
  refine deepCall_K 5 Try.func68 rfl (Nat.le_of_ble_eq_true rfl) fun M W0 => ?_
  refine KC.seq ?_
  refine KC.region ?_
  refine KT.step rfl rfl (K.assign rfl) ?_
  refine KT.nil ?_
  refine thenK_n ?_
  refine KC.seq ?_
  refine KC.region ?_
  refine KT.step rfl rfl (K.loadAgg (m := 2) rfl Try.agg31 Try.size31 (by simp)) ?_
  refine KT.step rfl rfl (K.load rfl Try.agg3) ?_
  refine KT.step rfl rfl (K.call2 rfl rfl plainTry_69 (with69 hS hk)) ?_
  refine KT.step rfl rfl (K.assign rfl) ?_
  refine KT.nil ?_
  refine thenK_n ?_
  refine KC.ret ?_
  exact ⟨.inl rfl, _, rfl, fin_d rfl⟩

/-- The functions of the table, and what they bring. -/
def fnO : Nat → FuncId
  | 0 => 51
  | 1 => 53
  | 2 => 55
  | 3 => 56
  | 4 => 57
  | 5 => 59
  | 6 => 61
  | 7 => 63
  | 8 => 64
  | 9 => 65
  | 10 => 66
  | 11 => 67
  | _ => 68
def cpO (dn dl : DV) : Nat → List DV
  | 2 | 3 => []
  | k + 12 => [.ptr [dn, dl], .ptr [DI (k : Nat)]]
  | _ => [.ptr [dn, dl]]
def vO (dn dl : DV) (i : Nat) : DV := .fn (.func (fnO i)) [] (cpO dn dl i)
def tabD (dn dl : DV) : DV := .mp (NM.map .string) ((List.range 18).map (vO dn dl))
theorem plainO (i : Nat) : plainFn Try.prog (fnO i) = true := by
  unfold fnO
  split <;> first | exact plainTry_51 | exact plainTry_53 | exact plainTry_55 | exact plainTry_56 | exact plainTry_57 | exact plainTry_59 | exact plainTry_61 | exact plainTry_63 | exact plainTry_64 | exact plainTry_65 | exact plainTry_66 | exact plainTry_67 | exact plainTry_68
theorem opCall {dn dl : DV} {nx lb : List Nat} (hS : Str dn dl nx lb) {x y : Nat} (hx : x < 2 ^ nx.length) (hy : y < 2 ^ nx.length) : ∀ i, i < 18 → DeepCall Try.prog (fnO i) ([DI (x : Nat), DI (y : Nat)] ++ cpO dn dl i) (DI (opN nx lb i x y : Nat))
  | 0, _ => op0 hS hx hy
  | 1, _ => op1 hS hx hy
  | 2, _ => op2 hS hx hy
  | 3, _ => op3 hS hx hy
  | 4, _ => op4 hS hx hy
  | 5, _ => op5 hS hx hy
  | 6, _ => op6 hS hx hy
  | 7, _ => op7 hS hx hy
  | 8, _ => op8 hS hx hy
  | 9, _ => op9 hS hx hy
  | 10, _ => op10 hS hx hy
  | 11, _ => op11 hS hx hy
  | k + 12, h => op12 hS hx hy (by omega)

/-- The functions of the table while it is made. -/
def xO (i : Nat) : XV :=
  match i with
  | 2 | 3 => .d (.fn (.func (fnO i)) [] [])
  | k + 12 => .fn (.func (fnO (k + 12))) [] [.optr 0 0, .optr (3 + k) 0]
  | _ => .fn (.func (fnO i)) [] [.optr 0 0]
theorem xO_k (k : Nat) : xO (12 + k) = .fn (.func (fnO (k + 12))) [] [.optr 0 0, .optr (3 + k) 0] := by rw [Nat.add_comm]; rfl
def boxO (dn dl : DV) : VObj := ⟨[.d dn, .d dl], 0⟩
def mapO (k : Nat) : VObj := ⟨entsX (NM.take (12 + k)) ((List.range (12 + k)).map xO), 3⟩
def itO (k : Nat) : VObj := ⟨[.d (.lit (.string ⟨#[97, 98, 99, 100, 101, 102]⟩)), .d (DI (k : Nat))], 5⟩
def ksO (k : Nat) : List VObj := (List.range k).map fun j => ⟨[.d (DI (j : Nat))], 0⟩
theorem ksO_len (k : Nat) : (ksO k).length = k := by simp [ksO]
theorem ksO_succ (k : Nat) : ksO k ++ [⟨[.d (DI (k : Nat))], 0⟩] = ksO (k + 1) := by simp [ksO, List.range_succ]
def SgO (dn dl : DV) (k : Nat) : List VObj := boxO dn dl :: mapO k :: itO k :: ksO k

theorem letter_lt : ∀ k, (h : k < 6) → (((⟨#[97, 98, 99, 100, 101, 102]⟩ : ByteArray)[k]'h).toNat) < 128
  | 0, _ => (by decide : (((⟨#[97, 98, 99, 100, 101, 102]⟩ : ByteArray)[0]'(by decide)).toNat) < 128)
  | 1, _ => (by decide : (((⟨#[97, 98, 99, 100, 101, 102]⟩ : ByteArray)[1]'(by decide)).toNat) < 128)
  | 2, _ => (by decide : (((⟨#[97, 98, 99, 100, 101, 102]⟩ : ByteArray)[2]'(by decide)).toNat) < 128)
  | 3, _ => (by decide : (((⟨#[97, 98, 99, 100, 101, 102]⟩ : ByteArray)[3]'(by decide)).toNat) < 128)
  | 4, _ => (by decide : (((⟨#[97, 98, 99, 100, 101, 102]⟩ : ByteArray)[4]'(by decide)).toNat) < 128)
  | 5, _ => (by decide : (((⟨#[97, 98, 99, 100, 101, 102]⟩ : ByteArray)[5]'(by decide)).toNat) < 128)
  | k + 6, h => by omega
theorem name_get : ∀ k, k < 6 → ∃ c, NM[12 + k]? = some c ∧ (NM.take (12 + k)).all (fun x => !decide (x = c)) = true ∧ NM.take (12 + k) ++ [c] = NM.take (12 + (k + 1))
  | 0, _ => ⟨_, rfl, by decide, rfl⟩
  | 1, _ => ⟨_, rfl, by decide, rfl⟩
  | 2, _ => ⟨_, rfl, by decide, rfl⟩
  | 3, _ => ⟨_, rfl, by decide, rfl⟩
  | 4, _ => ⟨_, rfl, by decide, rfl⟩
  | 5, _ => ⟨_, rfl, by decide, rfl⟩
  | k + 6, h => by omega
theorem take_len : ∀ k, k < 6 → (NM.take (12 + k)).length = ((List.range (12 + k)).map xO).length := fun k h => by
  simp [NM]; omega

section
variable {n : Nat} {ops : Array Oper} {l : List Oper} {σ : List VObj} {kn : Kn} {dst : Option Tmp} {ty : TypeId} {pos : String} {af : Array Edge} {g : Option (Nat × Bool)} {R : List Nat → List VObj → Kn → Prop}
theorem sliceLet0 : pureRun Try.prog (Instr.sliceAt 9 (.string ⟨#[97, 98, 99, 100, 101, 102]⟩) (some (.int .i64 (0 : Nat))) (some (.int .i64 ((0 : Nat) + 1))) none) = some (.string ⟨#[97]⟩) := by kernel_rfl
theorem sliceLet1 : pureRun Try.prog (Instr.sliceAt 9 (.string ⟨#[97, 98, 99, 100, 101, 102]⟩) (some (.int .i64 (1 : Nat))) (some (.int .i64 ((1 : Nat) + 1))) none) = some (.string ⟨#[98]⟩) := by kernel_rfl
theorem sliceLet2 : pureRun Try.prog (Instr.sliceAt 9 (.string ⟨#[97, 98, 99, 100, 101, 102]⟩) (some (.int .i64 (2 : Nat))) (some (.int .i64 ((2 : Nat) + 1))) none) = some (.string ⟨#[99]⟩) := by kernel_rfl
theorem sliceLet3 : pureRun Try.prog (Instr.sliceAt 9 (.string ⟨#[97, 98, 99, 100, 101, 102]⟩) (some (.int .i64 (3 : Nat))) (some (.int .i64 ((3 : Nat) + 1))) none) = some (.string ⟨#[100]⟩) := by kernel_rfl
theorem sliceLet4 : pureRun Try.prog (Instr.sliceAt 9 (.string ⟨#[97, 98, 99, 100, 101, 102]⟩) (some (.int .i64 (4 : Nat))) (some (.int .i64 ((4 : Nat) + 1))) none) = some (.string ⟨#[101]⟩) := by kernel_rfl
theorem sliceLet5 : pureRun Try.prog (Instr.sliceAt 9 (.string ⟨#[97, 98, 99, 100, 101, 102]⟩) (some (.int .i64 (5 : Nat))) (some (.int .i64 ((5 : Nat) + 1))) none) = some (.string ⟨#[102]⟩) := by kernel_rfl
theorem K.sliceLet {x lo hi : Operand} {k : Nat} {c : ByteArray} (hk : k < 6) (hc : NM[12 + k]? = some c) (hx : evK kn x = some (.d (.lit (.string ⟨#[97, 98, 99, 100, 101, 102]⟩)))) (hlo : evK kn lo = some (.d (DI (k : Nat)))) (hhi : evK kn hi = some (.d (DI ((k : Nat) + 1)))) :
    KEv Try.prog ⟨dst, .slice 9 x (some lo) (some hi) none, ty, pos, af, g⟩ σ kn (.d (.lit (.string c))) σ 0 := by
  refine K.semP fun env he F ι w ev h => ?_
  have h1 := h x (by simp [Op.operands])
  have h2 := h lo (by simp [Op.operands])
  have h3 := h hi (by simp [Op.operands])
  rw [evK_evalX he hx] at h1
  rw [evK_evalX he hlo] at h2
  rw [evK_evalX he hhi] at h3
  have hex : ∀ ev : Operand → Value, execOp ev ⟨dst, .slice 9 x (some lo) (some hi) none, ty, pos, af, g⟩ = (do pure (.value (← Instr.sliceAt 9 (ev x) (some (ev lo)) (some (ev hi)) none))) := fun _ => rfl
  rw [hex]
  generalize ev x = vx at *
  generalize ev lo = vl at *
  generalize ev hi = vh at *
  cases h1 with | d h1 => cases h1 with | lit =>
  cases h2 with | d h2 => cases h2 with | lit =>
  cases h3 with | d h3 => cases h3 with | lit =>
  refine ⟨_, ?_, .d (.lit _)⟩
  have key : pureRun Try.prog (Instr.sliceAt 9 (.string ⟨#[97, 98, 99, 100, 101, 102]⟩) (some (.int .i64 (k : Nat))) (some (.int .i64 ((k : Nat) + 1))) none) = some (.string c) := by
    match k, hk with
    | 0, _ => exact Option.some.inj hc ▸ sliceLet0
    | 1, _ => exact Option.some.inj hc ▸ sliceLet1
    | 2, _ => exact Option.some.inj hc ▸ sliceLet2
    | 3, _ => exact Option.some.inj hc ▸ sliceLet3
    | 4, _ => exact Option.some.inj hc ▸ sliceLet4
    | 5, _ => exact Option.some.inj hc ▸ sliceLet5
    | k + 6, h => omega
  exact pureRun_ok (pureRun_v key) w

/-- An entry for the map in the second place. -/
theorem KT.insH {mty kt et : TypeId} {m key val : Operand} {B : VObj} {rest : List VObj} {names : List ByteArray} {xs : List XV} {k : ByteArray} {x : XV} (hg : guardK ops kn ⟨dst, .insert mty m key val, ty, pos, af, g⟩ = some true) (hd0 : dstOk n dst = true) (hm : evK kn m = some (.omp 1)) (hl : names.length = xs.length)
    (hk : evK kn key = some (.d (.lit (.string k)))) (hv : evK kn val = some x) (hne : names.all (fun x => !decide (x = k)) = true) (ht : Try.prog.underlying mty = some (.map kt et)) (hd : Try.prog.underlying kt = some .string)
    (h : KT Try.prog n ops l (B :: ⟨entsX (names ++ [k]) (xs ++ [x]), 3⟩ :: rest) (extK dst undefX kn) (fun fls τ k => R (2 :: fls) τ k)) : KT Try.prog n ops (⟨dst, .insert mty m key val, ty, pos, af, g⟩ :: l) (B :: ⟨entsX names xs, 3⟩ :: rest) kn R :=
  KT.step hg hd0 (K.insert (names := names) (xs := xs) hm rfl hl hk hv hne ht hd) h
theorem KT.updH {mty kt et : TypeId} {m key val : Operand} {B : VObj} {rest : List VObj} {names : List ByteArray} {xs : List XV} {k : ByteArray} {x : XV} (hg : guardK ops kn ⟨dst, .mapUpdate mty m key val, ty, pos, af, g⟩ = some true) (hd0 : dstOk n dst = true) (hm : evK kn m = some (.omp 1)) (hl : names.length = xs.length)
    (hk : evK kn key = some (.d (.lit (.string k)))) (hv : evK kn val = some x) (hne : names.all (fun x => !decide (x = k)) = true) (ht : Try.prog.underlying mty = some (.map kt et)) (hd : Try.prog.underlying kt = some .string)
    (h : KT Try.prog n ops l (B :: ⟨entsX (names ++ [k]) (xs ++ [x]), 3⟩ :: rest) (extK dst undefX kn) (fun fls τ k => R (2 :: fls) τ k)) : KT Try.prog n ops (⟨dst, .mapUpdate mty m key val, ty, pos, af, g⟩ :: l) (B :: ⟨entsX names xs, 3⟩ :: rest) kn R :=
  KT.step hg hd0 (K.mapUpdateN (names := names) (xs := xs) hm rfl hl hk hv hne ht hd) h
/-- A variable of one number behind some objects, and what is written into it. -/
theorem KT.allocL {P : Program} {t : TypeId} {z : Value} {m : Nat} (hg : guardK ops kn ⟨dst, .alloc t, ty, pos, af, g⟩ = some true) (hd0 : dstOk n dst = true) (hz : zeroT P t = some z) (hc : z.cells.toList = [z]) (hm : σ.length = m)
    (h : KT P n ops l (σ ++ [⟨[.d (.lit z)], 0⟩]) (extK dst (.optr m 0) kn) (fun fls τ k => R (3 :: fls) τ k)) : KT P n ops (⟨dst, .alloc t, ty, pos, af, g⟩ :: l) σ kn R := by
  subst hm
  have := K.alloc (P := P) (σ := σ) (kn := kn) (dst := dst) (ty := ty) (pos := pos) (af := af) (g := g) hz
  rw [hc] at this
  exact KT.step hg hd0 this h
theorem KT.storeLast {P : Program} {x y : Operand} {t : TypeId} {m : Nat} {c : XV} {v : XV} (hg : guardK ops kn ⟨dst, .store t x y, ty, pos, af, g⟩ = some true) (hd0 : dstOk n dst = true) (hx : evK kn x = some (.optr m 0)) (hy : evK kn y = some v) (hm : σ.length = m) (hc : cellsX v = [v]) (h1 : oneX v = true) (hs : sizeT P t = some 1)
    (h : KT P n ops l (σ ++ [⟨[v], 0⟩]) (extK dst undefX kn) (fun fls τ k => R (2 :: fls) τ k)) : KT P n ops (⟨dst, .store t x y, ty, pos, af, g⟩ :: l) (σ ++ [⟨[c], 0⟩]) kn R := by
  subst hm
  have ho : (σ ++ [(⟨[c], 0⟩ : VObj)])[σ.length]? = some ⟨[c], 0⟩ := by simp
  have := K.storeO (P := P) (kn := kn) (dst := dst) (ty := ty) (pos := pos) (af := af) (g := g) hx hy ho (by simp) hc h1 hs
  have e : (σ ++ [(⟨[c], 0⟩ : VObj)]).set σ.length ⟨[c].set 0 v, 0⟩ = σ ++ [⟨[v], 0⟩] := by simp
  rw [e] at this
  exact KT.step hg hd0 this h
end
set_option maxRecDepth 10000 in
theorem operators29 {dn dl : DV} : DeepCall Try.prog 29 [.agg [dn, dl]] (tabD dn dl) := by
  refine deepCall_K 5 Try.func29 rfl (Nat.le_of_ble_eq_true rfl) fun M W0 => ?_
  refine KC.seq ?_
  refine KC.region ?_
  refine KT.step rfl rfl (K.box rfl) ?_
  refine KT.step rfl rfl (K.assign rfl) ?_
  refine KT.nil ?_
  refine thenK_n ?_
  refine KC.seq ?_
  refine KC.region ?_
  refine KT.step rfl rfl K.makeMap ?_
  refine KT.step rfl rfl (K.makeF (m := 0) rfl rfl rfl rfl) ?_
  refine KT.insH (B := boxO dn dl) (rest := []) (names := []) (xs := []) rfl rfl rfl rfl rfl rfl (by decide) Try.underlying68 Try.underlying9 ?_
  refine KT.step rfl rfl (K.makeF (m := 0) rfl rfl rfl rfl) ?_
  refine KT.insH rfl rfl rfl rfl rfl rfl (by decide) Try.underlying68 Try.underlying9 ?_
  refine KT.insH rfl rfl rfl rfl rfl rfl (by decide) Try.underlying68 Try.underlying9 ?_
  refine KT.insH rfl rfl rfl rfl rfl rfl (by decide) Try.underlying68 Try.underlying9 ?_
  refine KT.step rfl rfl (K.makeF (m := 0) rfl rfl rfl rfl) ?_
  refine KT.insH rfl rfl rfl rfl rfl rfl (by decide) Try.underlying68 Try.underlying9 ?_
  refine KT.step rfl rfl (K.makeF (m := 0) rfl rfl rfl rfl) ?_
  refine KT.insH rfl rfl rfl rfl rfl rfl (by decide) Try.underlying68 Try.underlying9 ?_
  refine KT.step rfl rfl (K.makeF (m := 0) rfl rfl rfl rfl) ?_
  refine KT.insH rfl rfl rfl rfl rfl rfl (by decide) Try.underlying68 Try.underlying9 ?_
  refine KT.step rfl rfl (K.makeF (m := 0) rfl rfl rfl rfl) ?_
  refine KT.insH rfl rfl rfl rfl rfl rfl (by decide) Try.underlying68 Try.underlying9 ?_
  refine KT.step rfl rfl (K.makeF (m := 0) rfl rfl rfl rfl) ?_
  refine KT.insH rfl rfl rfl rfl rfl rfl (by decide) Try.underlying68 Try.underlying9 ?_
  refine KT.step rfl rfl (K.makeF (m := 0) rfl rfl rfl rfl) ?_
  refine KT.insH rfl rfl rfl rfl rfl rfl (by decide) Try.underlying68 Try.underlying9 ?_
  refine KT.step rfl rfl (K.makeF (m := 0) rfl rfl rfl rfl) ?_
  refine KT.insH rfl rfl rfl rfl rfl rfl (by decide) Try.underlying68 Try.underlying9 ?_
  refine KT.step rfl rfl (K.makeF (m := 0) rfl rfl rfl rfl) ?_
  refine KT.insH rfl rfl rfl rfl rfl rfl (by decide) Try.underlying68 Try.underlying9 ?_
  refine KT.step rfl rfl (K.move rfl) ?_
  refine KT.step rfl rfl (K.assign rfl) ?_
  refine KT.nil ?_
  refine thenK_n ?_
  refine KC.seq ?_
  refine KC.seq ?_
  refine KC.region ?_
  refine KT.step rfl rfl (K.rangeS rfl Try.underlying9) ?_
  refine KT.nil ?_
  refine thenK_n ?_
  refine KC.block ?_
  refine KC.loop (fun k : Nat => SgO dn dl k) (fun _ => [(1, .optr 0 0), (3, .omp 1), (17, .optr 2 0)]) (fun k => k ≤ 6) (fun k => 6 - k) 0 (Nat.zero_le _) rfl (by simp [Go.Vm.look, extK, enterK, boxO]) ?_
  intro k hk
  unfold SgO
  refine KC.seq ?_
  refine KC.region ?_
  by_cases hk6 : k < 6
  · skip
    obtain ⟨c, hn1, hn2, hn3⟩ := name_get k hk6
    refine KT.step rfl rfl (K.nextS (s := ⟨#[97, 98, 99, 100, 101, 102]⟩) (p := k) rfl rfl hk6 (letter_lt k hk6)) ?_
    refine KT.step rfl rfl (K.extractL rfl rfl) ?_
    refine KT.nil ?_
    refine thenK_n ?_
    refine KC.seq ?_
    refine KC.cond rfl (fun hc19 => ?_) (fun hc19 => ?_)
    · skip
      refine KC.skip ?_
      refine thenK_n ?_
      refine KC.block ?_
      refine KC.seq ?_
      refine KC.region ?_
      refine KT.step rfl rfl (K.extractL rfl rfl) ?_
      refine KT.allocL (m := 3 + k) rfl rfl Try.zero3 rfl (by show (ksO k).length + 1 + 1 + 1 = 3 + k; rw [ksO_len]; omega) ?_
      refine KT.storeLast (σ := boxO dn dl :: mapO k :: itO (k + 1) :: ksO k) (m := 3 + k) rfl rfl rfl rfl (by show (ksO k).length + 1 + 1 + 1 = 3 + k; rw [ksO_len]; omega) rfl rfl Try.size3 ?_
      refine KT.nil ?_
      refine thenK_n ?_
      refine KC.region ?_
      refine KT.step rfl rfl (K.move rfl) ?_
      have hlast : ((boxO dn dl :: mapO k :: itO (k + 1) :: ksO k) ++ [(⟨[.d (DI (k : Nat))], 0⟩ : VObj)])[3 + k]? = some ⟨[.d (DI (k : Nat))], 0⟩ := by
        have e : 3 + k = (boxO dn dl :: mapO k :: itO (k + 1) :: ksO k).length := by show _ = (ksO k).length + 1 + 1 + 1; rw [ksO_len]; omega
        rw [e]; simp
      refine KT.step rfl rfl (K.loadO rfl hlast (by simp) rfl Try.agg3) ?_
      refine KT.step rfl rfl (K.loadO rfl hlast (by simp) rfl Try.agg3) ?_
      refine KT.step rfl rfl (K.add rfl rfl (wrap_id (by omega))) ?_
      refine KT.step rfl rfl (K.sliceLet hk6 hn1 rfl rfl rfl) ?_
      refine KT.step rfl rfl (K.makeF (m := 0) rfl rfl rfl rfl) ?_
      show KT _ _ _ _ (boxO dn dl :: ⟨entsX (NM.take (12 + k)) ((List.range (12 + k)).map xO), 3⟩ :: itO (k + 1) :: (ksO k ++ [⟨[.d (DI (k : Nat))], 0⟩])) _ _
      refine KT.step rfl rfl (K.mapUpdateN (names := NM.take (12 + k)) (xs := (List.range (12 + k)).map xO) rfl rfl (take_len k hk6) rfl rfl hn2 Try.underlying68 Try.underlying9) ?_
      refine KT.nil ?_
      refine blockK_n ?_
      refine thenK_n ?_
      refine ⟨k + 1, by omega, by omega, ?_, by simp [Go.Vm.look, extK]⟩
      show boxO dn dl :: ⟨entsX (NM.take (12 + k) ++ [c]) ((List.range (12 + k)).map xO ++ [.fn (.func (fnO (k + 12))) [] [.optr 0 0, .optr (3 + k) 0]]), 3⟩ :: itO (k + 1) :: (ksO k ++ [⟨[.d (DI (k : Nat))], 0⟩]) = boxO dn dl :: mapO (k + 1) :: itO (k + 1) :: ksO (k + 1)
      rw [ksO_succ, hn3]
      unfold mapO
      rw [show 12 + (k + 1) = (12 + k) + 1 by omega, List.range_succ, List.map_append, List.map_cons, List.map_nil, xO_k]
    · cases hc19
  · skip
    refine KT.step rfl rfl (K.nextE (s := ⟨#[97, 98, 99, 100, 101, 102]⟩) (p := k) rfl rfl hk6) ?_
    refine KT.step rfl rfl (K.extractL rfl rfl) ?_
    refine KT.nil ?_
    refine thenK_n ?_
    refine KC.seq ?_
    refine KC.cond rfl (fun hc19 => ?_) (fun hc19 => ?_)
    · cases hc19
    · skip
      refine KC.exit ?_
      refine thenK_x ?_
      refine thenK_x ?_
      refine blockK_e ?_
      refine thenK_n ?_
      refine KC.seq ?_
      refine KC.region ?_
      refine KT.step rfl rfl (K.move rfl) ?_
      refine KT.step rfl rfl (K.assign rfl) ?_
      refine KT.nil ?_
      refine thenK_n ?_
      refine KC.ret ?_
      refine ⟨.inl rfl, _, rfl, ?_⟩
      have e : k = 6 := by omega
      subst e
      show deepen (freezeAll (SgO dn dl 6)) 5 (.omp 1) = some (tabD dn dl)
      rfl
end Go.Proofs.Ytcjcchceeidgkaa

