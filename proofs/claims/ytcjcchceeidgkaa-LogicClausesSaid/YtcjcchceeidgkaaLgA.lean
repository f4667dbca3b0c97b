import Derived.Test.YtcjcchceeidgkaaLgX
import Derived.Test.YtcjcchceeidgkaaProg
import Derived.KernelRfl
/-
  Logic: sets of states.
-/
namespace Go.Proofs.Ytcjcchceeidgkaa
open Go.Vm Go.Lg
theorem Try.mixed : Try.prog.follows .mixedOrders = true := by kernel_rfl
theorem Try.agg3 : isAggT Try.prog 3 = some false := by kernel_rfl
theorem Try.size3 : sizeT Try.prog 3 = some 1 := by kernel_rfl
theorem Try.one3 : OneT Try.prog 3 (.int .i64 0) := ⟨by kernel_rfl, by kernel_rfl, rfl, of_decide_eq_true (by kernel_rfl)⟩
theorem Try.agg4 : isAggT Try.prog 4 = some false := by kernel_rfl
theorem Try.size4 : sizeT Try.prog 4 = some 1 := by kernel_rfl
theorem Try.one4 : OneT Try.prog 4 (.bool false) := ⟨by kernel_rfl, by kernel_rfl, rfl, of_decide_eq_true (by kernel_rfl)⟩
theorem Try.agg5 : isAggT Try.prog 5 = some false := by kernel_rfl
theorem Try.size5 : sizeT Try.prog 5 = some 1 := by kernel_rfl
theorem Try.one5 : OneT Try.prog 5 (.int .u8 0) := ⟨by kernel_rfl, by kernel_rfl, rfl, of_decide_eq_true (by kernel_rfl)⟩
theorem Try.agg9 : isAggT Try.prog 9 = some false := by kernel_rfl
theorem Try.size9 : sizeT Try.prog 9 = some 1 := by kernel_rfl
theorem Try.agg22 : isAggT Try.prog 22 = some false := by kernel_rfl
theorem Try.size22 : sizeT Try.prog 22 = some 1 := by kernel_rfl
theorem Try.one22 : OneT Try.prog 22 (.slice none 0 0) := ⟨by kernel_rfl, by kernel_rfl, rfl, of_decide_eq_true (by kernel_rfl)⟩
theorem Try.agg23 : isAggT Try.prog 23 = some true := by kernel_rfl
theorem Try.size23 : sizeT Try.prog 23 = some 2 := by kernel_rfl
theorem Try.zero23 : zeroT Try.prog 23 = some (.agg #[.slice none 0 0, .slice none 0 0]) := by kernel_rfl
theorem Try.fld23_0 : fieldT Try.prog 23 0 = some { name := "Next", type := 22, offset := 0, embedded := false, tag := "", pkgPath := "", byteOffset := 0 } := by kernel_rfl
theorem Try.fld23_1 : fieldT Try.prog 23 1 = some { name := "Label", type := 22, offset := 1, embedded := false, tag := "", pkgPath := "", byteOffset := 24 } := by kernel_rfl
theorem Try.places23 : (match Try.prog.underlying 23 with | some (.struct fs) => placesT Try.prog fs | _ => none) = some #[(0, 1), (1, 1)] := by kernel_rfl
theorem Try.agg24 : isAggT Try.prog 24 = some true := by kernel_rfl
theorem Try.size24 : sizeT Try.prog 24 = some 2 := by kernel_rfl
theorem Try.zero24 : zeroT Try.prog 24 = some (.agg #[.slice none 0 0, .slice none 0 0]) := by kernel_rfl
theorem Try.fld24_0 : fieldT Try.prog 24 0 = some { name := "Next", type := 22, offset := 0, embedded := false, tag := "", pkgPath := "", byteOffset := 0 } := by kernel_rfl
theorem Try.fld24_1 : fieldT Try.prog 24 1 = some { name := "Label", type := 22, offset := 1, embedded := false, tag := "", pkgPath := "", byteOffset := 24 } := by kernel_rfl
theorem Try.places24 : (match Try.prog.underlying 24 with | some (.struct fs) => placesT Try.prog fs | _ => none) = some #[(0, 1), (1, 1)] := by kernel_rfl
theorem Try.agg25 : isAggT Try.prog 25 = some false := by kernel_rfl
theorem Try.size25 : sizeT Try.prog 25 = some 1 := by kernel_rfl
theorem Try.one25 : OneT Try.prog 25 (.slice none 0 0) := ⟨by kernel_rfl, by kernel_rfl, rfl, of_decide_eq_true (by kernel_rfl)⟩
theorem Try.agg26 : isAggT Try.prog 26 = some true := by kernel_rfl
theorem Try.size26 : sizeT Try.prog 26 = some 2 := by kernel_rfl
theorem Try.zero26 : zeroT Try.prog 26 = some (.agg #[.string "".toUTF8, .slice none 0 0]) := by kernel_rfl
theorem Try.fld26_0 : fieldT Try.prog 26 0 = some { name := "Op", type := 9, offset := 0, embedded := false, tag := "", pkgPath := "", byteOffset := 0 } := by kernel_rfl
theorem Try.fld26_1 : fieldT Try.prog 26 1 = some { name := "Kids", type := 25, offset := 1, embedded := false, tag := "", pkgPath := "", byteOffset := 16 } := by kernel_rfl
theorem Try.places26 : (match Try.prog.underlying 26 with | some (.struct fs) => placesT Try.prog fs | _ => none) = some #[(0, 1), (1, 1)] := by kernel_rfl
theorem Try.agg27 : isAggT Try.prog 27 = some true := by kernel_rfl
theorem Try.size27 : sizeT Try.prog 27 = some 2 := by kernel_rfl
theorem Try.zero27 : zeroT Try.prog 27 = some (.agg #[.string "".toUTF8, .slice none 0 0]) := by kernel_rfl
theorem Try.fld27_0 : fieldT Try.prog 27 0 = some { name := "Op", type := 9, offset := 0, embedded := false, tag := "", pkgPath := "", byteOffset := 0 } := by kernel_rfl
theorem Try.fld27_1 : fieldT Try.prog 27 1 = some { name := "Kids", type := 25, offset := 1, embedded := false, tag := "", pkgPath := "", byteOffset := 16 } := by kernel_rfl
theorem Try.places27 : (match Try.prog.underlying 27 with | some (.struct fs) => placesT Try.prog fs | _ => none) = some #[(0, 1), (1, 1)] := by kernel_rfl
theorem Try.agg28 : isAggT Try.prog 28 = some false := by kernel_rfl
theorem Try.size28 : sizeT Try.prog 28 = some 1 := by kernel_rfl
theorem Try.one28 : OneT Try.prog 28 (.int .i64 0) := ⟨by kernel_rfl, by kernel_rfl, rfl, of_decide_eq_true (by kernel_rfl)⟩
theorem Try.agg31 : isAggT Try.prog 31 = some true := by kernel_rfl
theorem Try.size31 : sizeT Try.prog 31 = some 2 := by kernel_rfl
theorem Try.zero31 : zeroT Try.prog 31 = some (.agg #[.slice none 0 0, .slice none 0 0]) := by kernel_rfl
theorem Try.fld31_0 : fieldT Try.prog 31 0 = some { name := "Next", type := 22, offset := 0, embedded := false, tag := "", pkgPath := "", byteOffset := 0 } := by kernel_rfl
theorem Try.fld31_1 : fieldT Try.prog 31 1 = some { name := "Label", type := 22, offset := 1, embedded := false, tag := "", pkgPath := "", byteOffset := 24 } := by kernel_rfl
theorem Try.places31 : (match Try.prog.underlying 31 with | some (.struct fs) => placesT Try.prog fs | _ => none) = some #[(0, 1), (1, 1)] := by kernel_rfl
theorem Try.agg33 : isAggT Try.prog 33 = some false := by kernel_rfl
theorem Try.size33 : sizeT Try.prog 33 = some 1 := by kernel_rfl
theorem Try.one33 : OneT Try.prog 33 (.slice none 0 0) := ⟨by kernel_rfl, by kernel_rfl, rfl, of_decide_eq_true (by kernel_rfl)⟩
theorem Try.agg34 : isAggT Try.prog 34 = some true := by kernel_rfl
theorem Try.size34 : sizeT Try.prog 34 = some 2 := by kernel_rfl
theorem Try.zero34 : zeroT Try.prog 34 = some (.agg #[.string "".toUTF8, .slice none 0 0]) := by kernel_rfl
theorem Try.fld34_0 : fieldT Try.prog 34 0 = some { name := "Op", type := 9, offset := 0, embedded := false, tag := "", pkgPath := "", byteOffset := 0 } := by kernel_rfl
theorem Try.fld34_1 : fieldT Try.prog 34 1 = some { name := "Kids", type := 33, offset := 1, embedded := false, tag := "", pkgPath := "", byteOffset := 16 } := by kernel_rfl
theorem Try.places34 : (match Try.prog.underlying 34 with | some (.struct fs) => placesT Try.prog fs | _ => none) = some #[(0, 1), (1, 1)] := by kernel_rfl
theorem Try.agg35 : isAggT Try.prog 35 = some true := by kernel_rfl
theorem Try.size35 : sizeT Try.prog 35 = some 2 := by kernel_rfl
theorem Try.zero35 : zeroT Try.prog 35 = some (.agg #[.string "".toUTF8, .slice none 0 0]) := by kernel_rfl
theorem Try.fld35_0 : fieldT Try.prog 35 0 = some { name := "Op", type := 9, offset := 0, embedded := false, tag := "", pkgPath := "", byteOffset := 0 } := by kernel_rfl
theorem Try.fld35_1 : fieldT Try.prog 35 1 = some { name := "Kids", type := 33, offset := 1, embedded := false, tag := "", pkgPath := "", byteOffset := 16 } := by kernel_rfl
theorem Try.places35 : (match Try.prog.underlying 35 with | some (.struct fs) => placesT Try.prog fs | _ => none) = some #[(0, 1), (1, 1)] := by kernel_rfl
theorem Try.agg52 : isAggT Try.prog 52 = some false := by kernel_rfl
theorem Try.size52 : sizeT Try.prog 52 = some 1 := by kernel_rfl
theorem Try.one52 : OneT Try.prog 52 (.slice none 0 0) := ⟨by kernel_rfl, by kernel_rfl, rfl, of_decide_eq_true (by kernel_rfl)⟩
theorem Try.agg59 : isAggT Try.prog 59 = some true := by kernel_rfl
theorem Try.size59 : sizeT Try.prog 59 = some 2 := by kernel_rfl
theorem Try.zero59 : zeroT Try.prog 59 = some (.agg #[.string "".toUTF8, .string "".toUTF8]) := by kernel_rfl
theorem Try.agg60 : isAggT Try.prog 60 = some true := by kernel_rfl
theorem Try.size60 : sizeT Try.prog 60 = some 6 := by kernel_rfl
theorem Try.zero60 : zeroT Try.prog 60 = some (.agg #[.string "".toUTF8, .string "".toUTF8, .string "".toUTF8, .string "".toUTF8, .string "".toUTF8, .string "".toUTF8]) := by kernel_rfl
theorem Try.agg76 : isAggT Try.prog 76 = some true := by kernel_rfl
theorem Try.size76 : sizeT Try.prog 76 = some 2 := by kernel_rfl
theorem Try.zero76 : zeroT Try.prog 76 = some (.agg #[.int .i64 0, .int .i64 0]) := by kernel_rfl
theorem Try.agg91 : isAggT Try.prog 91 = some true := by kernel_rfl
theorem Try.size91 : sizeT Try.prog 91 = some 3 := by kernel_rfl
theorem Try.zero91 : zeroT Try.prog 91 = some (.agg #[.string "".toUTF8, .int .i64 0, .int .i64 0]) := by kernel_rfl
theorem Try.fld91_0 : fieldT Try.prog 91 0 = some { name := "Op", type := 9, offset := 0, embedded := false, tag := "", pkgPath := "", byteOffset := 0 } := by kernel_rfl
theorem Try.fld91_1 : fieldT Try.prog 91 1 = some { name := "X", type := 3, offset := 1, embedded := false, tag := "", pkgPath := "", byteOffset := 16 } := by kernel_rfl
theorem Try.fld91_2 : fieldT Try.prog 91 2 = some { name := "Y", type := 3, offset := 2, embedded := false, tag := "", pkgPath := "", byteOffset := 24 } := by kernel_rfl
theorem Try.places91 : (match Try.prog.underlying 91 with | some (.struct fs) => placesT Try.prog fs | _ => none) = some #[(0, 1), (1, 1), (2, 1)] := by kernel_rfl
theorem Try.agg100 : isAggT Try.prog 100 = some false := by kernel_rfl
theorem Try.size100 : sizeT Try.prog 100 = some 1 := by kernel_rfl
theorem Try.one100 : OneT Try.prog 100 (.slice none 0 0) := ⟨by kernel_rfl, by kernel_rfl, rfl, of_decide_eq_true (by kernel_rfl)⟩
theorem plainTry_49 : plainFn Try.prog 49 = true := by kernel_rfl
theorem plainTry_47 : plainFn Try.prog 47 = true := by kernel_rfl
theorem plainTry_52 : plainFn Try.prog 52 = true := by kernel_rfl
theorem plainTry_54 : plainFn Try.prog 54 = true := by kernel_rfl
theorem plainTry_58 : plainFn Try.prog 58 = true := by kernel_rfl
theorem plainTry_69 : plainFn Try.prog 69 = true := by kernel_rfl
theorem plainTry_79 : plainFn Try.prog 79 = true := by kernel_rfl
theorem plainTry_60 : plainFn Try.prog 60 = true := by kernel_rfl
theorem plainTry_80 : plainFn Try.prog 80 = true := by kernel_rfl
theorem plainTry_62 : plainFn Try.prog 62 = true := by kernel_rfl
theorem plainTry_81 : plainFn Try.prog 81 = true := by kernel_rfl
set_option maxRecDepth 10000 in
theorem in49 (x lo hi : Int) : DeepCall Try.prog 49 [DI x, DI lo, DI hi] (DB (decide (lo ≤ x) && decide (x ≤ hi))) := by
  refine deepCall_K 5 Try.func49 rfl (Nat.le_of_ble_eq_true rfl) fun M W0 => ?_
  refine KC.seq ?_
  refine KC.region ?_
  refine KT.step rfl rfl (K.assign rfl) ?_
  refine KT.nil ?_
  refine thenK_n ?_
  refine KC.seq ?_
  refine KC.region ?_
  refine KT.step rfl rfl (K.move rfl) ?_
  refine KT.step rfl rfl (K.move rfl) ?_
  refine KT.step rfl rfl (K.leq rfl rfl) ?_
  refine KT.step rfl rfl (K.move rfl) ?_
  refine KT.bcase (fun hb10 => ?_) (fun hb10 => ?_)
  · skip
    replace hb10 := of_decide_eq_true hb10
    refine KT.step rfl rfl (K.move rfl) ?_
    refine KT.step rfl rfl (K.move rfl) ?_
    refine KT.step rfl rfl (K.leq rfl rfl) ?_
    refine KT.step rfl rfl (K.pick rfl (fun _ => rfl) (fun h => by cases h)) ?_
    refine KT.step rfl rfl (K.assign rfl) ?_
    refine KT.nil ?_
    refine thenK_n ?_
    refine KC.ret ?_
    exact ⟨.inl rfl, _, rfl, fin_b (by rw [decide_eq_true hb10, Bool.true_and])⟩
  · skip
    replace hb10 := of_decide_eq_false hb10
    refine KT.skip rfl rfl ?_
    refine KT.skip rfl rfl ?_
    refine KT.skip rfl rfl ?_
    refine KT.step rfl rfl (K.pick rfl (fun h => by cases h) (fun _ => rfl)) ?_
    refine KT.step rfl rfl (K.assign rfl) ?_
    refine KT.nil ?_
    refine thenK_n ?_
    refine KC.ret ?_
    exact ⟨.inl rfl, _, rfl, fin_b (by rw [decide_eq_false hb10]; rfl)⟩
set_option maxRecDepth 10000 in
theorem has47 {s x : Nat} (hs : s < 2 ^ 63) (hx : x < 64) : DeepCall Try.prog 47 [DI (s : Nat), DI (x : Nat)] (DB (s.testBit x)) := by
  refine deepCall_K 5 Try.func47 rfl (Nat.le_of_ble_eq_true rfl) fun M W0 => ?_
  refine KC.seq ?_
  refine KC.region ?_
  refine KT.step rfl rfl (K.assign rfl) ?_
  refine KT.nil ?_
  refine thenK_n ?_
  refine KC.seq ?_
  refine KC.region ?_
  refine KT.step rfl rfl (K.move rfl) ?_
  refine KT.step rfl rfl (K.move rfl) ?_
  refine KT.step rfl rfl (K.shr rfl rfl (by omega) (shrI (a := s) (i := x) hx)) ?_
  refine KT.step rfl rfl (K.band rfl rfl (show IntKind.i64.wrap (BitVec.ofInt IntKind.i64.bits ((s / 2 ^ x : Nat) : Int) &&& BitVec.ofInt IntKind.i64.bits (1 : Int)).toNat = ((s / 2 ^ x &&& 1 : Nat) : Int) from andI (b := 1) (Nat.lt_of_le_of_lt (Nat.div_le_self _ _) hs) (by decide))) ?_
  refine KT.step rfl rfl (K.eql rfl rfl) ?_
  refine KT.step rfl rfl (K.assign rfl) ?_
  refine KT.nil ?_
  refine thenK_n ?_
  refine KC.ret ?_
  exact ⟨.inl rfl, _, rfl, fin_b (bitOne s x).symm⟩
set_option maxRecDepth 10000 in
theorem all52 {dn dl : DV} {nx lb : List Nat} (hS : Str dn dl nx lb) : DeepCall Try.prog 52 [.agg [dn, dl]] (DI (allN nx.length : Nat)) := by
  refine deepCall_K 5 Try.func52 rfl (Nat.le_of_ble_eq_true rfl) fun M W0 => ?_
  refine KC.seq ?_
  refine KC.region ?_
  refine KT.step rfl rfl (K.box rfl) ?_
  refine KT.step rfl rfl (K.assign rfl) ?_
  refine KT.nil ?_
  refine thenK_n ?_
  refine KC.seq ?_
  refine KC.region ?_
  refine KT.step rfl rfl (K.fieldAddrO rfl Try.fld31_0 Try.size22) ?_
  refine KT.step rfl rfl (K.loadO rfl rfl (by simp) rfl Try.agg22) ?_
  refine KT.step rfl rfl (K.len rfl hS.hn Try.underlying22) ?_
  refine KT.step rfl rfl (K.shl rfl rfl (by omega) (shlI (i := nx.length) (by have := hS.n16; omega))) ?_
  have hp := pow_le16 hS.n16
  refine KT.step rfl rfl (K.sub rfl rfl (wrap_id (by have := Nat.two_pow_pos nx.length; omega))) ?_
  refine KT.step rfl rfl (K.assign rfl) ?_
  refine KT.nil ?_
  refine thenK_n ?_
  refine KC.ret ?_
  exact ⟨.inl rfl, _, rfl, fin_d (congrArg DI (allI nx.length).symm)⟩
set_option maxRecDepth 10000 in
theorem not54 {dn dl : DV} {nx lb : List Nat} (hS : Str dn dl nx lb) {x : Nat} (hx : x < 65536) : DeepCall Try.prog 54 [.agg [dn, dl], DI (x : Nat)] (DI (notN nx.length x : Nat)) := by
  refine deepCall_K 5 Try.func54 rfl (Nat.le_of_ble_eq_true rfl) fun M W0 => ?_
  refine KC.seq ?_
  refine KC.region ?_
  refine KT.step rfl rfl (K.box rfl) ?_
  refine KT.step rfl rfl (K.assign rfl) ?_
  refine KT.nil ?_
  refine thenK_n ?_
  refine KC.seq ?_
  refine KC.region ?_
  refine KT.step rfl rfl (K.loadOA ([dn, dl]) rfl rfl (by decide) Try.agg31 Try.size31 rfl) ?_
  refine KT.step rfl rfl (K.call1 rfl plainTry_52 (all52 hS)) ?_
  refine KT.step rfl rfl (K.move rfl) ?_
  refine KT.step rfl rfl (K.bandNot rfl rfl (show IntKind.i64.wrap (BitVec.ofInt IntKind.i64.bits ((allN nx.length : Nat) : Int) &&& ~~~ BitVec.ofInt IntKind.i64.bits ((x : Nat) : Int)).toNat = ((notN nx.length x : Nat) : Int) from diffI (lt63 (pow16 hS.n16 (allN_lt _))) (lt63 hx))) ?_
  refine KT.step rfl rfl (K.assign rfl) ?_
  refine KT.nil ?_
  refine thenK_n ?_
  refine KC.ret ?_
  exact ⟨.inl rfl, _, rfl, fin_d rfl⟩
set_option maxRecDepth 10000 in
theorem before58 {dn dl : DV} {nx lb : List Nat} (hS : Str dn dl nx lb) {x : Nat} (hx : x < 65536) : DeepCall Try.prog 58 [.agg [dn, dl], DI (x : Nat)] (DI (befN nx x : Nat)) := by
  refine deepCall_K 5 Try.func58 rfl (Nat.le_of_ble_eq_true rfl) fun M W0 => ?_
  refine KC.seq ?_
  refine KC.region ?_
  refine KT.step rfl rfl (K.box rfl) ?_
  refine KT.step rfl rfl (K.assign rfl) ?_
  refine KT.nil ?_
  refine thenK_n ?_
  refine KC.seq ?_
  refine KC.region ?_
  refine KT.step rfl rfl (K.assign rfl) ?_
  refine KT.nil ?_
  refine thenK_n ?_
  refine KC.seq ?_
  refine KC.seq ?_
  refine KC.region ?_
  refine KT.step rfl rfl (K.fieldAddrO rfl Try.fld31_0 Try.size22) ?_
  refine KT.step rfl rfl (K.loadO rfl rfl (by simp) rfl Try.agg22) ?_
  refine KT.step rfl rfl (K.len rfl hS.hn Try.underlying22) ?_
  refine KT.step rfl rfl (K.move rfl) ?_
  refine KT.nil ?_
  refine thenK_n ?_
  refine KC.block ?_
  have hln := hS.n16
  have hll := hS.len
  refine KC.loop (fun _ : Nat => [⟨[.d dn, .d dl], 0⟩]) (fun i => [(1, .d (DI (x : Nat))), (2, .optr 0 0), (5, .d (DI (coll (mpN nx x) i : Nat))), (9, .d dn), (10, .d (DI (nx.length : Nat))), (11, .d (DI (i : Nat)))]) (fun i => i ≤ nx.length) (fun i => nx.length - i) 0 (Nat.zero_le _) rfl (by simp [Go.Vm.look, extK, enterK, coll]) ?_
  intro i hi
  refine KC.seq ?_
  refine KC.region ?_
  refine KT.step rfl rfl (K.lss rfl rfl) ?_
  refine KT.nil ?_
  refine thenK_n ?_
  refine KC.seq ?_
  refine KC.cond rfl (fun hc12 => ?_) (fun hc12 => ?_)
  · skip
    replace hc12 := of_decide_eq_true hc12
    refine KC.skip ?_
    refine thenK_n ?_
    refine KC.seq ?_
    refine KC.block ?_
    refine KC.seq ?_
    refine KC.region ?_
    refine KT.step rfl rfl (K.move rfl) ?_
    refine KT.idxNat rfl rfl rfl hS.hn rfl (by omega) Try.underlying22 Try.size3 fun rest => ?_
    refine KT.step rfl rfl (K.load rfl Try.agg3) ?_
    refine KT.step rfl rfl (K.assign rfl) ?_
    refine KT.step rfl rfl (K.assign rfl) ?_
    refine KT.nil ?_
    refine thenK_n ?_
    refine KC.seq ?_
    refine KC.region ?_
    refine KT.step rfl rfl (K.move rfl) ?_
    refine KT.step rfl rfl (K.move rfl) ?_
    refine KT.step rfl rfl (K.band rfl rfl (show IntKind.i64.wrap (BitVec.ofInt IntKind.i64.bits ((nx.getD i 0 : Nat) : Int) &&& BitVec.ofInt IntKind.i64.bits ((x : Nat) : Int)).toNat = ((nx.getD i 0 &&& x : Nat) : Int) from andI (lt63 (hS.hnx i)) (lt63 hx))) ?_
    refine KT.step rfl rfl (K.neq rfl rfl) ?_
    refine KT.nil ?_
    refine thenK_n ?_
    refine KC.cond rfl (fun hc19 => ?_) (fun hc19 => ?_)
    · skip
      replace hc19 := of_decide_eq_true hc19
      have hpi : (mpN nx x) i = true := meet_of hc19
      refine KC.region ?_
      have hcl : coll (mpN nx x) i < 2 ^ i := coll_lt _ _
      have hci : coll (mpN nx x) i < 65536 := pow16 (by omega) hcl
      have hp2 : 2 ^ i < 65536 := Nat.lt_of_lt_of_le (Nat.pow_lt_pow_right (by decide) (show i < 16 by omega)) (by decide)
      refine KT.step rfl rfl (K.move rfl) ?_
      refine KT.step rfl rfl (K.move rfl) ?_
      refine KT.step rfl rfl (K.shl rfl rfl (by omega) (shlI (i := i) (by omega))) ?_
      refine KT.step rfl rfl (K.bor rfl rfl (show IntKind.i64.wrap (BitVec.ofInt IntKind.i64.bits ((coll (mpN nx x) i : Nat) : Int) ||| BitVec.ofInt IntKind.i64.bits ((2 ^ i : Nat) : Int)).toNat = ((coll (mpN nx x) i ||| 2 ^ i : Nat) : Int) from orI (lt63 hci) (lt63 hp2))) ?_
      refine KT.step rfl rfl (K.assign rfl) ?_
      refine KT.nil ?_
      refine blockK_n ?_
      refine thenK_n ?_
      refine KC.region ?_
      refine KT.step rfl rfl (K.add rfl rfl (wrap_id (by omega))) ?_
      refine KT.step rfl rfl (K.move rfl) ?_
      refine KT.nil ?_
      refine thenK_n ?_
      refine ⟨i + 1, by omega, by omega, rfl, by simp [Go.Vm.look, extK, ← coll_yes (p := mpN nx x) (k := i) hpi]⟩
    · skip
      replace hc19 := of_decide_eq_false hc19
      have hpi : (mpN nx x) i = false := meet_not hc19
      refine KC.skip ?_
      refine blockK_n ?_
      refine thenK_n ?_
      refine KC.region ?_
      refine KT.step rfl rfl (K.add rfl rfl (wrap_id (by omega))) ?_
      refine KT.step rfl rfl (K.move rfl) ?_
      refine KT.nil ?_
      refine thenK_n ?_
      refine ⟨i + 1, by omega, by omega, rfl, by simp [Go.Vm.look, extK, ← coll_no (p := mpN nx x) (k := i) hpi]⟩
  · skip
    replace hc12 := of_decide_eq_false hc12
    refine KC.exit ?_
    refine thenK_x ?_
    refine thenK_x ?_
    refine blockK_e ?_
    refine thenK_n ?_
    refine KC.seq ?_
    refine KC.region ?_
    refine KT.step rfl rfl (K.move rfl) ?_
    refine KT.step rfl rfl (K.assign rfl) ?_
    refine KT.nil ?_
    refine thenK_n ?_
    refine KC.ret ?_
    have e : i = nx.length := by omega
    subst e
    exact ⟨.inl rfl, _, rfl, fin_d rfl⟩
set_option maxRecDepth 10000 in
theorem with69 {dn dl : DV} {nx lb : List Nat} (hS : Str dn dl nx lb) {x : Nat} (hx : x < 6) : DeepCall Try.prog 69 [.agg [dn, dl], DI (x : Nat)] (DI (withN lb x : Nat)) := by
  refine deepCall_K 5 Try.func69 rfl (Nat.le_of_ble_eq_true rfl) fun M W0 => ?_
  refine KC.seq ?_
  refine KC.region ?_
  refine KT.step rfl rfl (K.box rfl) ?_
  refine KT.step rfl rfl (K.assign rfl) ?_
  refine KT.nil ?_
  refine thenK_n ?_
  refine KC.seq ?_
  refine KC.region ?_
  refine KT.step rfl rfl (K.assign rfl) ?_
  refine KT.nil ?_
  refine thenK_n ?_
  refine KC.seq ?_
  refine KC.seq ?_
  refine KC.region ?_
  refine KT.step rfl rfl (K.fieldAddrO rfl Try.fld31_1 Try.size22) ?_
  refine KT.step rfl rfl (K.loadO rfl rfl (by simp) rfl Try.agg22) ?_
  refine KT.step rfl rfl (K.len rfl hS.hl Try.underlying22) ?_
  refine KT.step rfl rfl (K.move rfl) ?_
  refine KT.nil ?_
  refine thenK_n ?_
  refine KC.block ?_
  have hln := hS.n16
  have hll := hS.len
  refine KC.loop (fun _ : Nat => [⟨[.d dn, .d dl], 0⟩]) (fun i => [(1, .d (DI (x : Nat))), (2, .optr 0 0), (5, .d (DI (coll (wpN lb x) i : Nat))), (9, .d dl), (10, .d (DI (lb.length : Nat))), (11, .d (DI (i : Nat)))]) (fun i => i ≤ lb.length) (fun i => lb.length - i) 0 (Nat.zero_le _) rfl (by simp [Go.Vm.look, extK, enterK, coll]) ?_
  intro i hi
  refine KC.seq ?_
  refine KC.region ?_
  refine KT.step rfl rfl (K.lss rfl rfl) ?_
  refine KT.nil ?_
  refine thenK_n ?_
  refine KC.seq ?_
  refine KC.cond rfl (fun hc12 => ?_) (fun hc12 => ?_)
  · skip
    replace hc12 := of_decide_eq_true hc12
    refine KC.skip ?_
    refine thenK_n ?_
    refine KC.seq ?_
    refine KC.block ?_
    refine KC.seq ?_
    refine KC.region ?_
    refine KT.step rfl rfl (K.move rfl) ?_
    refine KT.idxNat rfl rfl rfl hS.hl rfl (by omega) Try.underlying22 Try.size3 fun rest => ?_
    refine KT.step rfl rfl (K.load rfl Try.agg3) ?_
    refine KT.step rfl rfl (K.assign rfl) ?_
    refine KT.step rfl rfl (K.assign rfl) ?_
    refine KT.nil ?_
    refine thenK_n ?_
    refine KC.seq ?_
    refine KC.region ?_
    refine KT.step rfl rfl (K.move rfl) ?_
    refine KT.step rfl rfl (K.move rfl) ?_
    refine KT.step rfl rfl (K.call2 rfl rfl plainTry_47 (has47 (lt63 (hS.hlb i)) (by omega))) ?_
    refine KT.nil ?_
    refine thenK_n ?_
    refine KC.cond rfl (fun hc18 => ?_) (fun hc18 => ?_)
    · skip
      have hpi : (wpN lb x) i = true := hc18
      refine KC.region ?_
      have hcl : coll (wpN lb x) i < 2 ^ i := coll_lt _ _
      have hci : coll (wpN lb x) i < 65536 := pow16 (by omega) hcl
      have hp2 : 2 ^ i < 65536 := Nat.lt_of_lt_of_le (Nat.pow_lt_pow_right (by decide) (show i < 16 by omega)) (by decide)
      refine KT.step rfl rfl (K.move rfl) ?_
      refine KT.step rfl rfl (K.move rfl) ?_
      refine KT.step rfl rfl (K.shl rfl rfl (by omega) (shlI (i := i) (by omega))) ?_
      refine KT.step rfl rfl (K.bor rfl rfl (show IntKind.i64.wrap (BitVec.ofInt IntKind.i64.bits ((coll (wpN lb x) i : Nat) : Int) ||| BitVec.ofInt IntKind.i64.bits ((2 ^ i : Nat) : Int)).toNat = ((coll (wpN lb x) i ||| 2 ^ i : Nat) : Int) from orI (lt63 hci) (lt63 hp2))) ?_
      refine KT.step rfl rfl (K.assign rfl) ?_
      refine KT.nil ?_
      refine blockK_n ?_
      refine thenK_n ?_
      refine KC.region ?_
      refine KT.step rfl rfl (K.add rfl rfl (wrap_id (by omega))) ?_
      refine KT.step rfl rfl (K.move rfl) ?_
      refine KT.nil ?_
      refine thenK_n ?_
      refine ⟨i + 1, by omega, by omega, rfl, by simp [Go.Vm.look, extK, ← coll_yes (p := wpN lb x) (k := i) hpi]⟩
    · skip
      have hpi : (wpN lb x) i = false := hc18
      refine KC.skip ?_
      refine blockK_n ?_
      refine thenK_n ?_
      refine KC.region ?_
      refine KT.step rfl rfl (K.add rfl rfl (wrap_id (by omega))) ?_
      refine KT.step rfl rfl (K.move rfl) ?_
      refine KT.nil ?_
      refine thenK_n ?_
      refine ⟨i + 1, by omega, by omega, rfl, by simp [Go.Vm.look, extK, ← coll_no (p := wpN lb x) (k := i) hpi]⟩
  · skip
    replace hc12 := of_decide_eq_false hc12
    refine KC.exit ?_
    refine thenK_x ?_
    refine thenK_x ?_
    refine blockK_e ?_
    refine thenK_n ?_
    refine KC.seq ?_
    refine KC.region ?_
    refine KT.step rfl rfl (K.move rfl) ?_
    refine KT.step rfl rfl (K.assign rfl) ?_
    refine KT.nil ?_
    refine thenK_n ?_
    refine KC.ret ?_
    have e : i = lb.length := by omega
    subst e
    exact ⟨.inl rfl, _, rfl, fin_d rfl⟩
end Go.Proofs.Ytcjcchceeidgkaa

