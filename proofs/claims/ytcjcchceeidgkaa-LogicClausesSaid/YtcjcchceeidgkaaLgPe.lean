import Derived.Test.YtcjcchceeidgkaaLgPd
/-
  Logic: the reference's Witness.
-/
namespace Go.Proofs.Ytcjcchceeidgkaa
open Go.Vm Go.Lg
set_option maxRecDepth 10000 in
theorem rwit_no {dn dl : DV} {nx lb : List Nat} (hS : Str dn dl nx lb) {kd : DV} {op : ByteArray} {ks : List Fo} {dQ : DV} {Q : List Int} {lp : Int} (hQ : Ints dQ Q) (hl : Q.length ≤ 9223372036854775807) (hf : fitsB nx Q lp = false) : DeepCall Try.prog 19 [.agg [dn, dl], .agg [.lit (.string op), kd], .agg [dQ, DI lp]] (DB false) := by
  refine deepCall_K 5 Try.func19 rfl (Nat.le_of_ble_eq_true rfl) fun M W0 => ?_
  refine KC.seq ?_
  refine KC.region ?_
  refine KT.step rfl rfl (K.box rfl) ?_
  refine KT.step rfl rfl (K.box rfl) ?_
  refine KT.step rfl rfl (K.box rfl) ?_
  refine KT.step rfl rfl (K.assign rfl) ?_
  refine KT.nil ?_
  refine thenK_n ?_
  refine KC.seq ?_
  refine KC.seq ?_
  refine KC.region ?_
  refine KT.step rfl rfl (K.loadOA ([dn, dl]) rfl rfl (by decide) Try.agg24 Try.size24 rfl) ?_
  refine KT.step rfl rfl (K.loadOA ([dQ, DI lp]) rfl rfl (by decide) Try.agg43 Try.size43 rfl) ?_
  refine KT.step rfl rfl (K.call2 rfl rfl plainTry_42 (hf ▸ rfits42 hS hQ hl)) ?_
  refine KT.step rfl rfl (K.not rfl) ?_
  refine KT.nil ?_
  refine thenK_n ?_
  refine KC.cond rfl (fun hc19 => ?_) (fun hc19 => ?_)
  · skip
    refine KC.seq ?_
    refine KC.region ?_
    refine KT.step rfl rfl (K.assign rfl) ?_
    refine KT.nil ?_
    refine thenK_n ?_
    refine KC.ret ?_
    refine thenK_r ?_
    exact ⟨.inl rfl, _, rfl, fin_b rfl⟩
  · cases hc19
set_option maxRecDepth 10000 in
theorem rwit_yes {dn dl : DV} {nx lb : List Nat} (hS : Str dn dl nx lb) (ht : Tot nx) {kd : DV} {op : ByteArray} {ks : List Fo} {cs : List DV} {cap : Option Nat} {Q : List Int} {lp : Int} {x y : Nat} (hk : KidsD kd ks) (hQ : Ints (.sl cs Q.length cap) Q) (hn : cs.length = Q.length) (hl : Q.length ≤ 9223372036854775807)
    (hf : fitsB nx Q lp = true) (hw : ∀ k ∈ ks, wfF k = true) (h0 : 0 < ks.length) (h1' : op = EU' → 1 < ks.length) (hxe : (satL nx lb ks).getD 0 0 = x) (hye : (satL nx lb ks).getD 1 0 = y) :
    DeepCall Try.prog 19 [.agg [dn, dl], .agg [.lit (.string op), kd], .agg [.sl cs Q.length cap, DI lp]] (DB (showB op Q lp x y)) := by
  have h16 := hS.n16
  have hin := fits_in hf
  obtain ⟨g1, g2, g3, g4⟩ := headB_iff.1 (fits_all hf).1
  have hx6 : x < 65536 := hxe ▸ pow16 hS.n16 (satL_lt hS.len ks 0)
  have hy6 : y < 65536 := hye ▸ pow16 hS.n16 (satL_lt hS.len ks 1)
  refine deepCall_K 5 Try.func19 rfl (Nat.le_of_ble_eq_true rfl) fun M W0 => ?_
  refine KC.seq ?_
  refine KC.region ?_
  refine KT.step rfl rfl (K.box rfl) ?_
  refine KT.step rfl rfl (K.box rfl) ?_
  refine KT.step rfl rfl (K.box rfl) ?_
  refine KT.step rfl rfl (K.assign rfl) ?_
  refine KT.nil ?_
  refine thenK_n ?_
  refine KC.seq ?_
  refine KC.seq ?_
  refine KC.region ?_
  refine KT.step rfl rfl (K.loadOA ([dn, dl]) rfl rfl (by decide) Try.agg24 Try.size24 rfl) ?_
  refine KT.step rfl rfl (K.loadOA ([.sl cs Q.length cap, DI lp]) rfl rfl (by decide) Try.agg43 Try.size43 rfl) ?_
  refine KT.step rfl rfl (K.call2 rfl rfl plainTry_42 (hf ▸ rfits42 hS hQ hl)) ?_
  refine KT.step rfl rfl (K.not rfl) ?_
  refine KT.nil ?_
  refine thenK_n ?_
  refine KC.cond rfl (fun hc19 => ?_) (fun hc19 => ?_)
  · cases hc19
  · skip
    refine KC.skip ?_
    refine thenK_n ?_
    refine KC.seq ?_
    refine KC.draw Try.mixed ?_
    refine KT.step rfl rfl (K.loadOA ([dn, dl]) rfl rfl (by decide) Try.agg24 Try.size24 rfl) ?_
    refine KT.step rfl rfl (K.fieldAddrO rfl Try.fld27_1 Try.size25) ?_
    refine KT.step rfl rfl (K.loadO rfl rfl (by simp) rfl Try.agg25) ?_
    refine KT.idxKid (m := 0) rfl rfl rfl hk rfl h0 Try.underlying25 Try.size27 fun op1 ks1 kd1 rest hq1 hq2 => ?_
    refine KT.step rfl rfl (K.loadAgg (cs := .lit (.string op1) :: kd1 :: rest) (m := 2) rfl Try.agg27 Try.size27 (by simp)) ?_
    have hA : DeepCall Try.prog 15 [.agg [dn, dl], .agg [.lit (.string op1), kd1]] (DI (x : Nat)) := by rw [← hxe, satL_get hq1]; exact rsat15 hS ht op1 ks1 kd1 (hw _ (List.mem_of_getElem? hq1)) hq2
    refine KT.step rfl rfl (K.call2 rfl rfl plainTry_15 hA) ?_
    refine KT.step rfl rfl (K.assign rfl) ?_
    refine KT.nil ?_
    refine ⟨by kernel_rfl, ?_⟩
    refine thenK_n ?_
    refine KC.seq ?_
    refine KC.seq ?_
    refine KC.region ?_
    refine KT.step rfl rfl (K.fieldAddrO rfl Try.fld27_0 Try.size9) ?_
    refine KT.step rfl rfl (K.loadO rfl rfl (by simp) rfl Try.agg9) ?_
    refine KT.step rfl rfl (K.eqlS rfl rfl) ?_
    refine KT.nil ?_
    refine thenK_n ?_
    refine KC.cond rfl (fun hc28 => ?_) (fun hc28 => ?_)
    · skip
      replace hc28 := of_decide_eq_true hc28
      refine KC.seq ?_
      refine KC.draw Try.mixed ?_
      refine KT.step rfl rfl (K.move rfl) ?_
      refine KT.step rfl rfl (K.fieldAddrO rfl Try.fld43_0 Try.size22) ?_
      refine KT.step rfl rfl (K.loadO rfl rfl (by simp) rfl Try.agg22) ?_
      refine KT.step rfl rfl (K.fieldAddrO rfl Try.fld43_0 Try.size22) ?_
      refine KT.step rfl rfl (K.loadO rfl rfl (by simp) rfl Try.agg22) ?_
      refine KT.step rfl rfl (K.len rfl hQ Try.underlying22) ?_
      refine KT.step rfl rfl (K.fieldAddrO rfl Try.fld43_0 Try.size22) ?_
      refine KT.step rfl rfl (K.loadO rfl rfl (by simp) rfl Try.agg22) ?_
      refine KT.step rfl rfl (K.len rfl hQ Try.underlying22) ?_
      refine KT.step rfl rfl (K.slice3 rfl rfl rfl hn Try.underlying22 Try.size3) ?_
      refine KT.step rfl rfl (K.fieldAddrO rfl Try.fld43_0 Try.size22) ?_
      refine KT.step rfl rfl (K.loadO rfl rfl (by simp) rfl Try.agg22) ?_
      refine KT.step rfl rfl (K.fieldAddrO rfl Try.fld43_1 Try.size3) ?_
      refine KT.step rfl rfl (K.loadO rfl rfl (by simp) rfl Try.agg3) ?_
      refine KT.idxD (m := lp.toNat) rfl rfl rfl hQ rfl (Int.toNat_of_nonneg g3).symm (by omega) Try.underlying22 Try.size3 fun rest => ?_
      refine KT.step rfl rfl (K.load rfl Try.agg3) ?_
      refine KT.step rfl rfl (K.build1' rfl rfl Try.underlying22 Try.one3) ?_
      refine KT.step rfl rfl (K.appFull rfl rfl rfl hn rfl (by omega) Try.underlying22 Try.one3) ?_
      refine KT.step rfl rfl (K.idxO (m := 1) rfl rfl (by omega) Try.underlying22 Try.size3) ?_
      have haft : 0 ≤ aft Q lp 0 ∧ aft Q lp 0 < 64 := by
        unfold aft
        split
        · have := hin (0 + 1) (by omega); omega
        · have := hin lp.toNat (by omega); omega
      refine KT.step rfl rfl (K.loadO rfl rfl (by simp) (cell1 hn hQ g1) Try.agg3) ?_
      refine KT.step rfl rfl (K.shr rfl rfl (haft).1 (shrII (haft))) ?_
      refine KT.step rfl rfl (K.band rfl rfl (show IntKind.i64.wrap (BitVec.ofInt IntKind.i64.bits ((x / 2 ^ (aft Q lp 0).toNat : Nat) : Int) &&& BitVec.ofInt IntKind.i64.bits (1 : Int)).toNat = ((x / 2 ^ (aft Q lp 0).toNat &&& 1 : Nat) : Int) from andI (b := 1) (Nat.lt_of_le_of_lt (Nat.div_le_self _ _) (lt63 hx6)) (by decide))) ?_
      refine KT.step rfl rfl (K.eql rfl rfl) ?_
      refine KT.step rfl rfl (K.assign rfl) ?_
      refine KT.nil ?_
      refine ⟨by kernel_rfl, ?_⟩
      refine thenK_n ?_
      refine KC.ret ?_
      refine thenK_r ?_
      exact ⟨.inl rfl, _, rfl, fin_b (by unfold showB; rw [if_pos (show op = EX' from hc28)]; exact bit_is.symm)⟩
    · skip
      replace hc28 := of_decide_eq_false hc28
      refine KC.skip ?_
      refine thenK_n ?_
      refine KC.seq ?_
      refine KC.seq ?_
      refine KC.region ?_
      refine KT.step rfl rfl (K.fieldAddrO rfl Try.fld27_0 Try.size9) ?_
      refine KT.step rfl rfl (K.loadO rfl rfl (by simp) rfl Try.agg9) ?_
      refine KT.step rfl rfl (K.eqlS rfl rfl) ?_
      refine KT.nil ?_
      refine thenK_n ?_
      refine KC.cond rfl (fun hc54 => ?_) (fun hc54 => ?_)
      · skip
        replace hc54 := of_decide_eq_true hc54
        refine KC.seq ?_
        refine KC.draw Try.mixed ?_
        refine KT.step rfl rfl (K.loadOA ([dn, dl]) rfl rfl (by decide) Try.agg24 Try.size24 rfl) ?_
        refine KT.step rfl rfl (K.fieldAddrO rfl Try.fld27_1 Try.size25) ?_
        refine KT.step rfl rfl (K.loadO rfl rfl (by simp) rfl Try.agg25) ?_
        have h1 := h1' hc54
        refine KT.idxKid (m := 1) rfl rfl rfl hk rfl h1 Try.underlying25 Try.size27 fun op1 ks1 kd1 rest hq1 hq2 => ?_
        refine KT.step rfl rfl (K.loadAgg (cs := .lit (.string op1) :: kd1 :: rest) (m := 2) rfl Try.agg27 Try.size27 (by simp)) ?_
        have hA : DeepCall Try.prog 15 [.agg [dn, dl], .agg [.lit (.string op1), kd1]] (DI (y : Nat)) := by rw [← hye, satL_get hq1]; exact rsat15 hS ht op1 ks1 kd1 (hw _ (List.mem_of_getElem? hq1)) hq2
        refine KT.step rfl rfl (K.call2 rfl rfl plainTry_15 hA) ?_
        refine KT.step rfl rfl (K.assign rfl) ?_
        refine KT.nil ?_
        refine ⟨by kernel_rfl, ?_⟩
        refine thenK_n ?_
        refine KC.seq ?_
        refine KC.seq ?_
        refine KC.region ?_
        refine KT.step rfl rfl (K.fieldAddrO rfl Try.fld43_0 Try.size22) ?_
        refine KT.step rfl rfl (K.loadO rfl rfl (by simp) rfl Try.agg22) ?_
        refine KT.step rfl rfl (K.len rfl hQ Try.underlying22) ?_
        refine KT.step rfl rfl (K.move rfl) ?_
        refine KT.nil ?_
        refine thenK_n ?_
        refine KC.block ?_
        refine KC.loop (fun _ : Nat => [⟨[.d dn, .d dl], 0⟩, ⟨[.d (.lit (.string op)), .d kd], 0⟩, ⟨[.d (.sl cs Q.length cap), .d (DI lp)], 0⟩]) (fun i => [(7, .d (DI (x : Nat))), (8, .d (DI (y : Nat))), (62, .d (.sl cs Q.length cap)), (63, .d (DI (Q.length : Nat))), (64, .d (DI (i : Nat)))]) (fun i => i ≤ Q.length ∧ untQ x y (Q.drop i) = untQ x y Q) (fun i => Q.length - i) 0 ⟨Nat.zero_le _, rfl⟩ rfl (by simp [Go.Vm.look, extK, enterK]) ?_
        intro i hi
        obtain ⟨hi, hun⟩ := hi
        refine KC.seq ?_
        refine KC.region ?_
        refine KT.step rfl rfl (K.lss rfl rfl) ?_
        refine KT.nil ?_
        refine thenK_n ?_
        refine KC.seq ?_
        refine KC.cond rfl (fun hc65 => ?_) (fun hc65 => ?_)
        · skip
          replace hc65 := of_decide_eq_true hc65
          refine KC.skip ?_
          refine thenK_n ?_
          refine KC.seq ?_
          refine KC.block ?_
          refine KC.seq ?_
          refine KC.region ?_
          refine KT.idxD (m := i) rfl rfl rfl hQ rfl rfl (by omega) Try.underlying22 Try.size3 fun rest => ?_
          refine KT.step rfl rfl (K.load rfl Try.agg3) ?_
          refine KT.step rfl rfl (K.assign rfl) ?_
          refine KT.nil ?_
          refine thenK_n ?_
          refine KC.seq ?_
          refine KC.seq ?_
          refine KC.region ?_
          refine KT.step rfl rfl (K.move rfl) ?_
          refine KT.step rfl rfl (K.move rfl) ?_
          have hi6 : 0 ≤ Q.getD i 0 ∧ Q.getD i 0 < 64 := by have := hin i (by omega); omega
          refine KT.step rfl rfl (K.shr rfl rfl (hi6).1 (shrII (hi6))) ?_
          refine KT.step rfl rfl (K.band rfl rfl (show IntKind.i64.wrap (BitVec.ofInt IntKind.i64.bits ((y / 2 ^ (Q.getD i 0).toNat : Nat) : Int) &&& BitVec.ofInt IntKind.i64.bits (1 : Int)).toNat = ((y / 2 ^ (Q.getD i 0).toNat &&& 1 : Nat) : Int) from andI (b := 1) (Nat.lt_of_le_of_lt (Nat.div_le_self _ _) (lt63 hy6)) (by decide))) ?_
          refine KT.step rfl rfl (K.eql rfl rfl) ?_
          refine KT.nil ?_
          refine thenK_n ?_
          refine KC.cond rfl (fun hc72 => ?_) (fun hc72 => ?_)
          · skip
            replace hc72 := of_decide_eq_true hc72
            refine KC.seq ?_
            refine KC.region ?_
            refine KT.step rfl rfl (K.assign rfl) ?_
            refine KT.nil ?_
            refine thenK_n ?_
            refine KC.ret ?_
            refine thenK_r ?_
            refine blockK_r ?_
            refine thenK_r ?_
            refine thenK_r ?_
            refine blockK_r ?_
            refine thenK_r ?_
            refine thenK_r ?_
            exact ⟨.inl rfl, _, rfl, fin_b (by unfold showB; rw [if_neg (show ¬ op = EX' from hc28), if_neg (show ¬ op = EF' from fun e => by rw [show op = EU' from hc54] at e; exact absurd e (by decide)), if_pos (show op = EU' from hc54), ← hun, unt_step_y (by omega) (by rw [← bit_is]; exact decide_eq_true hc72)])⟩
          · skip
            replace hc72 := of_decide_eq_false hc72
            refine KC.skip ?_
            refine thenK_n ?_
            refine KC.seq ?_
            refine KC.region ?_
            refine KT.step rfl rfl (K.move rfl) ?_
            refine KT.step rfl rfl (K.move rfl) ?_
            refine KT.step rfl rfl (K.shr rfl rfl (hi6).1 (shrII (hi6))) ?_
            refine KT.step rfl rfl (K.band rfl rfl (show IntKind.i64.wrap (BitVec.ofInt IntKind.i64.bits ((x / 2 ^ (Q.getD i 0).toNat : Nat) : Int) &&& BitVec.ofInt IntKind.i64.bits (1 : Int)).toNat = ((x / 2 ^ (Q.getD i 0).toNat &&& 1 : Nat) : Int) from andI (b := 1) (Nat.lt_of_le_of_lt (Nat.div_le_self _ _) (lt63 hx6)) (by decide))) ?_
            refine KT.step rfl rfl (K.eql rfl rfl) ?_
            refine KT.nil ?_
            refine thenK_n ?_
            refine KC.cond rfl (fun hc77 => ?_) (fun hc77 => ?_)
            · skip
              replace hc77 := of_decide_eq_true hc77
              refine KC.seq ?_
              refine KC.region ?_
              refine KT.step rfl rfl (K.assign rfl) ?_
              refine KT.nil ?_
              refine thenK_n ?_
              refine KC.ret ?_
              refine blockK_r ?_
              refine thenK_r ?_
              refine thenK_r ?_
              refine blockK_r ?_
              refine thenK_r ?_
              refine thenK_r ?_
              exact ⟨.inl rfl, _, rfl, fin_b (by unfold showB; rw [if_neg (show ¬ op = EX' from hc28), if_neg (show ¬ op = EF' from fun e => by rw [show op = EU' from hc54] at e; exact absurd e (by decide)), if_pos (show op = EU' from hc54), ← hun, unt_step_no (by omega) (by rw [← bit_is]; exact decide_eq_false hc72) (bit_no hc77)])⟩
            · skip
              replace hc77 := of_decide_eq_false hc77
              refine KC.skip ?_
              refine blockK_n ?_
              refine thenK_n ?_
              refine KC.region ?_
              refine KT.step rfl rfl (K.add rfl rfl (wrap_id (by omega))) ?_
              refine KT.step rfl rfl (K.move rfl) ?_
              refine KT.nil ?_
              refine thenK_n ?_
              refine ⟨i + 1, ⟨by omega, ?_⟩, by omega, rfl, by simp [Go.Vm.look, extK]⟩
              rw [← hun, unt_step (by omega) _ (bit_yes hc77)]
              rw [← bit_is]; exact decide_eq_false hc72
        · skip
          replace hc65 := of_decide_eq_false hc65
          refine KC.exit ?_
          refine thenK_x ?_
          refine thenK_x ?_
          refine blockK_e ?_
          refine thenK_n ?_
          refine KC.seq ?_
          refine KC.region ?_
          refine KT.step rfl rfl (K.assign rfl) ?_
          refine KT.nil ?_
          refine thenK_n ?_
          refine KC.ret ?_
          refine thenK_r ?_
          exact ⟨.inl rfl, _, rfl, fin_b (by unfold showB; rw [if_neg (show ¬ op = EX' from hc28), if_neg (show ¬ op = EF' from fun e => by rw [show op = EU' from hc54] at e; exact absurd e (by decide)), if_pos (show op = EU' from hc54), ← hun, List.drop_eq_nil_of_le (by omega)]; rfl)⟩
      · skip
        replace hc54 := of_decide_eq_false hc54
        refine KC.skip ?_
        refine thenK_n ?_
        refine KC.seq ?_
        refine KC.region ?_
        refine KT.step rfl rfl (K.assign rfl) ?_
        refine KT.step rfl rfl (K.assign rfl) ?_
        refine KT.nil ?_
        refine thenK_n ?_
        refine KC.seq ?_
        refine KC.seq ?_
        refine KC.region ?_
        refine KT.step rfl rfl (K.fieldAddrO rfl Try.fld43_0 Try.size22) ?_
        refine KT.step rfl rfl (K.loadO rfl rfl (by simp) rfl Try.agg22) ?_
        refine KT.step rfl rfl (K.len rfl hQ Try.underlying22) ?_
        refine KT.step rfl rfl (K.move rfl) ?_
        refine KT.nil ?_
        refine thenK_n ?_
        refine KC.block ?_
        refine KC.loop (fun _ : Nat => [⟨[.d dn, .d dl], 0⟩, ⟨[.d (.lit (.string op)), .d kd], 0⟩, ⟨[.d (.sl cs Q.length cap), .d (DI lp)], 0⟩]) (fun i => [(4, .optr 1 0), (7, .d (DI (x : Nat))), (11, .d (DB ((Q.take i).any (tb x)))), (12, .d (DB ((Q.take i).all (tb x)))), (80, .d (.sl cs Q.length cap)), (81, .d (DI (Q.length : Nat))), (82, .d (DI (i : Nat)))]) (fun i => i ≤ Q.length) (fun i => Q.length - i) 0 (Nat.zero_le _) rfl (by simp [Go.Vm.look, extK, enterK]) ?_
        intro i hi
        refine KC.seq ?_
        refine KC.region ?_
        refine KT.step rfl rfl (K.lss rfl rfl) ?_
        refine KT.nil ?_
        refine thenK_n ?_
        refine KC.seq ?_
        refine KC.cond rfl (fun hc83 => ?_) (fun hc83 => ?_)
        · skip
          replace hc83 := of_decide_eq_true hc83
          refine KC.skip ?_
          refine thenK_n ?_
          refine KC.seq ?_
          refine KC.block ?_
          refine KC.seq ?_
          refine KC.region ?_
          refine KT.idxD (m := i) rfl rfl rfl hQ rfl rfl (by omega) Try.underlying22 Try.size3 fun rest => ?_
          refine KT.step rfl rfl (K.load rfl Try.agg3) ?_
          refine KT.step rfl rfl (K.assign rfl) ?_
          refine KT.nil ?_
          refine thenK_n ?_
          refine KC.seq ?_
          refine KC.region ?_
          refine KT.step rfl rfl (K.move rfl) ?_
          refine KT.step rfl rfl (K.move rfl) ?_
          have hi6 : 0 ≤ Q.getD i 0 ∧ Q.getD i 0 < 64 := by have := hin i (by omega); omega
          refine KT.step rfl rfl (K.shr rfl rfl (hi6).1 (shrII (hi6))) ?_
          refine KT.step rfl rfl (K.band rfl rfl (show IntKind.i64.wrap (BitVec.ofInt IntKind.i64.bits ((x / 2 ^ (Q.getD i 0).toNat : Nat) : Int) &&& BitVec.ofInt IntKind.i64.bits (1 : Int)).toNat = ((x / 2 ^ (Q.getD i 0).toNat &&& 1 : Nat) : Int) from andI (b := 1) (Nat.lt_of_le_of_lt (Nat.div_le_self _ _) (lt63 hx6)) (by decide))) ?_
          refine KT.step rfl rfl (K.eql rfl rfl) ?_
          refine KT.step rfl rfl (K.assign rfl) ?_
          refine KT.nil ?_
          refine thenK_n ?_
          refine KC.region ?_
          refine KT.step rfl rfl (K.move rfl) ?_
          refine KT.step rfl rfl (K.move rfl) ?_
          refine KT.bcase (fun hb92 => ?_) (fun hb92 => ?_)
          · skip
            refine KT.skip rfl rfl ?_
            refine KT.step rfl rfl (K.pick rfl (fun _ => rfl) (fun h => by cases h)) ?_
            refine KT.step rfl rfl (K.move rfl) ?_
            refine KT.step rfl rfl (K.move rfl) ?_
            refine KT.bcase (fun hb96 => ?_) (fun hb96 => ?_)
            · skip
              refine KT.step rfl rfl (K.move rfl) ?_
              refine KT.step rfl rfl (K.pick rfl (fun _ => rfl) (fun h => by cases h)) ?_
              refine KT.step rfl rfl (K.assign rfl) ?_
              refine KT.step rfl rfl (K.assign rfl) ?_
              refine KT.nil ?_
              refine blockK_n ?_
              refine thenK_n ?_
              refine KC.region ?_
              refine KT.step rfl rfl (K.add rfl rfl (wrap_id (by omega))) ?_
              refine KT.step rfl rfl (K.move rfl) ?_
              refine KT.nil ?_
              refine thenK_n ?_
              have ea := any_step (p := tb x) (l := Q) (i := i) (by omega)
              have eb := all_step (p := tb x) (l := Q) (i := i) (by omega)
              rw [hb92] at ea
              rw [hb96] at eb
              simp only [Bool.true_or, Bool.false_or, Bool.true_and, Bool.false_and, ← bit_is] at ea eb
              refine ⟨i + 1, by omega, by omega, rfl, by simp only [Go.Vm.look, extK, ea, eb]; simp [Go.Vm.look, extK]⟩
            · skip
              refine KT.skip rfl rfl ?_
              refine KT.step rfl rfl (K.pick rfl (fun h => by cases h) (fun _ => rfl)) ?_
              refine KT.step rfl rfl (K.assign rfl) ?_
              refine KT.step rfl rfl (K.assign rfl) ?_
              refine KT.nil ?_
              refine blockK_n ?_
              refine thenK_n ?_
              refine KC.region ?_
              refine KT.step rfl rfl (K.add rfl rfl (wrap_id (by omega))) ?_
              refine KT.step rfl rfl (K.move rfl) ?_
              refine KT.nil ?_
              refine thenK_n ?_
              have ea := any_step (p := tb x) (l := Q) (i := i) (by omega)
              have eb := all_step (p := tb x) (l := Q) (i := i) (by omega)
              rw [hb92] at ea
              rw [hb96] at eb
              simp only [Bool.true_or, Bool.false_or, Bool.true_and, Bool.false_and, ← bit_is] at ea eb
              refine ⟨i + 1, by omega, by omega, rfl, by simp only [Go.Vm.look, extK, ea, eb]; simp [Go.Vm.look, extK]⟩
          · skip
            refine KT.step rfl rfl (K.move rfl) ?_
            refine KT.step rfl rfl (K.pick rfl (fun h => by cases h) (fun _ => rfl)) ?_
            refine KT.step rfl rfl (K.move rfl) ?_
            refine KT.step rfl rfl (K.move rfl) ?_
            refine KT.bcase (fun hb96 => ?_) (fun hb96 => ?_)
            · skip
              refine KT.step rfl rfl (K.move rfl) ?_
              refine KT.step rfl rfl (K.pick rfl (fun _ => rfl) (fun h => by cases h)) ?_
              refine KT.step rfl rfl (K.assign rfl) ?_
              refine KT.step rfl rfl (K.assign rfl) ?_
              refine KT.nil ?_
              refine blockK_n ?_
              refine thenK_n ?_
              refine KC.region ?_
              refine KT.step rfl rfl (K.add rfl rfl (wrap_id (by omega))) ?_
              refine KT.step rfl rfl (K.move rfl) ?_
              refine KT.nil ?_
              refine thenK_n ?_
              have ea := any_step (p := tb x) (l := Q) (i := i) (by omega)
              have eb := all_step (p := tb x) (l := Q) (i := i) (by omega)
              rw [hb92] at ea
              rw [hb96] at eb
              simp only [Bool.true_or, Bool.false_or, Bool.true_and, Bool.false_and, ← bit_is] at ea eb
              refine ⟨i + 1, by omega, by omega, rfl, by simp only [Go.Vm.look, extK, ea, eb]; simp [Go.Vm.look, extK]⟩
            · skip
              refine KT.skip rfl rfl ?_
              refine KT.step rfl rfl (K.pick rfl (fun h => by cases h) (fun _ => rfl)) ?_
              refine KT.step rfl rfl (K.assign rfl) ?_
              refine KT.step rfl rfl (K.assign rfl) ?_
              refine KT.nil ?_
              refine blockK_n ?_
              refine thenK_n ?_
              refine KC.region ?_
              refine KT.step rfl rfl (K.add rfl rfl (wrap_id (by omega))) ?_
              refine KT.step rfl rfl (K.move rfl) ?_
              refine KT.nil ?_
              refine thenK_n ?_
              have ea := any_step (p := tb x) (l := Q) (i := i) (by omega)
              have eb := all_step (p := tb x) (l := Q) (i := i) (by omega)
              rw [hb92] at ea
              rw [hb96] at eb
              simp only [Bool.true_or, Bool.false_or, Bool.true_and, Bool.false_and, ← bit_is] at ea eb
              refine ⟨i + 1, by omega, by omega, rfl, by simp only [Go.Vm.look, extK, ea, eb]; simp [Go.Vm.look, extK]⟩
        · skip
          replace hc83 := of_decide_eq_false hc83
          refine KC.exit ?_
          refine thenK_x ?_
          refine thenK_x ?_
          refine blockK_e ?_
          refine thenK_n ?_
          refine KC.seq ?_
          refine KC.region ?_
          refine KT.step rfl rfl (K.move rfl) ?_
          refine KT.step rfl rfl (K.move rfl) ?_
          refine KT.bcase (fun hb101 => ?_) (fun hb101 => ?_)
          · skip
            refine KT.skip rfl rfl ?_
            refine KT.skip rfl rfl ?_
            refine KT.skip rfl rfl ?_
            refine KT.skip rfl rfl ?_
            refine KT.skip rfl rfl ?_
            refine KT.skip rfl rfl ?_
            refine KT.step rfl rfl (K.pick rfl (fun _ => rfl) (fun h => by cases h)) ?_
            refine KT.step rfl rfl (K.assign rfl) ?_
            refine KT.nil ?_
            refine thenK_n ?_
            refine KC.ret ?_
            have et : Q.take i = Q := List.take_of_length_le (by omega)
            rw [et] at hb101
            exact ⟨.inl rfl, _, rfl, fin_b (by rw [← show_is g1 (show ¬ op = EX' from hc28) (show ¬ op = EU' from hc54), hb101]; rfl)⟩
          · skip
            refine KT.step rfl rfl (K.move rfl) ?_
            refine KT.step rfl rfl (K.move rfl) ?_
            refine KT.bcase (fun hb103 => ?_) (fun hb103 => ?_)
            · skip
              refine KT.step rfl rfl (K.fieldAddrO rfl Try.fld27_0 Try.size9) ?_
              refine KT.step rfl rfl (K.loadO rfl rfl (by simp) rfl Try.agg9) ?_
              refine KT.step rfl rfl (K.eqlS rfl rfl) ?_
              refine KT.step rfl rfl (K.pick rfl (fun _ => rfl) (fun h => by cases h)) ?_
              refine KT.step rfl rfl (K.pick rfl (fun h => by cases h) (fun _ => rfl)) ?_
              refine KT.step rfl rfl (K.assign rfl) ?_
              refine KT.nil ?_
              refine thenK_n ?_
              refine KC.ret ?_
              have et : Q.take i = Q := List.take_of_length_le (by omega)
              rw [et] at hb101 hb103
              exact ⟨.inl rfl, _, rfl, fin_b (by rw [← show_is g1 (show ¬ op = EX' from hc28) (show ¬ op = EU' from hc54), hb101, hb103]; rfl)⟩
            · skip
              refine KT.skip rfl rfl ?_
              refine KT.skip rfl rfl ?_
              refine KT.skip rfl rfl ?_
              refine KT.step rfl rfl (K.pick rfl (fun h => by cases h) (fun _ => rfl)) ?_
              refine KT.step rfl rfl (K.pick rfl (fun h => by cases h) (fun _ => rfl)) ?_
              refine KT.step rfl rfl (K.assign rfl) ?_
              refine KT.nil ?_
              refine thenK_n ?_
              refine KC.ret ?_
              have et : Q.take i = Q := List.take_of_length_le (by omega)
              rw [et] at hb101 hb103
              exact ⟨.inl rfl, _, rfl, fin_b (by rw [← show_is g1 (show ¬ op = EX' from hc28) (show ¬ op = EU' from hc54), hb101, hb103]; rfl)⟩
end Go.Proofs.Ytcjcchceeidgkaa

