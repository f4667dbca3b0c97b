import Derived.Test.YtmfbakipfobaeaaHtEf
import Derived.Test.YtmfbakipfobaeaaHtGu
/-
  Heat: Plan of the package.
-/
namespace Go.Proofs.Ytmfbakipfobaeaa
open Go.Vm Go.Ht
theorem plainTry_32 : plainFn Try.prog 32 = true := by kernel_rfl
set_option maxRecDepth 10000 in
theorem planP_no {d : DV} {l : List Sm} {gap : Int} (hd : StD d l) (hl : l.length ≤ 9223372036854775807) (hno : okH l gap = false) : DeepCall Try.prog 32 [d, DI gap] (.tup [Dnil, DI 2]) := by
  refine deepCall_K 5 Try.func32 rfl (Nat.le_of_ble_eq_true rfl) fun M W0 => ?_
  refine KC.seq ?_
  refine KC.region ?_
  refine KT.step rfl rfl (K.assign rfl) ?_
  refine KT.step rfl rfl (K.assign rfl) ?_
  refine KT.nil ?_
  refine thenK_n ?_
  refine KC.seq ?_
  refine KC.region ?_
  refine KT.step rfl rfl (K.move rfl) ?_
  refine KT.step rfl rfl (K.move rfl) ?_
  refine KT.step rfl rfl (K.call2 rfl rfl plainTry_45 (read_no hd hl hno)) ?_
  refine KT.step rfl rfl (K.move rfl) ?_
  refine KT.step rfl rfl (K.extract rfl rfl) ?_
  refine KT.step rfl rfl (K.extract rfl rfl) ?_
  refine KT.step rfl rfl (K.alloc Try.zero75) ?_
  refine KT.putAll (cs := [.d Dnil, .d Dnil]) rfl rfl rfl rfl rfl rfl rfl rfl Try.size75 ?_
  refine KT.step rfl rfl (K.assign rfl) ?_
  refine KT.nil ?_
  refine thenK_n ?_
  refine KC.seq ?_
  refine KC.seq ?_
  refine KC.region ?_
  refine KT.step rfl rfl (K.move rfl) ?_
  refine KT.step rfl rfl (K.not rfl) ?_
  refine KT.nil ?_
  refine thenK_n ?_
  refine KC.cond rfl (fun hc15 => ?_) (fun hc15 => ?_)
  · skip
    refine KC.seq ?_
    refine KC.region ?_
    refine KT.step rfl rfl (K.assign rfl) ?_
    refine KT.step rfl rfl (K.assign rfl) ?_
    refine KT.nil ?_
    refine thenK_n ?_
    refine KC.ret ?_
    refine thenK_r ?_
    exact ⟨.inl rfl, _, rfl, rfl⟩
  · skip
    exact absurd hc15 (by decide)
set_option maxRecDepth 10000 in
theorem planP_ok {d : DV} {l : List Sm} {gap : Int} (hd : StD d l) (hl : l.length ≤ 9223372036854775807) (hok : okH l gap = true) : DeepCall Try.prog 32 [d, DI gap] (.tup [flV c4 (planM gap l), DI 0]) := by
  refine deepCall_K 5 Try.func32 rfl (Nat.le_of_ble_eq_true rfl) fun M W0 => ?_
  refine KC.seq ?_
  refine KC.region ?_
  refine KT.step rfl rfl (K.assign rfl) ?_
  refine KT.step rfl rfl (K.assign rfl) ?_
  refine KT.nil ?_
  refine thenK_n ?_
  refine KC.seq ?_
  refine KC.region ?_
  refine KT.step rfl rfl (K.move rfl) ?_
  refine KT.step rfl rfl (K.move rfl) ?_
  refine KT.step rfl rfl (K.call2 rfl rfl plainTry_45 (read_ok hd hl hok)) ?_
  refine KT.step rfl rfl (K.move rfl) ?_
  refine KT.step rfl rfl (K.extract rfl rfl) ?_
  refine KT.step rfl rfl (K.extract rfl rfl) ?_
  refine KT.step rfl rfl (K.alloc Try.zero75) ?_
  refine KT.putAll (cs := [.d (.sl (l.flatMap (c5 gap)) l.length none), .d (.sl (ints (lvls gap l)) (lvls gap l).length none)]) rfl rfl rfl rfl rfl rfl rfl rfl Try.size75 ?_
  refine KT.step rfl rfl (K.assign rfl) ?_
  refine KT.nil ?_
  refine thenK_n ?_
  refine KC.seq ?_
  refine KC.seq ?_
  refine KC.region ?_
  refine KT.step rfl rfl (K.move rfl) ?_
  refine KT.step rfl rfl (K.not rfl) ?_
  refine KT.nil ?_
  refine thenK_n ?_
  refine KC.cond rfl (fun hc15 => ?_) (fun hc15 => ?_)
  · skip
    exact absurd hc15 (by decide)
  · skip
    refine KC.skip ?_
    refine thenK_n ?_
    refine KC.seq ?_
    refine KC.region ?_
    refine KT.step rfl rfl (K.loadOA [.sl (l.flatMap (c5 gap)) l.length none, .sl (ints (lvls gap l)) (lvls gap l).length none] rfl rfl (by decide) Try.agg75 Try.size75 rfl) ?_
    refine KT.step rfl rfl (K.call1 rfl plainTry_54 (plan54 hok)) ?_
    refine KT.step rfl rfl (K.assign rfl) ?_
    refine KT.step rfl rfl (K.assign rfl) ?_
    refine KT.nil ?_
    refine thenK_n ?_
    refine KC.ret ?_
    exact ⟨.inl rfl, _, rfl, rfl⟩
theorem plan_b {l : List Sm} {gap : Int} (hok : okH l gap = true) : true = true ↔ (planM gap l).length ≤ 200 ∧ SrvOK gap l (planM gap l) := iff_of_true rfl ⟨plan_len hok, (srv_iff hok).1 (srvd_plan hok)⟩
end Go.Proofs.Ytmfbakipfobaeaa

