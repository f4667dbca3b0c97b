import Derived.Test.YtcjcchceeidgkaaLgC
import Derived.Test.YtcjcchceeidgkaaLgX
/-
  Logic: what satisfies a formula.
-/
namespace Go.Proofs.Ytcjcchceeidgkaa
open Go.Vm Go.Lg
theorem plainTry_30 : plainFn Try.prog 30 = true := by kernel_rfl
theorem plainTry_39 : plainFn Try.prog 39 = true := by kernel_rfl
set_option maxRecDepth 10000 in
theorem kids39 {dn dl kd : DV} {nx lb : List Nat} {op : ByteArray} {ks : List Fo} (hk : KidsD kd ks) (hl2 : ks.length ≤ 2)
    (hrec : ∀ op ks' kd', Fo.mk op ks' ∈ ks → KidsD kd' ks' → DeepCall Try.prog 30 [tabD dn dl, .agg [.lit (.string op), kd']] (DI (satF nx lb (.mk op ks') : Nat))) :
    DeepCall Try.prog 39 [tabD dn dl, .agg [.lit (.string op), kd]] (.tup [DI ((satL nx lb ks).getD 0 0 : Nat), DI ((satL nx lb ks).getD 1 0 : Nat)]) := by
  refine deepCall_K 5 Try.func39 rfl (Nat.le_of_ble_eq_true rfl) fun M W0 => ?_
  refine KC.seq ?_
  refine KC.region ?_
  refine KT.step rfl rfl (K.box rfl) ?_
  refine KT.step rfl rfl (K.assign rfl) ?_
  refine KT.step rfl rfl (K.assign rfl) ?_
  refine KT.nil ?_
  refine thenK_n ?_
  refine KC.seq ?_
  refine KC.region ?_
  refine KT.step rfl rfl (K.alloc Try.zero76) ?_
  refine KT.nil ?_
  refine thenK_n ?_
  refine KC.seq ?_
  refine KC.seq ?_
  refine KC.region ?_
  refine KT.step rfl rfl (K.fieldAddrO rfl Try.fld35_1 Try.size33) ?_
  refine KT.step rfl rfl (K.loadO rfl rfl (by simp) rfl Try.agg33) ?_
  refine KT.step rfl rfl (K.lenKids rfl hk Try.underlying33) ?_
  refine KT.step rfl rfl (K.move rfl) ?_
  refine KT.nil ?_
  refine thenK_n ?_
  refine KC.block ?_
  refine KC.loop (fun p : List VObj × Nat => p.1) (fun p => [(0, .d (tabD dn dl)), (6, .optr 1 0), (10, .d kd), (11, .d (DI (ks.length : Nat))), (12, .d (DI (p.2 : Nat)))]) (fun p => p.1[1]? = some ⟨[.d (DI (svN (satL nx lb ks) p.2 0 : Nat)), .d (DI (svN (satL nx lb ks) p.2 1 : Nat))], 0⟩ ∧ p.2 ≤ ks.length) (fun p => ks.length - p.2) (_, 0) ⟨by rw [svN_zero, svN_zero]; rfl, Nat.zero_le _⟩ rfl (by simp [Go.Vm.look, extK, enterK]) ?_
  intro p hp
  obtain ⟨y1, hp2⟩ := hp
  refine KC.seq ?_
  refine KC.region ?_
  refine KT.step rfl rfl (K.lss rfl rfl) ?_
  refine KT.nil ?_
  refine thenK_n ?_
  refine KC.seq ?_
  refine KC.cond rfl (fun hc13 => ?_) (fun hc13 => ?_)
  · skip
    replace hc13 := of_decide_eq_true hc13
    have hil : p.2 < ks.length := by omega
    refine KC.skip ?_
    refine thenK_n ?_
    refine KC.seq ?_
    refine KC.block ?_
    refine KC.seq ?_
    refine KC.region ?_
    refine KT.step rfl rfl (K.move rfl) ?_
    refine KT.idxKid rfl rfl rfl hk rfl hil Try.underlying33 Try.size35 fun op1 ks1 kd1 rest hq1 hq2 => ?_
    refine KT.step rfl rfl (K.loadAgg (cs := .lit (.string op1) :: kd1 :: rest) (m := 2) rfl Try.agg35 Try.size35 (by simp)) ?_
    refine KT.step rfl rfl (K.alloc Try.zero35) ?_
    refine KT.step rfl rfl (K.assign rfl) ?_
    refine KT.storeL (cs := [.d (.lit (.string op1)), .d kd1]) rfl rfl rfl rfl rfl rfl (two_one rfl hq2) Try.size35 ?_
    refine KT.nil ?_
    refine thenK_n ?_
    refine KC.region ?_
    refine KT.step rfl rfl (K.move rfl) ?_
    refine KT.step rfl rfl (K.move rfl) ?_
    refine KT.step rfl rfl (K.loadOA [.lit (.string op1), kd1] rfl (List.getElem?_concat_length ..) (by decide) Try.agg35 Try.size35 rfl) ?_
    refine KT.step rfl rfl (K.call2 rfl rfl plainTry_30 (hrec op1 ks1 kd1 (List.mem_of_getElem? hq1) hq2)) ?_
    refine KT.step rfl rfl (K.idxA rfl rfl (show p.2 < 2 by omega) Try.underlying76 Try.size3) ?_
    refine KT.storeG rfl rfl rfl rfl (get_left y1) (by show 0 + p.2 * 1 < 2; omega) rfl rfl Try.size3 fun σr lr ur vr => ?_
    refine KT.nil ?_
    refine blockK_n ?_
    refine thenK_n ?_
    refine KC.region ?_
    refine KT.step rfl rfl (K.add rfl rfl (wrap_id (by omega))) ?_
    refine KT.step rfl rfl (K.move rfl) ?_
    refine KT.nil ?_
    refine thenK_n ?_
    refine ⟨(σr, p.2 + 1), ⟨?_, by simp only; omega⟩, by simp only; omega, rfl, by simp [Go.Vm.look, extK]⟩
    rw [svN_put (by omega) (satL_get hq1)] at ur
    exact ur
  · skip
    replace hc13 := of_decide_eq_false hc13
    refine KC.exit ?_
    refine thenK_x ?_
    refine thenK_x ?_
    refine blockK_e ?_
    refine thenK_n ?_
    refine KC.seq ?_
    refine KC.draw Try.mixed ?_
    refine KT.step rfl rfl (K.idxA (m := 0) rfl rfl (by omega) Try.underlying76 Try.size3) ?_
    refine KT.step rfl rfl (K.loadO rfl y1 (by simp) rfl Try.agg3) ?_
    refine KT.step rfl rfl (K.idxA (m := 1) rfl rfl (by omega) Try.underlying76 Try.size3) ?_
    refine KT.step rfl rfl (K.loadO rfl y1 (by simp) rfl Try.agg3) ?_
    refine KT.step rfl rfl (K.assign rfl) ?_
    refine KT.step rfl rfl (K.assign rfl) ?_
    refine KT.nil ?_
    refine ⟨by kernel_rfl, ?_⟩
    refine thenK_n ?_
    refine KC.ret ?_
    have e := svN_end (L := satL nx lb ks) (i := p.2) (j := 0) (by rw [satL_len]; omega)
    have e2 := svN_end (L := satL nx lb ks) (i := p.2) (j := 1) (by rw [satL_len]; omega)
    rw [e, e2] at y1
    exact ⟨.inl rfl, _, rfl, by rw [e, e2]; rfl⟩
set_option maxRecDepth 10000 in
theorem satS30 {dn dl : DV} {nx lb : List Nat} (hS : Str dn dl nx lb) {kd : DV} {op : ByteArray} {ks : List Fo} (hop : opc op < 18)
    (hkids : DeepCall Try.prog 39 [tabD dn dl, .agg [.lit (.string op), kd]] (.tup [DI ((satL nx lb ks).getD 0 0 : Nat), DI ((satL nx lb ks).getD 1 0 : Nat)])) :
    DeepCall Try.prog 30 [tabD dn dl, .agg [.lit (.string op), kd]] (DI (satF nx lb (.mk op ks) : Nat)) := by
  refine deepCall_K 5 Try.func30 rfl (Nat.le_of_ble_eq_true rfl) fun M W0 => ?_
  refine KC.seq ?_
  refine KC.region ?_
  refine KT.step rfl rfl (K.box rfl) ?_
  refine KT.step rfl rfl (K.assign rfl) ?_
  refine KT.nil ?_
  refine thenK_n ?_
  refine KC.seq ?_
  refine KC.region ?_
  refine KT.step rfl rfl (K.move rfl) ?_
  refine KT.step rfl rfl (K.loadOA ([.lit (.string op), kd]) rfl rfl (by decide) Try.agg35 Try.size35 rfl) ?_
  refine KT.step rfl rfl (K.call2 rfl rfl plainTry_39 (hkids)) ?_
  refine KT.step rfl rfl (K.move rfl) ?_
  refine KT.step rfl rfl (K.extract rfl rfl) ?_
  refine KT.step rfl rfl (K.extract rfl rfl) ?_
  refine KT.step rfl rfl (K.assign rfl) ?_
  refine KT.step rfl rfl (K.assign rfl) ?_
  refine KT.nil ?_
  refine thenK_n ?_
  refine KC.seq ?_
  refine KC.region ?_
  refine KT.step rfl rfl (K.move rfl) ?_
  refine KT.step rfl rfl (K.fieldAddrO rfl Try.fld35_0 Try.size9) ?_
  refine KT.step rfl rfl (K.loadO rfl rfl (by simp) rfl Try.agg9) ?_
  refine KT.step rfl rfl (K.lookupD (names := NM) (i := opc op) rfl rfl (opc_get hop) (fun j hj => (NM_nodup _ _ _ (opc_get hop) hj).symm) (y := vO dn dl (opc op)) (by simp [hop]) Try.underlying68 Try.underlying9) ?_
  refine KT.step rfl rfl (K.move rfl) ?_
  refine KT.step rfl rfl (K.move rfl) ?_
  refine KT.step rfl rfl (K.callC (ds := [DI ((satL nx lb ks).getD 0 0 : Nat), DI ((satL nx lb ks).getD 1 0 : Nat)]) (cs := cpO dn dl (opc op)) rfl rfl rfl (plainO _) (opCall hS (satL_lt hS.len ks 0) (satL_lt hS.len ks 1) _ hop)) ?_
  refine KT.step rfl rfl (K.assign rfl) ?_
  refine KT.nil ?_
  refine thenK_n ?_
  refine KC.ret ?_
  exact ⟨.inl rfl, _, rfl, fin_d (by unfold satF; rfl)⟩

/-- WHAT SATISFIES A FORMULA, by the program. -/
theorem sat30 {dn dl : DV} {nx lb : List Nat} (hS : Str dn dl nx lb) : ∀ (op : ByteArray) (ks : List Fo) (kd : DV), wfF (.mk op ks) = true → KidsD kd ks → DeepCall Try.prog 30 [tabD dn dl, .agg [.lit (.string op), kd]] (DI (satF nx lb (.mk op ks) : Nat))
  | op, ks, kd, hw, hk => by
    obtain ⟨h1, h2, _, h4⟩ := wfF_mk hw
    exact satS30 hS h1 (kids39 hk h2 fun op' ks' kd' hm hk' => by
      have : SizeOf.sizeOf ks' < SizeOf.sizeOf ks := by
        have := List.sizeOf_lt_of_mem hm
        simp at this; omega
      exact sat30 hS op' ks' kd' (h4 _ hm) hk')
  termination_by _ ks => SizeOf.sizeOf ks
theorem kidsOf39 {dn dl : DV} {nx lb : List Nat} (hS : Str dn dl nx lb) {kd : DV} {op : ByteArray} {ks : List Fo} (hw : wfF (.mk op ks) = true) (hk : KidsD kd ks) :
    DeepCall Try.prog 39 [tabD dn dl, .agg [.lit (.string op), kd]] (.tup [DI ((satL nx lb ks).getD 0 0 : Nat), DI ((satL nx lb ks).getD 1 0 : Nat)]) := by
  obtain ⟨h1, h2, _, h4⟩ := wfF_mk hw
  exact kids39 hk h2 fun op' ks' kd' hm hk' => sat30 hS op' ks' kd' (h4 _ hm) hk'
end Go.Proofs.Ytcjcchceeidgkaa

