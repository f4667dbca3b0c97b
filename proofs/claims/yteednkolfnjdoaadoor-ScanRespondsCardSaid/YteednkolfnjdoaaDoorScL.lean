import Derived.Test.YteednkolfnjdoaaDoorScK
/-
  Controllers: the minimal machine; the same machine.
-/
namespace Go.Proofs.YteednkolfnjdoaaDoor
open Go.Vm Go.Sc
theorem plainTryd_36 : plainFn Tryd.prog 36 = true := by kernel_rfl
theorem plainTryd_35 : plainFn Tryd.prog 35 = true := by kernel_rfl
theorem plainTryd_68 : plainFn Tryd.prog 68 = true := by kernel_rfl
theorem Tryd.zero38 : zeroT Tryd.prog 38 = some (.slice none 0 0) := by kernel_rfl
section
variable {P : Program} {σ : List VObj} {kn : Kn}
theorem resK_ct {fn : Func} {a t b id m md : Nat} (ds : List DV) {y : XV} (hr : fn.results = #[.cell a t, .tmp b]) (hl : Go.Vm.look kn a = some (.optr id 0)) (ho : σ[id]? = some ⟨ds.map .d, md⟩) (h2 : md < 2) (ha : isAggT P t = some true) (hs : sizeT P t = some m) (hm : ds.length = m) (hy : Go.Vm.look kn b = some y) :
    resK P fn σ kn = some (.tup [.d (.agg ds), y]) := by
  unfold resK
  rw [hr]
  have e : resVarK P σ kn (.cell a t) = some (.d (.agg ds)) := by
    simp only [resVarK, hl, Option.bind_some, opLoad, ho]
    rw [if_neg (fun h => h h2)]
    simp only [takeVar, ha, hs, List.drop_zero]
    rw [if_pos (by simp; omega), List.take_of_length_le (by simp; omega), aggX_d]; rfl
  have e2 : resVarK P σ kn (.tmp b) = some y := hy
  simp only [List.mapM_cons, List.mapM_nil, e, e2]
  rfl
end
theorem rep_zero {m : Nat} {nx : Nat → Nat → Nat} {ou : Nat → Nat → Int} : rep m nx ou 0 = 0 := Nat.le_zero.1 (rep_le _)
set_option maxRecDepth 10000 in
theorem minimized72 {m : Nat} {nd od : DV} {nx ou : List (List Int)} (hn : Mat nd nx) (ho : Mat od ou) (hv : VM m nx ou) : DeepCall Tryd.prog 72 [.agg [DI (m : Nat), nd, od]] (.agg [DI (m : Nat), matV (minN m nx.length (nxF nx) (ouF ou)), matV (minO m nx.length (nxF nx) (ouF ou))]) := by
  have hm8 : m ≤ 8 := by have := hv.a8; omega
  have hm1 : 1 ≤ m := by have := hv.a1; omega
  have hcl : ∀ s i, s < nx.length → i < m → nxF nx s i < nx.length := fun s i a b => (hv.next a (by omega)).1
  have n16 := hv.n16
  have n1 := hv.n1
  have hrz := (wZ_len (repL m (nxF nx) (ouF ou) nx.length)).trans repL_len
  have hr0 : (wZ (repL m (nxF nx) (ouF ou) nx.length))[0]'(by omega) = ((0 : Nat) : Int) := by rw [get_D, repL_get (by omega), rep_zero]
  have hN : DeepCall Tryd.prog 67 [DI (0 : Nat), DI (m : Nat), .fn (.func 102) [] [.ptr [DI (m : Nat), nd, od], .ptr [rspV (wZ (repL m (nxF nx) (ouF ou) nx.length))]]] (.agg [DI (m : Nat), matV (minN m nx.length (nxF nx) (ouF ou)), matV (minO m nx.length (nxF nx) (ouF ou))]) := numbered67 plainTryd_102 (fun s i hs hi => mnc102 hn ho hv rspV_ints hs hi) n16 hm1 hm8 n1 (nxR_ok hcl)
  refine deepCall_K 5 Tryd.func72 rfl (Nat.le_of_ble_eq_true rfl) fun M W0 => ?_
  refine KC.seq ?_
  refine KC.region ?_
  refine KT.step rfl rfl (K.box rfl) ?_
  refine KT.step rfl rfl (K.alloc Tryd.zero58) ?_
  refine KT.nil ?_
  refine thenK_n ?_
  refine KC.seq ?_
  refine KC.region ?_
  refine KT.step rfl rfl (K.loadOA ([DI (m : Nat), nd, od]) rfl rfl (by decide) Tryd.agg58 Tryd.size58 rfl) ?_
  refine KT.step rfl rfl (K.call1 rfl plainTryd_101 (classes101 hn ho hv)) ?_
  refine KT.step rfl rfl (K.alloc Tryd.zero38) ?_
  refine KT.storeL (cs := ([rspV (wZ (repL m (nxF nx) (ouF ou) nx.length))]).map .d) rfl rfl rfl rfl rfl rfl rfl Tryd.size38 ?_
  refine KT.nil ?_
  refine thenK_n ?_
  refine KC.seq ?_
  refine KC.draw Tryd.mixed ?_
  refine KT.step rfl rfl (K.loadO rfl rfl (by simp) rfl Tryd.agg38) ?_
  refine KT.idxI (m := 0) rfl rfl rfl rspV_ints rfl (by omega) Tryd.underlying38 Tryd.size3 fun cs7 => ?_
  rw [hr0]
  refine KT.step rfl rfl (K.load rfl Tryd.agg3) ?_
  refine KT.step rfl rfl (K.fieldAddrO rfl Tryd.fld58_0 Tryd.size3) ?_
  refine KT.step rfl rfl (K.loadO rfl rfl (by simp) rfl Tryd.agg3) ?_
  refine KT.step rfl rfl (K.makeF (m := 0) rfl rfl rfl rfl) ?_
  refine KT.step rfl rfl (K.callZ (ds := [DI (0 : Nat), DI (m : Nat), .fn (.func 102) [] [.ptr [DI (m : Nat), nd, od], .ptr [rspV (wZ (repL m (nxF nx) (ouF ou) nx.length))]]]) [0, 2] 5 rfl plainTryd_67 rfl hN) ?_
  refine KT.putAll (cs := ([DI (m : Nat), matV (minN m nx.length (nxF nx) (ouF ou)), matV (minO m nx.length (nxF nx) (ouF ou))]).map .d) rfl rfl rfl rfl rfl rfl rfl rfl Tryd.size58 ?_
  refine KT.nil ?_
  refine ⟨by kernel_rfl, ?_⟩
  refine thenK_n ?_
  refine KC.ret ?_
  exact ⟨.inl rfl, _, resK_c [DI (m : Nat), matV (minN m nx.length (nxF nx) (ouF ou)), matV (minO m nx.length (nxF nx) (ouF ou))] rfl rfl rfl (by decide) Tryd.agg58 Tryd.size58 rfl, fin_d rfl⟩
/-- What Minimize answers. -/
noncomputable def mzR (a : Int) (nx ou : List (List Int)) : List DV × Int :=
  @ite _ (VM a nx ou) (Classical.propDecidable _) ([DI a, matV (minN a.toNat nx.length (nxF nx) (ouF ou)), matV (minO a.toNat nx.length (nxF nx) (ouF ou))], 0) ([DI 0, Dnil, Dnil], 2)
theorem mzR_no {a : Int} {nx ou : List (List Int)} (h : ¬ VM a nx ou) : mzR a nx ou = ([DI 0, Dnil, Dnil], 2) := if_neg h
theorem mzR_yes {m : Nat} {nx ou : List (List Int)} (h : VM m nx ou) : mzR m nx ou = ([DI (m : Nat), matV (minN m nx.length (nxF nx) (ouF ou)), matV (minO m nx.length (nxF nx) (ouF ou))], 0) := if_pos h
theorem build58_0 : opBuild Tryd.prog 58 [] = some (.d (.agg [DI 0, Dnil, Dnil])) := by kernel_rfl
set_option maxRecDepth 10000 in
theorem Minimize40 {a : Int} {nd od : DV} {nx ou : List (List Int)} (hn : Mat nd nx) (ho : Mat od ou) (hnl : nx.length ≤ 9223372036854775807) (hol : ou.length ≤ 9223372036854775807) (hnr : ∀ r ∈ nx, r.length ≤ 9223372036854775807) (hor : ∀ r ∈ ou, r.length ≤ 9223372036854775807) : DeepCall Tryd.prog 40 [.agg [DI a, nd, od]] (.tup [.agg (mzR a nx ou).1, DI (mzR a nx ou).2]) := by
  refine deepCall_K 5 Tryd.func40 rfl (Nat.le_of_ble_eq_true rfl) fun M W0 => ?_
  refine KC.seq ?_
  refine KC.region ?_
  refine KT.step rfl rfl (K.box rfl) ?_
  refine KT.step rfl rfl (K.alloc Tryd.zero58) ?_
  refine KT.step rfl rfl (K.assign rfl) ?_
  refine KT.nil ?_
  refine thenK_n ?_
  refine KC.seq ?_
  refine KC.seq ?_
  refine KC.region ?_
  refine KT.step rfl rfl (K.loadOA ([DI a, nd, od]) rfl rfl (by decide) Tryd.agg58 Tryd.size58 rfl) ?_
  refine KT.step rfl rfl (K.call1 rfl plainTryd_69 (valid69 hn ho hnl hol hnr hor)) ?_
  refine KT.step rfl rfl (K.not rfl) ?_
  refine KT.nil ?_
  refine thenK_n ?_
  refine KC.cond rfl (fun hc6 => ?_) (fun hc6 => ?_)
  · skip
    have hno : ¬ VM a nx ou := fun h => by rw [vmB_iff.2 h] at hc6; cases hc6
    refine KC.seq ?_
    refine KC.region ?_
    refine KT.step rfl rfl (K.buildS rfl build58_0) ?_
    refine KT.storeL (cs := ([DI 0, Dnil, Dnil]).map .d) rfl rfl rfl rfl rfl rfl rfl Tryd.size58 ?_
    refine KT.step rfl rfl (K.assign rfl) ?_
    refine KT.nil ?_
    refine thenK_n ?_
    refine KC.ret ?_
    refine thenK_r ?_
    exact ⟨.inl rfl, _, resK_ct [DI 0, Dnil, Dnil] rfl rfl rfl (by decide) Tryd.agg58 Tryd.size58 rfl rfl, by rw [mzR_no hno]; rfl⟩
  · skip
    have hv : VM a nx ou := vmB_iff.1 (by simpa using hc6)
    obtain ⟨m, rfl⟩ : ∃ m : Nat, a = m := ⟨a.toNat, by have := hv.a1; omega⟩
    refine KC.skip ?_
    refine thenK_n ?_
    refine KC.seq ?_
    refine KC.region ?_
    refine KT.step rfl rfl (K.loadOA ([DI (m : Nat), nd, od]) rfl rfl (by decide) Tryd.agg58 Tryd.size58 rfl) ?_
    refine KT.step rfl rfl (K.call1 rfl plainTryd_72 (minimized72 hn ho hv)) ?_
    refine KT.storeL (cs := ([DI (m : Nat), matV (minN m nx.length (nxF nx) (ouF ou)), matV (minO m nx.length (nxF nx) (ouF ou))]).map .d) rfl rfl rfl rfl rfl rfl rfl Tryd.size58 ?_
    refine KT.step rfl rfl (K.assign rfl) ?_
    refine KT.nil ?_
    refine thenK_n ?_
    refine KC.ret ?_
    exact ⟨.inl rfl, _, resK_ct [DI (m : Nat), matV (minN m nx.length (nxF nx) (ouF ou)), matV (minO m nx.length (nxF nx) (ouF ou))] rfl rfl rfl (by decide) Tryd.agg58 Tryd.size58 rfl rfl, by rw [mzR_yes hv]; rfl⟩
theorem build63_3 (x : Int) (l1 l2 : List (List Int)) : opBuild Tryd.prog 63 [(0, .d (DI x)), (1, .d (matV l1)), (2, .d (matV l2))] = some (.d (.agg [DI x, matV l1, matV l2])) := by kernel_rfl
set_option maxRecDepth 10000 in
theorem own36 {a : Int} {l1 l2 : List (List Int)} : DeepCall Tryd.prog 36 [.agg [DI a, matV l1, matV l2]] (.agg [DI a, matV l1, matV l2]) := by
  refine deepCall_K 5 Tryd.func36 rfl (Nat.le_of_ble_eq_true rfl) fun M W0 => ?_
  refine KC.seq ?_
  refine KC.region ?_
  refine KT.step rfl rfl (K.box rfl) ?_
  refine KT.step rfl rfl (K.alloc Tryd.zero63) ?_
  refine KT.nil ?_
  refine thenK_n ?_
  refine KC.seq ?_
  refine KC.region ?_
  refine KT.step rfl rfl (K.fieldAddrO rfl Tryd.fld58_0 Tryd.size3) ?_
  refine KT.step rfl rfl (K.loadO rfl rfl (by simp) rfl Tryd.agg3) ?_
  refine KT.step rfl rfl (K.fieldAddrO rfl Tryd.fld58_1 Tryd.size56) ?_
  refine KT.step rfl rfl (K.loadO rfl rfl (by simp) rfl Tryd.agg56) ?_
  refine KT.step rfl rfl (K.fieldAddrO rfl Tryd.fld58_2 Tryd.size56) ?_
  refine KT.step rfl rfl (K.loadO rfl rfl (by simp) rfl Tryd.agg56) ?_
  refine KT.step rfl rfl (K.buildS rfl (build63_3 _ _ _)) ?_
  refine KT.storeL (cs := ([DI a, matV l1, matV l2]).map .d) rfl rfl rfl rfl rfl rfl rfl Tryd.size63 ?_
  refine KT.nil ?_
  refine thenK_n ?_
  refine KC.ret ?_
  exact ⟨.inl rfl, _, resK_c [DI a, matV l1, matV l2] rfl rfl rfl (by decide) Tryd.agg63 Tryd.size63 rfl, fin_d rfl⟩
set_option maxRecDepth 10000 in
theorem equal68 {d e : DV} {x y : List Int} (hd : Ints d x) (he : Ints e y) (hl : x.length ≤ 9223372036854775807) :
    DeepCall Tryd.prog 68 [d, e] (DB (decide (x = y))) := by
  refine deepCall_K 5 Tryd.func68 rfl (Nat.le_of_ble_eq_true rfl) fun M W0 => ?_
  refine KC.seq ?_
  refine KC.region ?_
  refine KT.step rfl rfl (K.assign rfl) ?_
  refine KT.nil ?_
  refine thenK_n ?_
  refine KC.seq ?_
  refine KC.seq ?_
  refine KC.region ?_
  refine KT.step rfl rfl (K.move rfl) ?_
  refine KT.step rfl rfl (K.len rfl hd Tryd.underlying38) ?_
  refine KT.step rfl rfl (K.move rfl) ?_
  refine KT.step rfl rfl (K.len rfl he Tryd.underlying38) ?_
  refine KT.step rfl rfl (K.neq rfl rfl) ?_
  refine KT.nil ?_
  refine thenK_n ?_
  refine KC.cond rfl (fun hc11 => ?_) (fun hc11 => ?_)
  · skip
    replace hc11 := of_decide_eq_true hc11
    refine KC.seq ?_
    refine KC.region ?_
    refine KT.step rfl rfl (K.assign rfl) ?_
    refine KT.nil ?_
    refine thenK_n ?_
    refine KC.ret ?_
    refine thenK_r ?_
    exact ⟨.inl rfl, _, rfl, fin_b (decide_eq_false fun h => by subst h; omega)⟩
  · skip
    replace hc11 := of_decide_eq_false hc11
    refine KC.skip ?_
    refine thenK_n ?_
    refine KC.seq ?_
    refine KC.seq ?_
    refine KC.region ?_
    refine KT.step rfl rfl (K.move rfl) ?_
    refine KT.step rfl rfl (K.len rfl hd Tryd.underlying38) ?_
    refine KT.step rfl rfl (K.move rfl) ?_
    refine KT.nil ?_
    refine thenK_n ?_
    refine KC.block ?_
    refine KC.loop (fun _ : Nat => _) (fun i => [(0, .d d), (1, .d e), (12, .d d), (13, .d (DI x.length)), (14, .d (DI (i : Nat)))]) (fun i => i ≤ x.length ∧ x.take i = y.take i) (fun i => x.length - i) 0 ⟨Nat.zero_le _, rfl⟩ rfl (by simp [Go.Vm.look, extK, enterK]) ?_
    intro i hi
    obtain ⟨hi, hall⟩ := hi
    refine KC.seq ?_
    refine KC.region ?_
    refine KT.step rfl rfl (K.lss rfl rfl) ?_
    refine KT.nil ?_
    refine thenK_n ?_
    refine KC.seq ?_
    refine KC.cond rfl (fun hc15 => ?_) (fun hc15 => ?_)
    · skip
      replace hc15 := of_decide_eq_true hc15
      refine KC.skip ?_
      refine thenK_n ?_
      refine KC.seq ?_
      refine KC.block ?_
      refine KC.seq ?_
      refine KC.region ?_
      refine KT.step rfl rfl (K.move rfl) ?_
      refine KT.idxI (m := i) rfl rfl rfl hd rfl (by omega) Tryd.underlying38 Tryd.size3 fun cs17 => ?_
      refine KT.step rfl rfl (K.load rfl Tryd.agg3) ?_
      refine KT.step rfl rfl (K.assign rfl) ?_
      refine KT.step rfl rfl (K.assign rfl) ?_
      refine KT.nil ?_
      refine thenK_n ?_
      refine KC.seq ?_
      refine KC.region ?_
      refine KT.step rfl rfl (K.move rfl) ?_
      refine KT.step rfl rfl (K.move rfl) ?_
      refine KT.step rfl rfl (K.move rfl) ?_
      refine KT.idxI (m := i) rfl rfl rfl he rfl (by omega) Tryd.underlying38 Tryd.size3 fun cs22 => ?_
      refine KT.step rfl rfl (K.load rfl Tryd.agg3) ?_
      refine KT.step rfl rfl (K.neq rfl rfl) ?_
      refine KT.nil ?_
      refine thenK_n ?_
      refine KC.cond rfl (fun hc24 => ?_) (fun hc24 => ?_)
      · skip
        replace hc24 := of_decide_eq_true hc24
        refine KC.seq ?_
        refine KC.region ?_
        refine KT.step rfl rfl (K.assign rfl) ?_
        refine KT.nil ?_
        refine thenK_n ?_
        refine KC.ret ?_
        refine blockK_r ?_
        refine thenK_r ?_
        refine thenK_r ?_
        refine blockK_r ?_
        refine thenK_r ?_
        exact ⟨.inl rfl, _, rfl, fin_b (decide_eq_false fun h => by subst h; exact hc24 rfl)⟩
      · skip
        replace hc24 := of_decide_eq_false hc24
        refine KC.skip ?_
        refine blockK_n ?_
        refine thenK_n ?_
        refine KC.region ?_
        refine KT.step rfl rfl (K.add rfl rfl (wrap_id (by omega))) ?_
        refine KT.step rfl rfl (K.move rfl) ?_
        refine KT.nil ?_
        refine thenK_n ?_
        refine ⟨i + 1, ⟨by omega, ?_⟩, by omega, rfl, by simp [Go.Vm.look, extK]⟩
        rw [List.take_succ_eq_append_getElem (by omega), List.take_succ_eq_append_getElem (by omega), hall, Classical.not_not.1 hc24]
    · skip
      replace hc15 := of_decide_eq_false hc15
      refine KC.exit ?_
      refine thenK_x ?_
      refine thenK_x ?_
      refine blockK_e ?_
      refine thenK_n ?_
      refine KC.seq ?_
      refine KC.region ?_
      refine KT.step rfl rfl (K.assign rfl) ?_
      refine KT.nil ?_
      refine thenK_n ?_
      refine KC.ret ?_
      have hx : x.take i = x := List.take_of_length_le (by omega)
      have hy : y.take i = y := List.take_of_length_le (by omega)
      rw [hx, hy] at hall
      exact ⟨.inl rfl, _, rfl, fin_b (decide_eq_true hall)⟩
end Go.Proofs.YteednkolfnjdoaaDoor

