import Derived.Test.YteednkolfnjdoaaDoorScH
import Derived.Test.YteednkolfnjdoaaDoorScZ
/-
  Controllers: classes of states.
-/
namespace Go.Proofs.YteednkolfnjdoaaDoor
open Go.Vm Go.Sc
theorem plainTryd_144 : plainFn Tryd.prog 144 = true := by kernel_rfl
theorem plainTryd_130 : plainFn Tryd.prog 130 = true := by kernel_rfl
theorem plainTryd_101 : plainFn Tryd.prog 101 = true := by kernel_rfl
set_option maxRecDepth 10000 in
theorem alike144 {m : Nat} {nd od : DV} {nx ou : List (List Int)} (hn : Mat nd nx) (ho : Mat od ou) (hv : VM m nx ou) {j s t : Nat} (hs : s < nx.length) (ht : t < nx.length) {cd : DV} (hc : Ints cd (wZ (clsL m (nxF nx) (ouF ou) nx.length j))) : DeepCall Tryd.prog 144 [.agg [DI (m : Nat), nd, od], DI (s : Nat), DI (t : Nat), cd] (DB (eqB m (nxF nx) (ouF ou) (j + 1) s t)) := by
  have hm8 : m ≤ 8 := by have := hv.a8; omega
  have hcl : ∀ s i, s < nx.length → i < m → nxF nx s i < nx.length := fun s i a b => (hv.next a (by omega)).1
  have hcz := (wZ_len (clsL m (nxF nx) (ouF ou) nx.length j)).trans (clsL_len (m := m) (nx := nxF nx) (ou := ouF ou) (n := nx.length) j)
  refine deepCall_K 5 Tryd.func144 rfl (Nat.le_of_ble_eq_true rfl) fun M W0 => ?_
  refine KC.seq ?_
  refine KC.region ?_
  refine KT.step rfl rfl (K.box rfl) ?_
  refine KT.step rfl rfl (K.assign rfl) ?_
  refine KT.nil ?_
  refine thenK_n ?_
  refine KC.seq ?_
  refine KC.seq ?_
  refine KC.region ?_
  refine KT.step rfl rfl (K.fieldAddrO rfl Tryd.fld58_0 Tryd.size3) ?_
  refine KT.step rfl rfl (K.loadO rfl rfl (by simp) rfl Tryd.agg3) ?_
  refine KT.step rfl rfl (K.move rfl) ?_
  refine KT.nil ?_
  refine thenK_n ?_
  refine KC.block ?_
  refine KC.loop (fun _ : Nat => _) (fun i => [(1, .d (DI (s : Nat))), (2, .d (DI (t : Nat))), (3, .d cd), (4, .optr 0 0), (15, .d (DI (m : Nat))), (16, .d (DI (i : Nat)))]) (fun i => i ≤ m ∧ ∀ k, k < i → cls m (nxF nx) (ouF ou) j (nxF nx s k) = cls m (nxF nx) (ouF ou) j (nxF nx t k) ∧ ouF ou s k = ouF ou t k) (fun i => m - i) 0 ⟨Nat.zero_le _, fun k hk => by omega⟩ rfl (by simp [Go.Vm.look, extK, enterK]) ?_
  intro i hi
  obtain ⟨hi, hall⟩ := hi
  refine KC.seq ?_
  refine KC.region ?_
  refine KT.step rfl rfl (K.lss rfl rfl) ?_
  refine KT.nil ?_
  refine thenK_n ?_
  refine KC.seq ?_
  refine KC.cond rfl (fun hc17 => ?_) (fun hc17 => ?_)
  · skip
    replace hc17 := of_decide_eq_true hc17
    have him : (i : Int) < m := by omega
    refine KC.skip ?_
    refine thenK_n ?_
    refine KC.seq ?_
    refine KC.block ?_
    refine KC.seq ?_
    refine KC.region ?_
    refine KT.step rfl rfl (K.move rfl) ?_
    refine KT.step rfl rfl (K.assign rfl) ?_
    refine KT.nil ?_
    refine thenK_n ?_
    refine KC.seq ?_
    refine KC.region ?_
    refine KT.step rfl rfl (K.loadOA ([DI (m : Nat), nd, od]) rfl rfl (by decide) Tryd.agg58 Tryd.size58 rfl) ?_
    refine KT.step rfl rfl (K.move rfl) ?_
    refine KT.step rfl rfl (K.move rfl) ?_
    refine KT.step rfl rfl (K.call3 rfl rfl rfl plainTryd_70 (step70 hn ho hv hs him)) ?_
    refine KT.step rfl rfl (K.move rfl) ?_
    refine KT.step rfl rfl (K.extract rfl rfl) ?_
    refine KT.step rfl rfl (K.extract rfl rfl) ?_
    refine KT.step rfl rfl (K.assign rfl) ?_
    refine KT.step rfl rfl (K.assign rfl) ?_
    refine KT.nil ?_
    refine thenK_n ?_
    refine KC.seq ?_
    refine KC.region ?_
    refine KT.step rfl rfl (K.loadOA ([DI (m : Nat), nd, od]) rfl rfl (by decide) Tryd.agg58 Tryd.size58 rfl) ?_
    refine KT.step rfl rfl (K.move rfl) ?_
    refine KT.step rfl rfl (K.move rfl) ?_
    refine KT.step rfl rfl (K.call3 rfl rfl rfl plainTryd_70 (step70 hn ho hv ht him)) ?_
    refine KT.step rfl rfl (K.move rfl) ?_
    refine KT.step rfl rfl (K.extract rfl rfl) ?_
    refine KT.step rfl rfl (K.extract rfl rfl) ?_
    refine KT.step rfl rfl (K.assign rfl) ?_
    refine KT.step rfl rfl (K.assign rfl) ?_
    refine KT.nil ?_
    refine thenK_n ?_
    refine KC.seq ?_
    refine KC.draw Tryd.mixed ?_
    refine KT.step rfl rfl (K.move rfl) ?_
    refine KT.step rfl rfl (K.move rfl) ?_
    refine KT.idxI (m := nxF nx s i) rfl rfl rfl hc rfl (by have := hcl s i hs (by omega); omega) Tryd.underlying38 Tryd.size3 fun cs35 => ?_
    refine KT.step rfl rfl (K.load rfl Tryd.agg3) ?_
    refine KT.step rfl rfl (K.move rfl) ?_
    refine KT.step rfl rfl (K.move rfl) ?_
    refine KT.idxI (m := nxF nx t i) rfl rfl rfl hc rfl (by have := hcl t i ht (by omega); omega) Tryd.underlying38 Tryd.size3 fun cs39 => ?_
    refine KT.step rfl rfl (K.load rfl Tryd.agg3) ?_
    have q1 : (wZ (clsL m (nxF nx) (ouF ou) nx.length j))[nxF nx s i]'(by have := hcl s i hs (by omega); omega) = (cls m (nxF nx) (ouF ou) j (nxF nx s i) : Int) := by rw [get_D]; exact clsL_get (hcl s i hs (by omega))
    have q2 : (wZ (clsL m (nxF nx) (ouF ou) nx.length j))[nxF nx t i]'(by have := hcl t i ht (by omega); omega) = (cls m (nxF nx) (ouF ou) j (nxF nx t i) : Int) := by rw [get_D]; exact clsL_get (hcl t i ht (by omega))
    rw [q1, q2]
    refine KT.step rfl rfl (K.neq rfl rfl) ?_
    refine KT.step rfl rfl (K.move rfl) ?_
    refine KT.bcase (fun hb42 => ?_) (fun hb42 => ?_)
    · skip
      replace hb42 := of_decide_eq_true hb42
      refine KT.skip rfl rfl ?_
      refine KT.skip rfl rfl ?_
      refine KT.skip rfl rfl ?_
      refine KT.step rfl rfl (K.pick rfl (fun _ => rfl) (fun h => by cases h)) ?_
      refine KT.nil ?_
      refine ⟨by kernel_rfl, ?_⟩
      refine thenK_n ?_
      refine KC.cond rfl (fun hc46 => ?_) (fun hc46 => ?_)
      · skip
        refine KC.seq ?_
        refine KC.region ?_
        refine KT.step rfl rfl (K.assign rfl) ?_
        refine KT.nil ?_
        refine thenK_n ?_
        refine KC.ret ?_
        refine blockK_r ?_
        refine thenK_r ?_
        refine thenK_r ?_
        refine blockK_r ?_
        refine thenK_r ?_
        refine ⟨.inl rfl, _, rfl, fin_b (eqB_no fun h => ?_)⟩
        have := (al_iff.2 h i (by omega)).1
        omega
      · cases hc46
    · skip
      replace hb42 := of_decide_eq_false hb42
      refine KT.step rfl rfl (K.move rfl) ?_
      refine KT.step rfl rfl (K.move rfl) ?_
      refine KT.step rfl rfl (K.neq rfl rfl) ?_
      refine KT.step rfl rfl (K.pick rfl (fun h => by cases h) (fun _ => rfl)) ?_
      refine KT.nil ?_
      refine ⟨by kernel_rfl, ?_⟩
      refine thenK_n ?_
      refine KC.cond rfl (fun hc46 => ?_) (fun hc46 => ?_)
      · skip
        replace hc46 := of_decide_eq_true hc46
        refine KC.seq ?_
        refine KC.region ?_
        refine KT.step rfl rfl (K.assign rfl) ?_
        refine KT.nil ?_
        refine thenK_n ?_
        refine KC.ret ?_
        refine blockK_r ?_
        refine thenK_r ?_
        refine thenK_r ?_
        refine blockK_r ?_
        refine thenK_r ?_
        refine ⟨.inl rfl, _, rfl, fin_b (eqB_no fun h => ?_)⟩
        exact hc46 (al_iff.2 h i (by omega)).2
      · skip
        replace hc46 := of_decide_eq_false hc46
        refine KC.skip ?_
        refine blockK_n ?_
        refine thenK_n ?_
        refine KC.region ?_
        refine KT.step rfl rfl (K.add rfl rfl (wrap_id (by omega))) ?_
        refine KT.step rfl rfl (K.move rfl) ?_
        refine KT.nil ?_
        refine thenK_n ?_
        refine ⟨i + 1, ⟨by omega, fun k hk => ?_⟩, by omega, rfl, by simp [Go.Vm.look, extK]⟩
        by_cases e : k = i
        · subst e; exact ⟨by omega, Classical.not_not.1 hc46⟩
        · exact hall k (by omega)
  · skip
    replace hc17 := of_decide_eq_false hc17
    refine KC.exit ?_
    refine thenK_x ?_
    refine thenK_x ?_
    refine blockK_e ?_
    refine thenK_n ?_
    refine KC.seq ?_
    refine KC.region ?_
    refine KT.step rfl rfl (K.assign rfl) ?_
    refine KT.nil ?_
    refine thenK_n ?_
    refine KC.ret ?_
    obtain rfl : i = m := by omega
    exact ⟨.inl rfl, _, rfl, fin_b (eqB_yes (al_iff.1 hall))⟩
set_option maxRecDepth 10000 in
theorem refined130 {m : Nat} {nd od : DV} {nx ou : List (List Int)} (hn : Mat nd nx) (ho : Mat od ou) (hv : VM m nx ou) {j : Nat} {cd : DV} (hc : Ints cd (wZ (clsL m (nxF nx) (ouF ou) nx.length j))) : DeepCall Tryd.prog 130 [.agg [DI (m : Nat), nd, od], cd] (rspV (wZ (clsL m (nxF nx) (ouF ou) nx.length (j + 1)))) := by
  have hm8 : m ≤ 8 := by have := hv.a8; omega
  have hcl : ∀ s i, s < nx.length → i < m → nxF nx s i < nx.length := fun s i a b => (hv.next a (by omega)).1
  have n16 := hv.n16
  have hcz := (wZ_len (clsL m (nxF nx) (ouF ou) nx.length j)).trans (clsL_len (m := m) (nx := nxF nx) (ou := ouF ou) (n := nx.length) j)
  refine deepCall_K 5 Tryd.func130 rfl (Nat.le_of_ble_eq_true rfl) fun M W0 => ?_
  refine KC.seq ?_
  refine KC.region ?_
  refine KT.step rfl rfl (K.box rfl) ?_
  refine KT.step rfl rfl (K.assign rfl) ?_
  refine KT.nil ?_
  refine thenK_n ?_
  refine KC.seq ?_
  refine KC.region ?_
  refine KT.step rfl rfl (K.move rfl) ?_
  refine KT.step rfl rfl (K.len rfl hc Tryd.underlying38) ?_
  refine KT.step rfl rfl (K.make (m := (wZ (clsL m (nxF nx) (ouF ou) nx.length j)).length) (c := (wZ (clsL m (nxF nx) (ouF ou) nx.length j)).length) rfl rfl (Nat.le_refl _) (by omega) Tryd.underlying38 Tryd.one3) ?_
  refine KT.step rfl rfl (K.assign rfl) ?_
  refine KT.nil ?_
  refine thenK_n ?_
  refine KC.seq ?_
  refine KC.seq ?_
  refine KC.region ?_
  refine KT.step rfl rfl (K.move rfl) ?_
  refine KT.step rfl rfl (K.lenO rfl Tryd.underlying38) ?_
  refine KT.step rfl rfl (K.move rfl) ?_
  refine KT.nil ?_
  refine thenK_n ?_
  refine KC.block ?_
  have e0 : (List.replicate (wZ (clsL m (nxF nx) (ouF ou) nx.length j)).length (XV.d (.lit (.int .i64 0)))) = updL nx.length (fun s => XV.d (DI (cls m (nxF nx) (ouF ou) (j + 1) s : Nat))) (.d (DI 0)) 0 := by rw [hcz]; exact updL_zero
  refine KC.loop (fun p : List VObj × Nat => p.1) (fun p => [(1, .d cd), (2, .optr 0 0), (5, .osl 1 0 (wZ (clsL m (nxF nx) (ouF ou) nx.length j)).length 1 (wZ (clsL m (nxF nx) (ouF ou) nx.length j)).length true), (10, .osl 1 0 (wZ (clsL m (nxF nx) (ouF ou) nx.length j)).length 1 (wZ (clsL m (nxF nx) (ouF ou) nx.length j)).length true), (11, .d (DI ((wZ (clsL m (nxF nx) (ouF ou) nx.length j)).length : Nat))), (12, .d (DI (p.2 : Nat)))]) (fun p => p.2 ≤ nx.length ∧ p.1[0]? = some ⟨[.d (DI (m : Nat)), .d nd, .d od], 0⟩ ∧ p.1[1]? = some ⟨updL nx.length (fun s => XV.d (DI (cls m (nxF nx) (ouF ou) (j + 1) s : Nat))) (.d (DI 0)) p.2, 0⟩) (fun p => nx.length - p.2) (_, 0) ⟨Nat.zero_le _, rfl, by rw [← e0]; rfl⟩ rfl (by simp [Go.Vm.look, extK, enterK]) ?_
  intro p hp
  obtain ⟨σ0, s⟩ := p
  obtain ⟨hs, h0, h1⟩ := hp
  simp only at hs h0 h1 ⊢
  refine KC.seq ?_
  refine KC.region ?_
  refine KT.step rfl rfl (K.lss rfl rfl) ?_
  refine KT.nil ?_
  refine thenK_n ?_
  refine KC.seq ?_
  refine KC.cond rfl (fun hc13 => ?_) (fun hc13 => ?_)
  · skip
    replace hc13 := of_decide_eq_true hc13
    have hsn : s < nx.length := by omega
    refine KC.skip ?_
    refine thenK_n ?_
    refine KC.seq ?_
    refine KC.block ?_
    refine KC.seq ?_
    refine KC.region ?_
    refine KT.step rfl rfl (K.move rfl) ?_
    refine KT.step rfl rfl (K.assign rfl) ?_
    refine KT.nil ?_
    refine thenK_n ?_
    refine KC.block ?_
    have e1 : updL nx.length (fun s => XV.d (DI (cls m (nxF nx) (ouF ou) (j + 1) s : Nat))) (.d (DI 0)) s = (updL nx.length (fun s => XV.d (DI (cls m (nxF nx) (ouF ou) (j + 1) s : Nat))) (.d (DI 0)) s).set s (.d (DI (0 : Nat))) := by
      refine List.ext_getElem (by simp) fun i h1 h2 => ?_
      rw [List.getElem_set]
      split
      · rename_i e; subst e; simp [updL]
      · rfl
    rw [e1] at h1
    refine KC.loop (fun p : List VObj × Nat => p.1) (fun p => [(1, .d cd), (2, .optr 0 0), (5, .osl 1 0 (wZ (clsL m (nxF nx) (ouF ou) nx.length j)).length 1 (wZ (clsL m (nxF nx) (ouF ou) nx.length j)).length true), (6, .d (DI (s : Nat))), (10, .osl 1 0 (wZ (clsL m (nxF nx) (ouF ou) nx.length j)).length 1 (wZ (clsL m (nxF nx) (ouF ou) nx.length j)).length true), (11, .d (DI ((wZ (clsL m (nxF nx) (ouF ou) nx.length j)).length : Nat))), (12, .d (DI (s : Nat)))]) (fun p => p.2 ≤ cls m (nxF nx) (ouF ou) (j + 1) s ∧ p.1[0]? = some ⟨[.d (DI (m : Nat)), .d nd, .d od], 0⟩ ∧ p.1[1]? = some ⟨(updL nx.length (fun s => XV.d (DI (cls m (nxF nx) (ouF ou) (j + 1) s : Nat))) (.d (DI 0)) s).set s (.d (DI (p.2 : Nat))), 0⟩) (fun p => cls m (nxF nx) (ouF ou) (j + 1) s - p.2) (σ0, 0) ⟨Nat.zero_le _, h0, h1⟩ rfl (by simp [Go.Vm.look, extK]) ?_
    intro p hp
    obtain ⟨σ1, k⟩ := p
    obtain ⟨hk, g0, g1⟩ := hp
    simp only at hk g0 g1 ⊢
    have hkn : k < nx.length := by have := cls_le (m := m) (nx := nxF nx) (ou := ouF ou) (j + 1) s; omega
    refine KC.seq ?_
    refine KC.seq ?_
    refine KC.draw Tryd.mixed ?_
    refine KT.step rfl rfl (K.loadOA [DI (m : Nat), nd, od] rfl g0 (by decide) Tryd.agg58 Tryd.size58 rfl) ?_
    refine KT.step rfl rfl (K.move rfl) ?_
    refine KT.step rfl rfl (K.move rfl) ?_
    refine KT.step rfl rfl (K.move rfl) ?_
    refine KT.step rfl rfl (K.idxO (m := s) rfl rfl (by omega) Tryd.underlying38 Tryd.size3) ?_
    refine KT.step rfl rfl (K.loadO rfl g1 (by simp) (by rw [Nat.zero_add]; exact List.getElem?_set_self (by rw [updL_len]; omega)) Tryd.agg3) ?_
    refine KT.step rfl rfl (K.move rfl) ?_
    refine KT.step rfl rfl (K.call4 rfl rfl rfl rfl plainTryd_144 (alike144 hn ho hv hsn hkn hc)) ?_
    refine KT.step rfl rfl (K.not rfl) ?_
    refine KT.nil ?_
    refine ⟨by kernel_rfl, ?_⟩
    refine thenK_n ?_
    refine KC.cond rfl (fun hc23 => ?_) (fun hc23 => ?_)
    · skip
      have hne : ¬ EqJ m (nxF nx) (ouF ou) (j + 1) s k := fun h => by rw [eqB_yes h] at hc23; cases hc23
      have hlt : k < cls m (nxF nx) (ouF ou) (j + 1) s := Nat.lt_of_le_of_ne hk fun e => hne (e ▸ (cls_spec (j + 1) s).1)
      refine KC.skip ?_
      refine thenK_n ?_
      refine KC.block ?_
      refine KC.region ?_
      refine KT.step rfl rfl (K.move rfl) ?_
      refine KT.step rfl rfl (K.move rfl) ?_
      refine KT.step rfl rfl (K.idxO (m := s) rfl rfl (by omega) Tryd.underlying38 Tryd.size3) ?_
      refine KT.step rfl rfl (K.loadO rfl g1 (by simp) (by rw [Nat.zero_add]; exact List.getElem?_set_self (by rw [updL_len]; omega)) Tryd.agg3) ?_
      refine KT.step rfl rfl (K.add rfl rfl (wrap_id (by omega))) ?_
      refine KT.step rfl rfl (K.idxO (m := s) rfl rfl (by omega) Tryd.underlying38 Tryd.size3) ?_
      refine KT.storeG rfl rfl rfl rfl g1 (by rw [List.length_set, updL_len]; omega) rfl rfl Tryd.size3 fun σ2 l2 u2 v2 => ?_
      rw [Nat.zero_add, List.set_set] at u2
      have w0 := (v2 0 (by decide)).trans g0
      refine KT.nil ?_
      refine blockK_n ?_
      refine thenK_n ?_
      exact ⟨(σ2, k + 1), ⟨by simp only; omega, w0, u2⟩, by simp only; omega, rfl, by simp [Go.Vm.look, extK]⟩
    · skip
      have heq : EqJ m (nxF nx) (ouF ou) (j + 1) s k := eqB_iff.1 (by simpa using hc23)
      have hke : k = cls m (nxF nx) (ouF ou) (j + 1) s := Nat.le_antisymm hk ((cls_spec (j + 1) s).2 k heq)
      refine KC.exit ?_
      refine thenK_x ?_
      refine thenK_x ?_
      refine blockK_e ?_
      refine blockK_n ?_
      refine thenK_n ?_
      refine KC.region ?_
      refine KT.step rfl rfl (K.add rfl rfl (wrap_id (by omega))) ?_
      refine KT.step rfl rfl (K.move rfl) ?_
      refine KT.nil ?_
      refine thenK_n ?_
      refine ⟨(σ1, s + 1), ⟨by simp only; omega, g0, ?_⟩, by simp only; omega, rfl, by simp [Go.Vm.look, extK]⟩
      simp only
      rw [g1, hke]
      exact congrArg (fun c => some (⟨c, 0⟩ : VObj)) (updL_set (f := (fun s => XV.d (DI (cls m (nxF nx) (ouF ou) (j + 1) s : Nat)))) hsn)
  · skip
    replace hc13 := of_decide_eq_false hc13
    refine KC.exit ?_
    refine thenK_x ?_
    refine thenK_x ?_
    refine blockK_e ?_
    refine thenK_n ?_
    refine KC.seq ?_
    refine KC.region ?_
    refine KT.step rfl rfl (K.move rfl) ?_
    refine KT.step rfl rfl (K.assign rfl) ?_
    refine KT.nil ?_
    refine thenK_n ?_
    refine KC.ret ?_
    obtain rfl : s = nx.length := by omega
    rw [updL_full (Nat.le_refl _)] at h1
    have e : (List.range nx.length).map (fun s => XV.d (DI (cls m (nxF nx) (ouF ou) (j + 1) s : Nat))) = ((wZ (clsL m (nxF nx) (ouF ou) nx.length (j + 1))).map DI).map XV.d := by unfold clsL; rw [wZ_map]; simp
    rw [e] at h1
    refine ⟨.inl rfl, _, rfl, ?_⟩
    exact deepen_ex (k := 3) (by simp [freezeAll, h1]) (by rw [wZ_len, wZ_len, clsL_len, clsL_len])
set_option maxRecDepth 10000 in
theorem classes101 {m : Nat} {nd od : DV} {nx ou : List (List Int)} (hn : Mat nd nx) (ho : Mat od ou) (hv : VM m nx ou) : DeepCall Tryd.prog 101 [.agg [DI (m : Nat), nd, od]] (rspV (wZ (repL m (nxF nx) (ouF ou) nx.length))) := by
  have hm8 : m ≤ 8 := by have := hv.a8; omega
  have hcl : ∀ s i, s < nx.length → i < m → nxF nx s i < nx.length := fun s i a b => (hv.next a (by omega)).1
  have n16 := hv.n16
  refine deepCall_K 5 Tryd.func101 rfl (Nat.le_of_ble_eq_true rfl) fun M W0 => ?_
  refine KC.seq ?_
  refine KC.region ?_
  refine KT.step rfl rfl (K.box rfl) ?_
  refine KT.step rfl rfl (K.assign rfl) ?_
  refine KT.nil ?_
  refine thenK_n ?_
  refine KC.seq ?_
  refine KC.region ?_
  refine KT.step rfl rfl (K.fieldAddrO rfl Tryd.fld58_1 Tryd.size56) ?_
  refine KT.step rfl rfl (K.loadO rfl rfl (by simp) rfl Tryd.agg56) ?_
  refine KT.step rfl rfl (K.len rfl hn Tryd.underlying56) ?_
  refine KT.step rfl rfl (K.make (m := nx.length) (c := nx.length) rfl rfl (Nat.le_refl _) (by omega) Tryd.underlying38 Tryd.one3) ?_
  refine KT.step rfl rfl (K.assign rfl) ?_
  refine KT.nil ?_
  refine thenK_n ?_
  refine KC.block ?_
  have e0 : ((wZ (clsL m (nxF nx) (ouF ou) nx.length 0)).map DI).map XV.d = List.replicate nx.length (XV.d (.lit (.int .i64 0))) := by rw [clsL_zero]; simp [wZ, DI]
  refine KC.ghost [1] 3 (t := 3) rfl (deepen_ex (k := 1) (l := wZ (clsL m (nxF nx) (ouF ou) nx.length 0)) (by rw [e0]; rfl) (by rw [wZ_len, clsL_len])) ?_
  refine KC.loop (fun _ : Nat => _) (fun j => [(1, .optr 0 0), (3, .d (rspV (wZ (clsL m (nxF nx) (ouF ou) nx.length j))))]) (fun _ => True) (fun j => nx.length * nx.length - sumF (cls m (nxF nx) (ouF ou) j) nx.length) 0 trivial rfl (by simp [Go.Vm.look, extK, enterK]) ?_
  intro j _
  refine KC.block ?_
  refine KC.seq ?_
  refine KC.region ?_
  refine KT.step rfl rfl (K.loadOA [DI (m : Nat), nd, od] rfl rfl (by decide) Tryd.agg58 Tryd.size58 rfl) ?_
  refine KT.step rfl rfl (K.move rfl) ?_
  refine KT.step rfl rfl (K.call2 rfl rfl plainTryd_130 (refined130 hn ho hv (j := j) rspV_ints)) ?_
  refine KT.step rfl rfl (K.assign rfl) ?_
  refine KT.nil ?_
  refine thenK_n ?_
  refine KC.seq ?_
  refine KC.seq ?_
  refine KC.region ?_
  refine KT.step rfl rfl (K.move rfl) ?_
  refine KT.step rfl rfl (K.move rfl) ?_
  refine KT.step rfl rfl (K.call2 rfl rfl plainTryd_24 (equal24 rspV_ints rspV_ints (by rw [wZ_len, clsL_len]; omega))) ?_
  refine KT.nil ?_
  refine thenK_n ?_
  refine KC.cond rfl (fun hc14 => ?_) (fun hc14 => ?_)
  · skip
    refine KC.seq ?_
    refine KC.region ?_
    refine KT.step rfl rfl (K.move rfl) ?_
    refine KT.step rfl rfl (K.assign rfl) ?_
    refine KT.nil ?_
    refine thenK_n ?_
    refine KC.ret ?_
    refine thenK_r ?_
    refine blockK_r ?_
    refine thenK_r ?_
    refine blockK_r ?_
    rw [cls_done hcl (of_decide_eq_true hc14)]
    exact ⟨.inl rfl, _, rfl, fin_d rfl⟩
  · skip
    refine KC.skip ?_
    refine thenK_n ?_
    refine KC.region ?_
    refine KT.step rfl rfl (K.move rfl) ?_
    refine KT.step rfl rfl (K.assign rfl) ?_
    refine KT.nil ?_
    refine blockK_n ?_
    refine thenK_n ?_
    have h1 := cls_next (of_decide_eq_false hc14)
    have h2 := cls_sum (m := m) (n := nx.length) (nx := nxF nx) (ou := ouF ou) (j + 1)
    exact ⟨j + 1, trivial, by omega, rfl, by simp [Go.Vm.look, extK]⟩
end Go.Proofs.YteednkolfnjdoaaDoor

