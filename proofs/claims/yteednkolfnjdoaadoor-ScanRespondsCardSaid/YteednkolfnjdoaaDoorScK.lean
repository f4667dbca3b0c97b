import Derived.Test.YteednkolfnjdoaaDoorScJ
import Derived.Test.YteednkolfnjdoaaDoorScZ
/-
  Controllers: numbered machines; the minimal machine.
-/
namespace Go.Proofs.YteednkolfnjdoaaDoor
open Go.Vm Go.Sc
theorem plainTryd_102 : plainFn Tryd.prog 102 = true := by kernel_rfl
theorem plainTryd_98 : plainFn Tryd.prog 98 = true := by kernel_rfl
theorem plainTryd_67 : plainFn Tryd.prog 67 = true := by kernel_rfl
theorem plainTryd_72 : plainFn Tryd.prog 72 = true := by kernel_rfl
theorem plainTryd_40 : plainFn Tryd.prog 40 = true := by kernel_rfl
theorem Tryd.agg143 : isAggT Tryd.prog 143 = some false := by kernel_rfl
set_option maxRecDepth 10000 in
theorem mnc102 {m : Nat} {nd od : DV} {nx ou : List (List Int)} (hn : Mat nd nx) (ho : Mat od ou) (hv : VM m nx ou) {cd : DV} (hc : Ints cd (wZ (repL m (nxF nx) (ouF ou) nx.length))) {s i : Nat} (hs : s < nx.length) (hi : i < m) : DeepCall Tryd.prog 102 [DI (s : Nat), DI (i : Nat), .ptr [DI (m : Nat), nd, od], .ptr [cd]] (.tup [DI (nxR m (nxF nx) (ouF ou) s i : Nat), DI (ouF ou s i)]) := by
  have hnx := (hv.next hs (show (i : Int) < m by omega)).1
  have hcz := (wZ_len (repL m (nxF nx) (ouF ou) nx.length)).trans repL_len
  refine deepCall_K 5 Tryd.func102 rfl (Nat.le_of_ble_eq_true rfl) fun M W0 => ?_
  refine KC.seq ?_
  refine KC.region ?_
  refine KT.step rfl rfl (K.assign rfl) ?_
  refine KT.step rfl rfl (K.assign rfl) ?_
  refine KT.nil ?_
  refine thenK_n ?_
  refine KC.seq ?_
  refine KC.region ?_
  refine KT.step rfl rfl (K.loadAgg (m := 3) rfl Tryd.agg58 Tryd.size58 (by simp)) ?_
  refine KT.step rfl rfl (K.move rfl) ?_
  refine KT.step rfl rfl (K.move rfl) ?_
  refine KT.step rfl rfl (K.call3 rfl rfl rfl plainTryd_70 (step70 hn ho hv hs (by omega))) ?_
  refine KT.step rfl rfl (K.move rfl) ?_
  refine KT.step rfl rfl (K.extract rfl rfl) ?_
  refine KT.step rfl rfl (K.extract rfl rfl) ?_
  refine KT.step rfl rfl (K.assign rfl) ?_
  refine KT.step rfl rfl (K.assign rfl) ?_
  refine KT.nil ?_
  refine thenK_n ?_
  refine KC.seq ?_
  refine KC.region ?_
  refine KT.step rfl rfl (K.load rfl Tryd.agg38) ?_
  refine KT.step rfl rfl (K.move rfl) ?_
  refine KT.idxI (m := nxF nx s i) rfl rfl rfl hc rfl (by omega) Tryd.underlying38 Tryd.size3 fun cs17 => ?_
  refine KT.step rfl rfl (K.load rfl Tryd.agg3) ?_
  refine KT.step rfl rfl (K.move rfl) ?_
  refine KT.step rfl rfl (K.assign rfl) ?_
  refine KT.step rfl rfl (K.assign rfl) ?_
  refine KT.nil ?_
  refine thenK_n ?_
  refine KC.ret ?_
  exact ⟨.inl rfl, _, rfl, by rw [get_D, repL_get hnx]; rfl⟩
set_option maxRecDepth 10000 in
theorem nbc98 {g : FuncId} {fs caps : List DV} (hp : plainFn Tryd.prog g = true) {nx : Nat → Nat → Nat} {ou : Nat → Nat → Int} {m n : Nat} (hcall : ∀ s i, s < n → i < m → DeepCall Tryd.prog g (fs ++ [DI (s : Nat), DI (i : Nat)] ++ caps) (.tup [DI (nx s i : Nat), DI (ou s i)])) {s i : Nat} (hs : s < n) (hi : i < m) : DeepCall Tryd.prog 98 [DI (s : Nat), DI (i : Nat), .ptr [.fn (.func g) fs caps]] (DI (nx s i : Nat)) := by
  refine deepCall_K 5 Tryd.func98 rfl (Nat.le_of_ble_eq_true rfl) fun M W0 => ?_
  refine KC.seq ?_
  refine KC.region ?_
  refine KT.step rfl rfl (K.assign rfl) ?_
  refine KT.nil ?_
  refine thenK_n ?_
  refine KC.seq ?_
  refine KC.region ?_
  refine KT.step rfl rfl (K.load rfl Tryd.agg143) ?_
  refine KT.step rfl rfl (K.move rfl) ?_
  refine KT.step rfl rfl (K.move rfl) ?_
  refine KT.step rfl rfl (K.callFC (fs := fs) (ds := [DI (s : Nat), DI (i : Nat)]) (cs := caps) rfl rfl rfl hp (hcall s i hs hi)) ?_
  refine KT.step rfl rfl (K.move rfl) ?_
  refine KT.step rfl rfl (K.extract rfl rfl) ?_
  refine KT.step rfl rfl (K.extract rfl rfl) ?_
  refine KT.step rfl rfl (K.assign rfl) ?_
  refine KT.step rfl rfl (K.assign rfl) ?_
  refine KT.nil ?_
  refine thenK_n ?_
  refine KC.seq ?_
  refine KC.region ?_
  refine KT.step rfl rfl (K.move rfl) ?_
  refine KT.step rfl rfl (K.assign rfl) ?_
  refine KT.nil ?_
  refine thenK_n ?_
  refine KC.ret ?_
  exact ⟨.inl rfl, _, rfl, fin_d rfl⟩
theorem build58_1 (x : Int) : opBuild Tryd.prog 58 [(0, .d (DI x))] = some (.d (.agg [DI x, Dnil, Dnil])) := by kernel_rfl
theorem cellsX_aggX (xs : List XV) : cellsX (aggX xs) = xs := by
  unfold aggX
  cases h : allD xs with
  | none => rfl
  | some ds => exact (allD_eq h).symm
theorem not_take {l : List Nat} (h : l.Nodup) {k s : Nat} (hk : l[k]? = some s) : s ∉ l.take k := fun hm => by
  obtain ⟨j, hj⟩ := List.getElem?_of_mem hm
  have hlt : j < (l.take k).length := obj_ltF hj
  rw [List.length_take] at hlt
  rw [List.getElem?_take, if_pos (by omega)] at hj
  have := (List.getElem?_inj (obj_ltF hj) h).1 (hj.trans hk.symm)
  omega
theorem numN_row {fs : List (Nat × List Nat)} {nx : Nat → Nat → Nat} {m k : Nat} (hk : k < fs.length) : (numN fs nx m).take (k + 1) = (numN fs nx m).take k ++ [(List.range m).map fun i => ((idxF fs (nx fs[k].1 i) : Nat) : Int)] := by
  rw [List.take_succ_eq_append_getElem (by rw [numN_len]; exact hk)]
  congr 1
  simp [numN]
theorem numO_row {fs : List (Nat × List Nat)} {ou : Nat → Nat → Int} {m k : Nat} (hk : k < fs.length) : (numO fs ou m).take (k + 1) = (numO fs ou m).take k ++ [(List.range m).map fun i => ou fs[k].1 i] := by
  rw [List.take_succ_eq_append_getElem (by rw [numO_len]; exact hk)]
  congr 1
  simp [numO]
set_option maxHeartbeats 3000000 in
set_option maxRecDepth 10000 in
theorem numbered67 {g : FuncId} {fs caps : List DV} (hp : plainFn Tryd.prog g = true) {nx : Nat → Nat → Nat} {ou : Nat → Nat → Int} {m n : Nat} (hcall : ∀ s i, s < n → i < m → DeepCall Tryd.prog g (fs ++ [DI (s : Nat), DI (i : Nat)] ++ caps) (.tup [DI (nx s i : Nat), DI (ou s i)])) (hn16 : n ≤ 16) (hm1 : 1 ≤ m) (hm8 : m ≤ 8) {s0 : Nat} (h0 : s0 < n) (hcl : ∀ s i, s < n → i < m → nx s i < n) : DeepCall Tryd.prog 67 [DI (s0 : Nat), DI (m : Nat), .fn (.func g) fs caps] (.agg [DI (m : Nat), matV (numN (bfs nx m n 0 [(s0, [])]) nx m), matV (numO (bfs nx m n 0 [(s0, [])]) ou m)]) := by
  have hFo := found_I (m := m) h0 hcl
  have hSt : ∀ p ∈ (bfs nx m n 0 [(s0, [])]), p.1 < n := fun p hp => by
    obtain ⟨a, b⟩ := hFo.run p hp
    rw [← a]; exact run_ok (Ok := (· < n)) hcl p.2 s0 h0 b
  have hLe : (bfs nx m n 0 [(s0, [])]).length ≤ n := by
    have := nodup_le hFo.nd (n := n) fun x hx => by obtain ⟨p, hp, rfl⟩ := List.mem_map.1 hx; exact hSt p hp
    simpa using this
  have hPos : 0 < (bfs nx m n 0 [(s0, [])]).length := obj_ltF hFo.fst
  refine deepCall_K 9 Tryd.func67 rfl (Nat.le_of_ble_eq_true rfl) fun M W0 => ?_
  refine KC.seq ?_
  refine KC.region ?_
  refine KT.step rfl rfl (K.box rfl) ?_
  refine KT.step rfl rfl (K.alloc Tryd.zero58) ?_
  refine KT.nil ?_
  refine thenK_n ?_
  refine KC.seq ?_
  refine KC.region ?_
  refine KT.step rfl rfl (K.move rfl) ?_
  refine KT.step rfl rfl (K.move rfl) ?_
  refine KT.step rfl rfl (K.makeF (m := 0) rfl rfl rfl rfl) ?_
  refine KT.step rfl rfl (K.callZ (ds := [DI (s0 : Nat), DI (m : Nat), .fn (.func 98) [] [.ptr [.fn (.func g) fs caps]]]) [0] 5 rfl plainTryd_97 rfl (search97 plainTryd_98 hn16 hm8 h0 hcl (fun s i hs hi => nbc98 hp hcall hs hi))) ?_
  refine KT.step rfl rfl (K.assign rfl) ?_
  refine KT.nil ?_
  refine thenK_n ?_
  refine KC.seq ?_
  refine KC.region ?_
  refine KT.step rfl rfl K.makeMap ?_
  refine KT.step rfl rfl (K.assign rfl) ?_
  refine KT.nil ?_
  refine thenK_n ?_
  refine KC.seq ?_
  refine KC.seq ?_
  refine KC.region ?_
  refine KT.step rfl rfl (K.move rfl) ?_
  refine KT.step rfl rfl (K.lenF (k := 2) rfl (flV_ok (bfs nx m n 0 [(s0, [])])) Tryd.underlying154) ?_
  refine KT.step rfl rfl (K.move rfl) ?_
  refine KT.nil ?_
  refine thenK_n ?_
  refine KC.block ?_
  refine KC.loop (fun p : List VObj × Nat => p.1) (fun p => [(1, .d (DI (m : Nat))), (5, .optr 0 0), (6, .optr 1 0), (7, .d (flV f2 (bfs nx m n 0 [(s0, [])]))), (8, .omp 2), (24, .d (flV f2 (bfs nx m n 0 [(s0, [])]))), (25, .d (DI ((bfs nx m n 0 [(s0, [])]).length : Nat))), (26, .d (DI (p.2 : Nat)))]) (fun p => p.2 ≤ (bfs nx m n 0 [(s0, [])]).length ∧ p.1[0]? = some ⟨[.d (.fn (.func g) fs caps)], 1⟩ ∧ (∃ z, p.1[1]? = some ⟨z, 0⟩ ∧ z.length = 3) ∧ p.1[2]? = some ⟨entX (numK (((bfs nx m n 0 [(s0, [])]).take p.2).map Prod.fst)), 3⟩) (fun p => (bfs nx m n 0 [(s0, [])]).length - p.2) (_, 0) ⟨Nat.zero_le _, rfl, ⟨_, rfl, rfl⟩, rfl⟩ rfl (by simp [Go.Vm.look, extK, enterK]; rfl) ?_
  intro p hp'
  obtain ⟨σ0, k⟩ := p
  obtain ⟨hkL, f0, ⟨z, f1, zl⟩, g2⟩ := hp'
  simp only at hkL f0 f1 g2 ⊢
  refine KC.seq ?_
  refine KC.region ?_
  refine KT.step rfl rfl (K.lss rfl rfl) ?_
  refine KT.nil ?_
  refine thenK_n ?_
  refine KC.seq ?_
  refine KC.cond rfl (fun hc27 => ?_) (fun hc27 => ?_)
  · skip
    replace hc27 := of_decide_eq_true hc27
    have hkl : k < (bfs nx m n 0 [(s0, [])]).length := by omega
    obtain ⟨sk, wk, hk⟩ : ∃ (q1 : Nat) (q2 : List Nat), (bfs nx m n 0 [(s0, [])])[k]? = some (q1, q2) := ⟨_, _, List.getElem?_eq_getElem hkl⟩
    have hk9 : (bfs nx m n 0 [(s0, [])])[k] = (sk, wk) := (List.getElem?_eq_some_iff.1 hk).2
    have hsk : sk < n := hSt _ (List.mem_of_getElem? hk)
    refine KC.skip ?_
    refine thenK_n ?_
    refine KC.seq ?_
    refine KC.block ?_
    refine KC.seq ?_
    refine KC.region ?_
    refine KT.step rfl rfl (K.move rfl) ?_
    refine KT.step rfl rfl (K.idxF f2_len (m := k) rfl (flV_ok (bfs nx m n 0 [(s0, [])])) rfl hkl Tryd.underlying154 Tryd.size158) ?_
    refine KT.step rfl rfl (K.loadFl (f2_len _) rfl Tryd.agg158 Tryd.size158) ?_
    rw [hk9]
    refine KT.step rfl rfl (K.alloc Tryd.zero158) ?_
    refine KT.step rfl rfl (K.assign rfl) ?_
    refine KT.storeL (cs := (f2 (sk, wk)).map .d) rfl rfl rfl rfl rfl rfl (f2_one _) Tryd.size158 ?_
    refine KT.nil ?_
    refine thenK_n ?_
    refine KC.region ?_
    refine KT.step rfl rfl (K.move rfl) ?_
    refine KT.step rfl rfl (K.fieldAddrO rfl Tryd.fld158_0 Tryd.size3) ?_
    refine KT.step rfl rfl (K.loadO rfl (List.getElem?_concat_length ..) (by simp) rfl Tryd.agg3) ?_
    refine KT.step rfl rfl (K.move rfl) ?_
    refine KT.step rfl rfl (K.putNew (k := kI sk) rfl (obj_left g2) keyRI Tryd.underlying156 numK_all rfl rfl rfl rfl (numK_no (by rw [List.map_take]; exact not_take hFo.nd (k := k) (by rw [List.getElem?_map, hk]; rfl)))) ?_
    obtain ⟨σ2, hσ2, v2, vk, vl⟩ := obj_put (obj_left (τ := [(⟨(f2 (sk, wk)).map .d, 0⟩ : VObj)]) g2) ⟨entX (numK (((bfs nx m n 0 [(s0, [])]).take k).map Prod.fst) ++ [(kI sk, .d (DI (k : Nat)))]), 3⟩
    rw [hσ2]
    have v0 := (vk 0 (by decide)).trans (obj_left f0)
    have v1 := (vk 1 (by decide)).trans (obj_left f1)
    refine KT.nil ?_
    refine blockK_n ?_
    refine thenK_n ?_
    refine KC.region ?_
    refine KT.step rfl rfl (K.add rfl rfl (wrap_id (by omega))) ?_
    refine KT.step rfl rfl (K.move rfl) ?_
    refine KT.nil ?_
    refine thenK_n ?_
    refine ⟨(σ2, k + 1), ⟨by simp only; omega, v0, ⟨z, v1, zl⟩, ?_⟩, by simp only; omega, rfl, by simp [Go.Vm.look, extK]⟩
    simp only
    rw [v2, List.take_succ_eq_append_getElem hkl, hk9, List.map_append, List.map_cons, List.map_nil, ← numK_snoc, List.length_map, List.length_take, Nat.min_eq_left (by omega)]
  · skip
    replace hc27 := of_decide_eq_false hc27
    refine KC.exit ?_
    refine thenK_x ?_
    refine thenK_x ?_
    refine blockK_e ?_
    refine thenK_n ?_
    refine KC.seq ?_
    refine KC.region ?_
    refine KT.step rfl rfl (K.move rfl) ?_
    refine KT.step rfl rfl (K.buildS rfl (build58_1 _)) ?_
    refine KT.step rfl rfl (K.alloc Tryd.zero58) ?_
    refine KT.storeL (cs := ([DI (m : Nat), Dnil, Dnil]).map .d) rfl rfl rfl rfl rfl rfl rfl Tryd.size58 ?_
    refine KT.nil ?_
    refine thenK_n ?_
    refine KC.seq ?_
    refine KC.seq ?_
    refine KC.region ?_
    refine KT.step rfl rfl (K.move rfl) ?_
    refine KT.step rfl rfl (K.lenF (k := 2) rfl (flV_ok (bfs nx m n 0 [(s0, [])])) Tryd.underlying154) ?_
    refine KT.step rfl rfl (K.move rfl) ?_
    refine KT.nil ?_
    refine thenK_n ?_
    refine KC.block ?_
    rw [List.take_of_length_le (by omega)] at g2
    have hL3 : 3 ≤ σ0.length := by have := obj_lt g2; omega
    have f0' := obj_left (τ := [(⟨[.d (DI (m : Nat)), .d Dnil, .d Dnil], 0⟩ : VObj)]) f0
    have f1' := obj_left (τ := [(⟨[.d (DI (m : Nat)), .d Dnil, .d Dnil], 0⟩ : VObj)]) f1
    have g2' := obj_left (τ := [(⟨[.d (DI (m : Nat)), .d Dnil, .d Dnil], 0⟩ : VObj)]) g2
    have fe' : (σ0 ++ [(⟨[.d (DI (m : Nat)), .d Dnil, .d Dnil], 0⟩ : VObj)])[σ0.length]? = some ⟨[.d (DI (m : Nat)), .d Dnil, .d Dnil], 0⟩ := (List.getElem?_concat_length ..)
    generalize hE : σ0.length = e at *
    refine KC.loop (fun p : List VObj × XV × XV × Nat => p.1) (fun p => [(1, .d (DI (m : Nat))), (5, .optr 0 0), (6, .optr 1 0), (8, .omp 2), (11, .optr e 0), (38, .d (flV f2 (bfs nx m n 0 [(s0, [])]))), (39, .d (DI ((bfs nx m n 0 [(s0, [])]).length : Nat))), (40, .d (DI (p.2.2.2 : Nat)))]) (fun p => p.2.2.2 ≤ (bfs nx m n 0 [(s0, [])]).length ∧ p.1[0]? = some ⟨[.d (.fn (.func g) fs caps)], 1⟩ ∧ (∃ z, p.1[1]? = some ⟨z, 0⟩ ∧ z.length = 3) ∧ p.1[2]? = some ⟨entX (numK ((bfs nx m n 0 [(s0, [])]).map Prod.fst)), 3⟩ ∧ p.1[e]? = some ⟨[.d (DI (m : Nat)), p.2.1, p.2.2.1], 0⟩ ∧ OwnK 1 p.1 p.2.1 ((((numN (bfs nx m n 0 [(s0, [])]) nx m).take p.2.2.2).map rowV).map .d) ∧ OwnK 1 p.1 p.2.2.1 ((((numO (bfs nx m n 0 [(s0, [])]) ou m).take p.2.2.2).map rowV).map .d) ∧ (∀ j, idX p.2.1 = some j → e < j) ∧ (∀ j, idX p.2.2.1 = some j → e < j) ∧ (∀ j, idX p.2.1 = some j → idX p.2.2.1 ≠ some j)) (fun p => (bfs nx m n 0 [(s0, [])]).length - p.2.2.2) (_, .d Dnil, .d Dnil, 0) ⟨Nat.zero_le _, f0', ⟨z, f1', zl⟩, g2', fe', .nil, .nil, fun j h => absurd h (by simp [idX]), fun j h => absurd h (by simp [idX]), fun j h => absurd h (by simp [idX])⟩ (by rfl) (by simp [Go.Vm.look, extK]) ?_
    clear f0 f1 g2 f0' f1' g2' fe' hkL zl hE
    intro p hp'
    obtain ⟨σ0, x1, x2, k⟩ := p
    obtain ⟨hkL, f0, ⟨z, f1, zl⟩, g2, fe, o1, o2, d1, d2, d12⟩ := hp'
    simp only at hkL f0 f1 g2 fe o1 o2 d1 d2 d12 ⊢
    have le := obj_lt fe
    refine KC.seq ?_
    refine KC.region ?_
    refine KT.step rfl rfl (K.lss rfl rfl) ?_
    refine KT.nil ?_
    refine thenK_n ?_
    refine KC.seq ?_
    refine KC.cond rfl (fun hc41 => ?_) (fun hc41 => ?_)
    · skip
      replace hc41 := of_decide_eq_true hc41
      have hkl : k < (bfs nx m n 0 [(s0, [])]).length := by omega
      obtain ⟨sk, wk, hk⟩ : ∃ (q1 : Nat) (q2 : List Nat), (bfs nx m n 0 [(s0, [])])[k]? = some (q1, q2) := ⟨_, _, List.getElem?_eq_getElem hkl⟩
      have hk9 : (bfs nx m n 0 [(s0, [])])[k] = (sk, wk) := (List.getElem?_eq_some_iff.1 hk).2
      have hsk : sk < n := hSt _ (List.mem_of_getElem? hk)
      refine KC.skip ?_
      refine thenK_n ?_
      refine KC.seq ?_
      refine KC.block ?_
      refine KC.seq ?_
      refine KC.region ?_
      refine KT.step rfl rfl (K.idxF f2_len (m := k) rfl (flV_ok (bfs nx m n 0 [(s0, [])])) rfl hkl Tryd.underlying154 Tryd.size158) ?_
      refine KT.step rfl rfl (K.loadFl (f2_len _) rfl Tryd.agg158 Tryd.size158) ?_
      rw [hk9]
      refine KT.step rfl rfl (K.alloc Tryd.zero158) ?_
      refine KT.storeL (cs := (f2 (sk, wk)).map .d) rfl rfl rfl rfl rfl rfl (f2_one _) Tryd.size158 ?_
      refine KT.nil ?_
      refine thenK_n ?_
      refine KC.seq ?_
      refine KC.region ?_
      refine KT.step rfl rfl (K.assign rfl) ?_
      refine KT.step rfl rfl (K.assign rfl) ?_
      refine KT.nil ?_
      refine thenK_n ?_
      refine KC.seq ?_
      refine KC.seq ?_
      refine KC.region ?_
      refine KT.step rfl rfl (K.move rfl) ?_
      refine KT.step rfl rfl (K.move rfl) ?_
      refine KT.nil ?_
      refine thenK_n ?_
      refine KC.block ?_
      generalize hL1 : (σ0 ++ [(⟨(f2 (sk, wk)).map .d, 0⟩ : VObj)]).length = L1
      rw [List.length_append] at hL1
      simp only [List.length_cons, List.length_nil] at hL1
      refine KC.loop (fun p : List VObj × XV × XV × Nat => p.1) (fun p => [(1, .d (DI (m : Nat))), (5, .optr 0 0), (6, .optr 1 0), (8, .omp 2), (11, .optr e 0), (13, .optr σ0.length 0), (14, p.2.1), (15, p.2.2.1), (38, .d (flV f2 (bfs nx m n 0 [(s0, [])]))), (39, .d (DI ((bfs nx m n 0 [(s0, [])]).length : Nat))), (40, .d (DI (k : Nat))), (44, .d (DI (m : Nat))), (45, .d (DI (p.2.2.2 : Nat)))]) (fun p => p.2.2.2 ≤ m ∧ (∀ j, j < L1 → p.1[j]? = (σ0 ++ [(⟨(f2 (sk, wk)).map .d, 0⟩ : VObj)])[j]?) ∧ OwnK 1 p.1 p.2.1 ((((List.range p.2.2.2).map fun r => ((idxF (bfs nx m n 0 [(s0, [])]) (nx sk r) : Nat) : Int)).map DI).map .d) ∧ OwnK 1 p.1 p.2.2.1 ((((List.range p.2.2.2).map fun r => ou sk r).map DI).map .d) ∧ (∀ j, idX p.2.1 = some j → L1 ≤ j) ∧ (∀ j, idX p.2.2.1 = some j → L1 ≤ j) ∧ (∀ j, idX p.2.1 = some j → idX p.2.2.1 ≠ some j) ∧ L1 ≤ p.1.length) (fun p => m - p.2.2.2) (_, .d Dnil, .d Dnil, 0) ⟨Nat.zero_le _, fun _ _ => rfl, .nil, .nil, fun j h => absurd h (by simp [idX]), fun j h => absurd h (by simp [idX]), fun j h => absurd h (by simp [idX]), by simp only [List.length_append, List.length_cons, List.length_nil]; omega⟩ (by rfl) (by simp [Go.Vm.look, extK]) ?_
      intro p hp'
      obtain ⟨σ1, y1, y2, i⟩ := p
      obtain ⟨him0, kp, q1, q2, h1, h2, h12, hL⟩ := hp'
      simp only at him0 kp q1 q2 h1 h2 h12 hL ⊢
      refine KC.seq ?_
      refine KC.region ?_
      refine KT.step rfl rfl (K.lss rfl rfl) ?_
      refine KT.nil ?_
      refine thenK_n ?_
      refine KC.seq ?_
      refine KC.cond rfl (fun hc46 => ?_) (fun hc46 => ?_)
      · skip
        replace hc46 := of_decide_eq_true hc46
        have him : i < m := by omega
        have hidx : ((bfs nx m n 0 [(s0, [])]).map Prod.fst)[idxF (bfs nx m n 0 [(s0, [])]) (nx sk i)]? = some (nx sk i) := by
          obtain ⟨r1, r2⟩ := hFo.run _ (List.mem_of_getElem? hk)
          simp only at r1 r2
          obtain ⟨q, hq, e⟩ := hFo.idx (r2.snoc him)
          rw [runW_snoc, r1] at hq e
          rw [List.getElem?_map, hq, ← e]; rfl
        have b0 := (kp 0 (by omega)).trans (obj_left (τ := [(⟨(f2 (sk, wk)).map .d, 0⟩ : VObj)]) f0)
        have b2 := (kp 2 (by omega)).trans (obj_left (τ := [(⟨(f2 (sk, wk)).map .d, 0⟩ : VObj)]) g2)
        have b13 : σ1[σ0.length]? = some ⟨(f2 (sk, wk)).map .d, 0⟩ := (kp σ0.length (by omega)).trans (List.getElem?_concat_length ..)
        refine KC.skip ?_
        refine thenK_n ?_
        refine KC.seq ?_
        refine KC.block ?_
        refine KC.seq ?_
        refine KC.region ?_
        refine KT.step rfl rfl (K.move rfl) ?_
        refine KT.step rfl rfl (K.assign rfl) ?_
        refine KT.nil ?_
        refine thenK_n ?_
        refine KC.seq ?_
        refine KC.region ?_
        refine KT.step rfl rfl (K.loadO rfl b0 (by simp) rfl Tryd.agg143) ?_
        refine KT.step rfl rfl (K.fieldAddrO rfl Tryd.fld158_0 Tryd.size3) ?_
        refine KT.step rfl rfl (K.loadO rfl b13 (by simp) rfl Tryd.agg3) ?_
        refine KT.step rfl rfl (K.move rfl) ?_
        refine KT.step rfl rfl (K.callFC (fs := fs) (ds := [DI (sk : Nat), DI (i : Nat)]) (cs := caps) rfl rfl rfl hp (hcall sk i hsk (by omega))) ?_
        refine KT.step rfl rfl (K.move rfl) ?_
        refine KT.step rfl rfl (K.extract rfl rfl) ?_
        refine KT.step rfl rfl (K.extract rfl rfl) ?_
        refine KT.step rfl rfl (K.assign rfl) ?_
        refine KT.step rfl rfl (K.assign rfl) ?_
        refine KT.nil ?_
        refine thenK_n ?_
        refine KC.seq ?_
        refine KC.region ?_
        refine KT.step rfl rfl (K.move rfl) ?_
        refine KT.step rfl rfl (K.move rfl) ?_
        refine KT.step rfl rfl (K.move rfl) ?_
        refine KT.step rfl rfl (K.look (k := kI (nx sk i)) rfl b2 keyRI Tryd.underlying156 numK_all rfl rfl rfl (numK_at hFo.nd hidx)) ?_
        refine KT.step rfl rfl (K.build1' (v := .d (DI (idxF (bfs nx m n 0 [(s0, [])]) (nx sk i) : Nat))) rfl rfl Tryd.underlying38 Tryd.one3) ?_
        refine KT.appK (k := 1) (vs := [.d (DI (idxF (bfs nx m n 0 [(s0, [])]) (nx sk i) : Nat))]) rfl rfl rfl rfl (q1.pushed _) (List.getElem?_concat_length ..) rfl rfl (by simp; omega) Tryd.underlying38 Tryd.size3 (of_decide_eq_true (by kernel_rfl)) (by kernel_rfl) (by decide) fun σ2 y3 o3 k3 w3 => ?_
        obtain ⟨j3, w3a, w3b⟩ := w3
        rw [List.length_append] at w3b
        have q2n : OwnK 1 σ2 y2 _ := q2.keep fun j hj => (k3 j (fun h => h12 j h hj) (by have := q2.lt hj; rw [List.length_append]; omega)).trans (List.getElem?_append_left (q2.lt hj))
        have kp2 : ∀ j, j < L1 → σ2[j]? = σ1[j]? := fun j hj => (k3 j (fun h => by have := h1 j h; omega) (by rw [List.length_append]; omega)).trans (List.getElem?_append_left (by omega))
        have l2 : σ1.length + 1 ≤ σ2.length := by have := o3.lt w3a; omega
        refine KT.step rfl rfl (K.assign rfl) ?_
        refine KT.nil ?_
        refine thenK_n ?_
        refine KC.region ?_
        refine KT.step rfl rfl (K.move rfl) ?_
        refine KT.step rfl rfl (K.move rfl) ?_
        refine KT.step rfl rfl (K.build1' (v := .d (DI (ou sk i))) rfl rfl Tryd.underlying38 Tryd.one3) ?_
        refine KT.appK (k := 1) (vs := [.d (DI (ou sk i))]) rfl rfl rfl rfl (q2n.pushed _) (List.getElem?_concat_length ..) rfl rfl (by simp; omega) Tryd.underlying38 Tryd.size3 (of_decide_eq_true (by kernel_rfl)) (by kernel_rfl) (by decide) fun σ3 y4 o4 k4 w4 => ?_
        obtain ⟨j4, w4a, w4b⟩ := w4
        rw [List.length_append] at w4b
        refine KT.step rfl rfl (K.assign rfl) ?_
        refine KT.nil ?_
        refine blockK_n ?_
        refine thenK_n ?_
        refine KC.region ?_
        refine KT.step rfl rfl (K.add rfl rfl (wrap_id (by omega))) ?_
        refine KT.step rfl rfl (K.move rfl) ?_
        refine KT.nil ?_
        refine thenK_n ?_
        refine ⟨(σ3, y3, y4, i + 1), ⟨by simp only; omega, fun j hj => ?_, ?_, ?_, fun j hj => ?_, fun j hj => ?_, fun j hj hj2 => ?_, ?_⟩, by simp only; omega, rfl, by simp [Go.Vm.look, extK]⟩
        · simp only
          exact ((k4 j (fun h => by have := h2 j h; omega) (by rw [List.length_append]; omega)).trans (List.getElem?_append_left (by omega))).trans ((kp2 j hj).trans (kp j hj))
        · simp only
          rw [List.range_succ, List.map_append, List.map_append, List.map_append]
          exact o3.keep fun j hj => (k4 j (fun h => by have := q2.lt h; rw [w3a] at hj; cases hj; omega) (by have := o3.lt hj; rw [List.length_append]; omega)).trans (List.getElem?_append_left (o3.lt hj))
        · simp only
          rw [List.range_succ, List.map_append, List.map_append, List.map_append]
          exact o4
        · simp only at hj; rw [w3a] at hj; cases hj; omega
        · simp only at hj; rw [w4a] at hj; cases hj; omega
        · simp only at hj hj2; rw [w3a] at hj; rw [w4a] at hj2; cases hj; cases hj2
          have := o3.lt w3a
          omega
        · simp only
          have := o4.lt w4a
          omega
      · skip
        replace hc46 := of_decide_eq_false hc46
        refine KC.exit ?_
        refine thenK_x ?_
        refine thenK_x ?_
        refine blockK_e ?_
        refine thenK_n ?_
        refine KC.seq ?_
        have hrow1 : q1 = q1 := rfl
        obtain rfl : m = i := by omega
        obtain ⟨id1, rfl, hid1⟩ := q1.is (n := ((List.range m).map fun r => ((idxF (bfs nx m n 0 [(s0, [])]) (nx sk r) : Nat) : Int)).length) (by simp) (by decide) (by simp; omega)
        obtain ⟨id2, rfl, hid2⟩ := q2.is (n := ((List.range m).map fun r => ou sk r).length) (by simp) (by decide) (by simp; omega)
        have hid12 : id2 ≠ id1 := fun e => h12 id1 rfl (by rw [e]; rfl)
        have hi1 := h1 id1 rfl
        have hi2 := h2 id2 rfl
        generalize hσ2 : freezeIds σ1 [id1] = σ2
        generalize hσ3 : freezeIds σ2 [id2] = σ3
        have g1 : ∀ j, j < σ0.length → σ3[j]? = σ0[j]? := fun j hj => by rw [← hσ3, fz_ne (by omega), ← hσ2, fz_ne (by omega)]; exact (kp j (by omega)).trans (List.getElem?_append_left hj)
        have l3 : σ3.length = σ1.length := by rw [← hσ3, ← hσ2, fz_len, fz_len]
        have a0 := (g1 0 (by omega)).trans f0
        have a1 := (g1 1 (by omega)).trans f1
        have a2 := (g1 2 (by omega)).trans g2
        have ae := (g1 e (by omega)).trans fe
        have p1 : OwnK 1 σ3 x1 _ := o1.keep fun j hj => g1 j (o1.lt hj)
        have p2 : OwnK 1 σ3 x2 _ := o2.keep fun j hj => g1 j (o2.lt hj)
        refine KC.ghost [id1] 3 (t := 14) rfl (deepen_row (k := 1) (fz_one hid1)) ?_
        rw [hσ2]
        refine KC.ghost [id2] 3 (t := 15) rfl (deepen_row (k := 1) (fz_one (by rw [← hσ2, fz_ne hid12]; exact hid2))) ?_
        rw [hσ3]
        refine KC.region ?_
        refine KT.step rfl rfl (K.fieldAddrO rfl Tryd.fld58_1 Tryd.size56) ?_
        refine KT.step rfl rfl (K.loadO rfl ae (by simp) rfl Tryd.agg56) ?_
        refine KT.step rfl rfl (K.move rfl) ?_
        refine KT.step rfl rfl (K.build1' (v := .d (rowV ((List.range m).map fun r => ((idxF (bfs nx m n 0 [(s0, [])]) (nx sk r) : Nat) : Int)))) rfl rfl Tryd.underlying56 Tryd.one38) ?_
        refine KT.appK (k := 1) (vs := [.d (rowV ((List.range m).map fun r => ((idxF (bfs nx m n 0 [(s0, [])]) (nx sk r) : Nat) : Int)))]) rfl rfl rfl rfl (p1.pushed _) (List.getElem?_concat_length ..) rfl rfl (by simp; omega) Tryd.underlying56 Tryd.size38 (of_decide_eq_true (by kernel_rfl)) (by kernel_rfl) (by decide) fun σ4 x4 o4 k4 w4 => ?_
        obtain ⟨j4, w4a, w4b⟩ := w4
        rw [List.length_append] at w4b
        have r4 : ∀ (j : Nat) (o : VObj), idX x1 ≠ some j → σ3[j]? = some o → σ4[j]? = some o := fun j o h1 h2 => (k4 j h1 (by have := obj_lt h2; rw [List.length_append]; omega)).trans (obj_left h2)
        have c0 := r4 0 _ (fun h => by have := d1 0 h; omega) a0
        have c1 := r4 1 _ (fun h => by have := d1 1 h; omega) a1
        have c2 := r4 2 _ (fun h => by have := d1 2 h; omega) a2
        have ce := r4 e _ (fun h => by have := d1 e h; omega) ae
        have p2b : OwnK 1 σ4 x2 _ := p2.keep fun j hj => (k4 j (fun h => d12 j h hj) (by have := p2.lt hj; rw [List.length_append]; omega)).trans (List.getElem?_append_left (p2.lt hj))
        have l4 : j4 < σ4.length := o4.lt w4a
        refine KT.step rfl rfl (K.fieldAddrO rfl Tryd.fld58_1 Tryd.size56) ?_
        refine KT.storeG rfl rfl rfl rfl ce (by simp) o4.cells.1 o4.cells.2 Tryd.size56 fun σ5 l5 u5 v5 => ?_
        have e0 := (v5 0 (by omega)).trans c0
        have e1 := (v5 1 (by omega)).trans c1
        have e2 := (v5 2 (by omega)).trans c2
        have o4c : OwnK 1 σ5 x4 _ := o4.keep fun j hj => v5 j (by rw [w4a] at hj; cases hj; omega)
        have p2c : OwnK 1 σ5 x2 _ := p2b.keep fun j hj => v5 j (by have := d2 j hj; omega)
        have d2' : ∀ j, idX x2 = some j → j < σ3.length := fun j hj => p2.lt hj
        refine KT.nil ?_
        refine thenK_n ?_
        refine KC.region ?_
        refine KT.step rfl rfl (K.fieldAddrO rfl Tryd.fld58_2 Tryd.size56) ?_
        refine KT.step rfl rfl (K.loadO rfl u5 (by simp) rfl Tryd.agg56) ?_
        refine KT.step rfl rfl (K.move rfl) ?_
        refine KT.step rfl rfl (K.build1' (v := .d (rowV ((List.range m).map fun r => ou sk r))) rfl rfl Tryd.underlying56 Tryd.one38) ?_
        refine KT.appK (k := 1) (vs := [.d (rowV ((List.range m).map fun r => ou sk r))]) rfl rfl rfl rfl (p2c.pushed _) (List.getElem?_concat_length ..) rfl rfl (by simp; omega) Tryd.underlying56 Tryd.size38 (of_decide_eq_true (by kernel_rfl)) (by kernel_rfl) (by decide) fun σ6 x6 o6 k6 w6 => ?_
        obtain ⟨j6, w6a, w6b⟩ := w6
        rw [List.length_append] at w6b
        have r6 : ∀ (j : Nat) (o : VObj), idX x2 ≠ some j → σ5[j]? = some o → σ6[j]? = some o := fun j o h1 h2 => (k6 j h1 (by have := obj_lt h2; rw [List.length_append]; omega)).trans (obj_left h2)
        have z0 := r6 0 _ (fun h => by have := d2 0 h; omega) e0
        have z1 := r6 1 _ (fun h => by have := d2 1 h; omega) e1
        have z2 := r6 2 _ (fun h => by have := d2 2 h; omega) e2
        have ze := r6 e _ (fun h => by have := d2 e h; omega) u5
        have o4d : OwnK 1 σ6 x4 _ := o4c.keep fun j hj => (k6 j (fun h => by have := d2' j h; rw [w4a] at hj; cases hj; omega) (by have := o4c.lt hj; rw [List.length_append]; omega)).trans (List.getElem?_append_left (o4c.lt hj))
        refine KT.step rfl rfl (K.fieldAddrO rfl Tryd.fld58_2 Tryd.size56) ?_
        refine KT.storeG rfl rfl rfl rfl ze (by simp) o6.cells.1 o6.cells.2 Tryd.size56 fun σ7 l7 u7 v7 => ?_
        refine KT.nil ?_
        refine blockK_n ?_
        refine thenK_n ?_
        refine KC.region ?_
        refine KT.step rfl rfl (K.add rfl rfl (wrap_id (by omega))) ?_
        refine KT.step rfl rfl (K.move rfl) ?_
        refine KT.nil ?_
        refine thenK_n ?_
        refine ⟨(σ7, x4, x6, k + 1), ⟨by simp only; omega, (v7 0 (by omega)).trans z0, ⟨z, (v7 1 (by omega)).trans z1, zl⟩, (v7 2 (by omega)).trans z2, u7, ?_, ?_, fun j hj => ?_, fun j hj => ?_, fun j hj hj2 => ?_⟩, by simp only; omega, rfl, by simp [Go.Vm.look, extK]⟩
        · simp only
          rw [numN_row hkl, hk9, List.map_append, List.map_append]
          exact o4d.keep fun j hj => v7 j (by rw [w4a] at hj; cases hj; omega)
        · simp only
          rw [numO_row hkl, hk9, List.map_append, List.map_append]
          exact o6.keep fun j hj => v7 j (by rw [w6a] at hj; cases hj; omega)
        · simp only at hj; rw [w4a] at hj; cases hj; omega
        · simp only at hj; rw [w6a] at hj; cases hj; omega
        · simp only at hj hj2; rw [w4a] at hj; rw [w6a] at hj2; cases hj; cases hj2; omega
    · skip
      replace hc41 := of_decide_eq_false hc41
      refine KC.exit ?_
      refine thenK_x ?_
      refine thenK_x ?_
      refine blockK_e ?_
      refine thenK_n ?_
      refine KC.seq ?_
      refine KC.region ?_
      refine KT.step rfl rfl (K.loadOX (m := 3) [.d (DI (m : Nat)), x1, x2] rfl fe (by simp) Tryd.agg58 Tryd.size58 rfl rfl) ?_
      refine KT.putAll (cs := [.d (DI (m : Nat)), x1, x2]) rfl rfl rfl rfl f1 (cellsX_aggX _) zl (by simp only [List.all_cons, o1.cells.2, o2.cells.2]; rfl) Tryd.size58 ?_
      refine KT.nil ?_
      refine thenK_n ?_
      refine KC.ret ?_
      rw [List.take_of_length_le (by rw [numN_len]; omega)] at o1
      rw [List.take_of_length_le (by rw [numO_len]; omega)] at o2
      generalize hLz : (bfs nx m n 0 [(s0, [])]).length = L at *
      obtain ⟨i1, rfl, a1⟩ := o1.is (n := L) (by simp [numN_len, hLz]) (by decide) (by omega)
      obtain ⟨i2, rfl, a2⟩ := o2.is (n := L) (by simp [numO_len, hLz]) (by decide) (by omega)
      have h1e := d1 i1 rfl
      have h2e := d2 i2 rfl
      generalize hCS : ([.d (DI (m : Nat)), .osl i1 0 L 1 L false, .osl i2 0 L 1 L false] : List XV) = CS
      have e1 : (σ0.set 1 ⟨CS, 0⟩)[1]? = some ⟨CS, 0⟩ := by rw [List.getElem?_set, if_pos rfl, if_pos (obj_lt f1)]
      have b1 := a1
      rw [← List.getElem?_set_ne (i := 1) (a := (⟨CS, 0⟩ : VObj)) (by omega)] at b1
      have b2 := a2
      rw [← List.getElem?_set_ne (i := 1) (a := (⟨CS, 0⟩ : VObj)) (by omega)] at b2
      refine ⟨.inl rfl, _, resK_agg (m := 3) rfl rfl e1 (by simp) Tryd.agg58 Tryd.size58 (by rw [← hCS]; simp), ?_⟩
      have g1 := deepen_all (k := 6) b1 (n := L) (by simp [numN_len, hLz])
      have g2' := deepen_all (k := 6) b2 (n := L) (by simp [numO_len, hLz])
      generalize σ0.set 1 ⟨CS, 0⟩ = σZ at g1 g2' ⊢
      rw [← hCS]
      show (([.d (DI (m : Nat)), .osl i1 0 L 1 L false, .osl i2 0 L 1 L false] : List XV).mapM (deepen (freezeAll σZ) 8)).map DV.agg = _
      rw [List.mapM_cons, List.mapM_cons, List.mapM_cons, g1, g2']
      simp only [matV, numN_len, numO_len, hLz]
      rfl
end Go.Proofs.YteednkolfnjdoaaDoor

