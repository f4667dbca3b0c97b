import Derived.Test.YteednkolfnjdoaaDoorScB
import Derived.Test.YteednkolfnjdoaaDoorScZ
/-
  Controllers: the search.
-/
namespace Go.Proofs.YteednkolfnjdoaaDoor
open Go.Vm Go.Sc
theorem obj_ltF {α : Type} {l : List α} {i : Nat} {x : α} (h : l[i]? = some x) : i < l.length := (List.getElem?_eq_some_iff.1 h).1
set_option maxHeartbeats 1600000 in
set_option maxRecDepth 10000 in
theorem search97 {g : FuncId} {caps : List DV} (hp : plainFn Tryd.prog g = true) {nx : Nat → Nat → Nat} {m : Nat} {s0 : Nat} {n1 : Nat} (hn1 : n1 ≤ 16) (hm : m ≤ 8) (h0 : (fun s : Nat => s < n1) s0) (hcl : ∀ s i, (fun s : Nat => s < n1) s → i < m → (fun s : Nat => s < n1) (nx s i))
    (hcall : ∀ s i, (fun s : Nat => s < n1) s → i < m → DeepCall Tryd.prog g ([DI (s : Nat), DI (i : Nat)] ++ caps) (DI ((nx s i) : Nat))) : DeepCall Tryd.prog 97 [DI (s0 : Nat), DI (m : Nat), .fn (.func g) [] caps] (flV f2 (bfs nx m n1 0 [(s0, [])])) := by
  have hkeyA : ∀ s, (fun s : Nat => s < n1) s → MapKept.IsKey (.int .i64) (kI s) := fun s hs => rfl
  have hkey : ∀ s i, (fun s : Nat => s < n1) s → i < m → MapKept.IsKey (.int .i64) (kI (nx s i)) := fun s i hs hi => hkeyA _ (hcl s i hs hi)
  have hk0 : MapKept.IsKey (.int .i64) (kI s0) := hkeyA _ h0
  refine deepCall_K 5 Tryd.func97 rfl (Nat.le_of_ble_eq_true rfl) fun M W0 => ?_
  refine KC.seq ?_
  refine KC.region ?_
  refine KT.step rfl rfl (K.assign rfl) ?_
  refine KT.nil ?_
  refine thenK_n ?_
  refine KC.seq ?_
  refine KC.region ?_
  refine KT.step rfl rfl (K.move rfl) ?_
  refine KT.step rfl rfl (K.buildS rfl (build158_1 _)) ?_
  refine KT.step rfl rfl (K.buildK (k := 2) (ds := f2 (s0, [])) rfl rfl Tryd.underlying154 Tryd.size158 Tryd.zero158 (by decide)) ?_
  refine KT.step rfl rfl (K.assign rfl) ?_
  refine KT.nil ?_
  refine thenK_n ?_
  refine KC.seq ?_
  refine KC.region ?_
  refine KT.step rfl rfl K.makeMap ?_
  refine KT.step rfl rfl (K.move rfl) ?_
  refine KT.step rfl rfl (K.putIns (l := []) (k := kI s0) rfl rfl keyRI Tryd.underlying188 (fun p hp => by cases hp) rfl rfl hk0 rfl (fun p hp => by cases hp)) ?_
  refine KT.step rfl rfl (K.move rfl) ?_
  refine KT.step rfl rfl (K.assign rfl) ?_
  refine KT.nil ?_
  refine thenK_n ?_
  refine KC.seq ?_
  refine KC.seq ?_
  refine KC.ghostX (t := 7) (y := .osl 0 0 1 2 1 false) rfl (fun w ι F v h => osl_loose h) ?_
  refine KC.region ?_
  refine KT.step rfl rfl (K.assign rfl) ?_
  refine KT.nil ?_
  refine thenK_n ?_
  refine KC.block ?_
  have hB : ∀ fs : List (Nat × List Nat), (fs.map Prod.fst).Nodup → (∀ p ∈ fs, (fun s : Nat => s < n1) p.1) → fs.length ≤ n1 := fun fs h1 h2 => by
    have := nodup_le h1 fun x hx => by obtain ⟨p, hp, rfl⟩ := List.mem_map.1 hx; exact h2 p hp
    simpa using this
  
  refine KC.loop (fun p : List VObj × Nat × List (Nat × List Nat) × Nat => p.1) (fun s => [(1, .d (DI (m : Nat))), (2, .d (.fn (.func g) [] caps)), (7, .osl s.2.1 0 s.2.2.1.length 2 s.2.2.1.length false), (8, .omp 1), (9, .d (DI (s.2.2.2 : Nat)))]) (fun s => s.1[s.2.1]? = some ⟨(s.2.2.1.flatMap f2).map .d, 0⟩ ∧ s.1[1]? = some ⟨entX (met kI (s.2.2.1.map Prod.fst)), 3⟩ ∧ SI nx m s0 (fun s : Nat => s < n1) s.2.2.2 0 s.2.2.1 ∧ s.2.2.2 ≤ s.2.2.1.length ∧ bfs nx m (n1 - s.2.2.2) s.2.2.2 s.2.2.1 = bfs nx m n1 0 [(s0, [])]) (fun s => n1 + 1 - s.2.2.2) (_, 0, [(s0, [])], 0) ⟨rfl, rfl, .start h0, Nat.zero_le _, rfl⟩ rfl (by simp [Go.Vm.look, extK, enterK]) ?_
  intro s hs
  obtain ⟨σ0, id, fs, k⟩ := s
  obtain ⟨hid, hmp, hS, hkl, hR⟩ := hs
  simp only at hid hmp hS hkl hR ⊢
  have hfl := hB fs hS.inv.nd hS.ok
  refine KC.seq ?_
  refine KC.seq ?_
  refine KC.region ?_
  refine KT.step rfl rfl (K.move rfl) ?_
  refine KT.step rfl rfl (K.move rfl) ?_
  refine KT.step rfl rfl (K.lenO rfl Tryd.underlying154) ?_
  refine KT.step rfl rfl (K.lss rfl rfl) ?_
  refine KT.nil ?_
  refine thenK_n ?_
  refine KC.cond rfl (fun hc22 => ?_) (fun hc22 => ?_)
  · skip
    replace hc22 := of_decide_eq_true hc22
    refine KC.skip ?_
    refine thenK_n ?_
    refine KC.seq ?_
    refine KC.block ?_
    refine KC.seq ?_
    refine KC.region ?_
    refine KT.step rfl rfl (K.move rfl) ?_
    refine KT.step rfl rfl (K.move rfl) ?_
    refine KT.step rfl rfl (K.idxOK (m := k) rfl rfl (by omega) Tryd.underlying154 Tryd.size158) ?_
    refine KT.step rfl rfl (K.loadOP (fs.flatMap f2) rfl hid (by decide) Tryd.agg158 Tryd.size158 (by rw [f_len f2_len]; have : (k + 1) * 2 ≤ fs.length * 2 := Nat.mul_le_mul_right _ (by omega); omega)) ?_
    obtain ⟨sk, wk, hk⟩ : ∃ s w, fs[k]? = some (s, w) := ⟨_, _, List.getElem?_eq_getElem (by omega)⟩
    rw [f_get f2_len hk]
    refine KT.step rfl rfl (K.alloc Tryd.zero158) ?_
    refine KT.storeL (cs := (f2 (sk, wk)).map .d) rfl rfl rfl rfl rfl rfl (f2_one _) Tryd.size158 ?_
    refine KT.nil ?_
    refine thenK_n ?_
    refine KC.seq ?_
    refine KC.region ?_
    refine KT.step rfl rfl (K.move rfl) ?_
    refine KT.step rfl rfl (K.move rfl) ?_
    refine KT.nil ?_
    refine thenK_n ?_
    refine KC.block ?_
    have e0 : σ0.length = σ0.length := rfl
    generalize hE : σ0.length = e at *
    have a0 : (σ0 ++ [(⟨(f2 (sk, wk)).map .d, 0⟩ : VObj)])[id]? = _ := obj_left hid
    have a1 : (σ0 ++ [(⟨(f2 (sk, wk)).map .d, 0⟩ : VObj)])[1]? = _ := obj_left hmp
    have a2 : (σ0 ++ [(⟨(f2 (sk, wk)).map .d, 0⟩ : VObj)])[e]? = some ⟨(f2 (sk, wk)).map .d, 0⟩ := by rw [← hE]; exact (List.getElem?_concat_length ..)
    have hne : id ≠ e := by have := obj_lt hid; omega
    refine KC.loop (fun p : List VObj × Nat × List (Nat × List Nat) × Nat => p.1) (fun s => [(1, .d (DI (m : Nat))), (2, .d (.fn (.func g) [] caps)), (7, .osl s.2.1 0 s.2.2.1.length 2 s.2.2.1.length false), (8, .omp 1), (9, .d (DI (k : Nat))), (10, .optr e 0), (29, .d (DI (m : Nat))), (30, .d (DI (s.2.2.2 : Nat)))]) (fun s => s.1[s.2.1]? = some ⟨(s.2.2.1.flatMap f2).map .d, 0⟩ ∧ s.1[1]? = some ⟨entX (met kI (s.2.2.1.map Prod.fst)), 3⟩ ∧ s.1[e]? = some ⟨(f2 (sk, wk)).map .d, 0⟩ ∧ s.2.1 ≠ e ∧ s.2.2.1 = rowF nx fs sk wk s.2.2.2 ∧ s.2.2.2 ≤ m) (fun s => m - s.2.2.2) (_, id, fs, 0) ⟨a0, a1, a2, hne, rfl, Nat.zero_le _⟩ (by rfl) (by simp [Go.Vm.look, extK]) ?_
    intro s hs
    obtain ⟨σ1, id1, fs1, i⟩ := s
    obtain ⟨q0, q1, q2, q3, hfs1, hi⟩ := hs
    simp only at q0 q1 q2 q3 hfs1 hi ⊢
    have hk1 : fs1[k]? = some (sk, wk) := by rw [hfs1]; exact (hS.row hcl hk i hi).2
    refine KC.seq ?_
    refine KC.region ?_
    refine KT.step rfl rfl (K.lss rfl rfl) ?_
    refine KT.nil ?_
    refine thenK_n ?_
    refine KC.seq ?_
    refine KC.cond rfl (fun hc31 => ?_) (fun hc31 => ?_)
    · skip
      replace hc31 := of_decide_eq_true hc31
      refine KC.skip ?_
      refine thenK_n ?_
      refine KC.seq ?_
      refine KC.block ?_
      refine KC.seq ?_
      refine KC.region ?_
      refine KT.step rfl rfl (K.move rfl) ?_
      refine KT.step rfl rfl (K.assign rfl) ?_
      refine KT.nil ?_
      refine thenK_n ?_
      refine KC.seq ?_
      refine KC.region ?_
      refine KT.step rfl rfl (K.move rfl) ?_
      refine KT.step rfl rfl (K.fieldAddrO rfl Tryd.fld158_0 Tryd.size3) ?_
      refine KT.step rfl rfl (K.loadO rfl q2 (by simp) rfl Tryd.agg3) ?_
      refine KT.step rfl rfl (K.move rfl) ?_
      refine KT.step rfl rfl (K.callC (ds := [DI (sk : Nat), DI (i : Nat)]) (cs := caps) rfl rfl rfl hp (hcall sk i (hS.ok _ (List.mem_of_getElem? hk)) (by omega))) ?_
      refine KT.step rfl rfl (K.assign rfl) ?_
      refine KT.nil ?_
      refine thenK_n ?_
      refine KC.seq ?_
      refine KC.region ?_
      refine KT.step rfl rfl (K.move rfl) ?_
      refine KT.step rfl rfl (K.move rfl) ?_
      by_cases hmem : nx sk i ∈ fs1.map Prod.fst
      · skip
        have hS1 := (hS.row hcl hk i hi).1
        rw [← hfs1] at hS1
        have hB1 := hB fs1 hS1.inv.nd hS1.ok
        have met_all : ∀ p ∈ met kI (fs1.map Prod.fst), MapKept.IsKey (.int .i64) p.1 := fun p hp => by
          obtain ⟨t, ht, rfl⟩ := List.mem_map.1 hp
          obtain ⟨q, hq, rfl⟩ := List.mem_map.1 ht
          exact hkeyA _ (hS1.ok q hq)
        obtain ⟨iA, hat⟩ := met_at (key := kI) (fun _ _ => kI_inj) hS1.inv.nd hmem
        refine KT.step rfl rfl (K.look (k := kI (nx sk i)) rfl q1 keyRI Tryd.underlying188 met_all rfl rfl (hkey sk i (hS.ok _ (List.mem_of_getElem? hk)) (by omega)) hat) ?_
        refine KT.step rfl rfl (K.not rfl) ?_
        refine KT.nil ?_
        refine thenK_n ?_
        refine KC.cond rfl (fun hc41 => ?_) (fun hc41 => ?_)
        · cases hc41
        · skip
          refine KC.skip ?_
          refine blockK_n ?_
          refine thenK_n ?_
          refine KC.region ?_
          refine KT.step rfl rfl (K.add rfl rfl (wrap_id (by omega))) ?_
          refine KT.step rfl rfl (K.move rfl) ?_
          refine KT.nil ?_
          refine thenK_n ?_
          refine ⟨(σ1, id1, fs1, i + 1), ⟨q0, q1, q2, q3, by simp only; rw [rowF_yes (by rw [← hfs1]; exact hmem)]; exact hfs1, by simp only; omega⟩, by simp only; omega, rfl, by simp [Go.Vm.look, extK]⟩
      · skip
        have hS1 := (hS.row hcl hk i hi).1
        rw [← hfs1] at hS1
        have hB1 := hB fs1 hS1.inv.nd hS1.ok
        have met_all : ∀ p ∈ met kI (fs1.map Prod.fst), MapKept.IsKey (.int .i64) p.1 := fun p hp => by
          obtain ⟨t, ht, rfl⟩ := List.mem_map.1 hp
          obtain ⟨q, hq, rfl⟩ := List.mem_map.1 ht
          exact hkeyA _ (hS1.ok q hq)
        have hno := met_no (key := kI) (fun _ _ => kI_inj) hmem
        refine KT.step rfl rfl (K.lookN (k := kI (nx sk i)) (z := .bool false) rfl q1 keyRI Tryd.underlying188 (by kernel_rfl) met_all rfl rfl (hkey sk i (hS.ok _ (List.mem_of_getElem? hk)) (by omega)) hno) ?_
        refine KT.step rfl rfl (K.not rfl) ?_
        refine KT.nil ?_
        refine thenK_n ?_
        refine KC.cond rfl (fun hc41 => ?_) (fun hc41 => ?_)
        · skip
          refine KC.seq ?_
          refine KC.region ?_
          refine KT.step rfl rfl (K.move rfl) ?_
          refine KT.step rfl rfl (K.move rfl) ?_
          refine KT.step rfl rfl (K.putNew (k := kI (nx sk i)) rfl q1 keyRI Tryd.underlying188 met_all rfl rfl (hkey sk i (hS.ok _ (List.mem_of_getElem? hk)) (by omega)) rfl hno) ?_
          obtain ⟨σ2, hσ2, g1, gk, gl⟩ := obj_put q1 ⟨entX (met kI (fs1.map Prod.fst) ++ [(kI (nx sk i), .d (DB true))]), 3⟩
          rw [hσ2]
          have p0 : σ2[id1]? = _ := (gk id1 (obj_ne q0 q1 (by simp))).trans q0
          have p10 : σ2[e]? = _ := (gk e (obj_ne q2 q1 (by simp))).trans q2
          have o2 : OwnK 2 σ2 (.osl id1 0 fs1.length 2 fs1.length false) ((fs1.flatMap f2).map .d) := .sl p0 (by rw [List.length_map, f_len f2_len])
          have hne1 := obj_ne q0 q1 (by simp)
          refine KT.nil ?_
          refine thenK_n ?_
          refine KC.region ?_
          refine KT.step rfl rfl (K.move rfl) ?_
          refine KT.step rfl rfl (K.move rfl) ?_
          refine KT.step rfl rfl (K.fieldAddrO rfl Tryd.fld158_1 Tryd.size38) ?_
          refine KT.step rfl rfl (K.loadO rfl p10 (by simp) rfl Tryd.agg38) ?_
          refine KT.step rfl rfl (K.move rfl) ?_
          refine KT.step rfl rfl (K.call2 rfl rfl plainTryd_105 (longer105 wk (by have := hS.wl _ _ hk; simp only at this; omega) i)) ?_
          rw [wV_snoc]
          refine KT.step rfl rfl (K.buildS rfl (build158_2 _ _ _ _)) ?_
          refine KT.step rfl rfl (K.buildK (k := 2) (ds := f2 (nx sk i, wk ++ [i])) (by show _ = some (XV.d (DV.agg (f2 (nx sk i, wk ++ [i])))); unfold f2; simp only; rw [wV_snoc]; rfl) rfl Tryd.underlying154 Tryd.size158 Tryd.zero158 (by decide)) ?_
          refine KT.appK (k := 2) (vs := (f2 (nx sk i, wk ++ [i])).map XV.d) rfl rfl rfl rfl (o2.pushed _) (List.getElem?_concat_length ..) rfl (f2_one _) (by rw [List.length_map, f_len f2_len]; have := hB1; omega) Tryd.underlying154 Tryd.size158 (of_decide_eq_true (by kernel_rfl)) (by kernel_rfl) (by decide) fun σ4 x4 o4 k4 w4 => ?_
          obtain ⟨j4, w5, w6⟩ := w4
          rw [List.length_append] at w6
          have r4 : ∀ (j : Nat) (o : VObj), j ≠ id1 → σ2[j]? = some o → σ4[j]? = some o := fun j o h1 h2 => (k4 j (fun h => by cases h; exact h1 rfl) (by have := obj_lt h2; rw [List.length_append]; omega)).trans (obj_left h2)
          obtain ⟨id4, rfl, h4⟩ := o4.is (n := fs1.length + 1) (by rw [List.length_append, List.length_map, f_len f2_len]; simp [f2]; omega) (by decide) (by omega)
          have w7 : σ2.length + 1 ≤ id4 := by cases w5; exact w6
          have g2 := r4 e _ (Ne.symm q3) p10
          have g3 : id4 ≠ e := by have := obj_lt p10; omega
          have g1 := r4 1 _ (Ne.symm hne1) g1
          refine KT.step rfl rfl (K.assign rfl) ?_
          refine KT.nil ?_
          refine blockK_n ?_
          refine thenK_n ?_
          refine KC.region ?_
          refine KT.step rfl rfl (K.add rfl rfl (wrap_id (by omega))) ?_
          refine KT.step rfl rfl (K.move rfl) ?_
          refine KT.nil ?_
          refine thenK_n ?_
          refine ⟨(σ4, id4, fs1 ++ [(nx sk i, wk ++ [i])], i + 1), ⟨?_, ?_, ?_, ?_, ?_, by simp only; omega⟩, by simp only; omega, rfl, by simp [Go.Vm.look, extK]⟩
          · simp only; rw [← f_snoc]; exact h4
          · simp only; rw [List.map_append, List.map_cons, List.map_nil, ← met_snoc]; exact g1
          · exact g2
          · exact g3
          · simp only; rw [rowF_no (by rw [← hfs1]; exact hmem), hfs1]
        · cases hc41
    · skip
      replace hc31 := of_decide_eq_false hc31
      refine KC.exit ?_
      refine thenK_x ?_
      refine thenK_x ?_
      refine blockK_e ?_
      refine blockK_n ?_
      refine thenK_n ?_
      refine KC.region ?_
      refine KT.step rfl rfl (K.move rfl) ?_
      refine KT.step rfl rfl (K.add rfl rfl (wrap_id (by omega))) ?_
      refine KT.step rfl rfl (K.assign rfl) ?_
      refine KT.nil ?_
      refine thenK_n ?_
      refine ⟨(σ1, id1, fs1, k + 1), ⟨q0, q1, ?_, ?_, ?_⟩, by simp only; omega, rfl, by simp [Go.Vm.look, extK]⟩
      · simp only; rw [hfs1, show i = m by omega]; exact (hS.row hcl hk m (Nat.le_refl _)).1.next (by have := obj_ltF (hS.row hcl hk m (Nat.le_refl _)).2; omega)
      · simp only; have := obj_ltF hk1; omega
      · simp only
        rw [hfs1, show i = m by omega, ← hR, show n1 - k = (n1 - (k + 1)) + 1 by omega, bfs_step nx m hk]
  · skip
    replace hc22 := of_decide_eq_false hc22
    refine KC.exit ?_
    refine thenK_x ?_
    refine thenK_x ?_
    refine blockK_e ?_
    refine thenK_n ?_
    refine KC.seq ?_
    refine KC.region ?_
    refine KT.step rfl rfl (K.move rfl) ?_
    refine KT.step rfl rfl (K.assign rfl) ?_
    refine KT.nil ?_
    refine thenK_n ?_
    refine KC.ret ?_
    rw [show bfs nx m n1 0 [(s0, [])] = fs from by rw [← hR, bfs_done nx m (by omega)]]
    refine ⟨.inl rfl, _, rfl, ?_⟩
    have o : OwnK 2 σ0 (.osl id 0 fs.length 2 fs.length false) ((fs.flatMap f2).map .d) := .sl hid (by rw [List.length_map, f_len f2_len])
    exact own_fl f2_len (by decide) o fun h => by
      have := hS.inv.fst
      rw [h] at this; cases this
end Go.Proofs.YteednkolfnjdoaaDoor

