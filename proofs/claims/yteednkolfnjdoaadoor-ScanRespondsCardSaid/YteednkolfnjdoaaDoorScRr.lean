import Derived.Test.YteednkolfnjdoaaDoorScRp
/-
  Controllers: the reference: the states that words lead to.
-/
namespace Go.Proofs.YteednkolfnjdoaaDoor
open Go.Vm Go.Sc
theorem plainTryd_73 : plainFn Tryd.prog 73 = true := by kernel_rfl
/-- The next states of a machine are right. -/
structure V1 (m : Nat) (nx : List (List Int)) : Prop where
  m8 : m ≤ 8
  n1 : 1 ≤ nx.length
  n32 : nx.length ≤ 32
  row : ∀ s, s < nx.length → (nx.getD s []).length = m
  clo : ∀ s i, s < nx.length → i < m → (nx.getD s []).getD i 0 = (nxF nx s i : Int) ∧ nxF nx s i < nx.length
def freshB (fs : List (Nat × List Nat)) (s j : Nat) : Bool := !((fs.take j).map Prod.fst).contains s
theorem freshB_zero (fs : List (Nat × List Nat)) (s : Nat) : freshB fs s 0 = true := by simp [freshB]
theorem freshB_yes {fs : List (Nat × List Nat)} {s j : Nat} (hj : j < fs.length) (h : freshB fs s j = true) : decide (((fs[j].1 : Nat) : Int) ≠ (s : Nat)) = freshB fs s (j + 1) := by
  unfold freshB at h ⊢
  rw [List.take_succ_eq_append_getElem hj, List.map_append, List.contains_append]
  simp only [Bool.not_eq_true'] at h
  rw [h]
  simp only [Bool.false_or, List.map_cons, List.map_nil]
  by_cases e : fs[j].1 = s
  · simp [e]
  · have : ¬ s = fs[j].1 := fun h => e h.symm
    simp [this]; omega
theorem freshB_no {fs : List (Nat × List Nat)} {s j : Nat} (hj : j < fs.length) (h : freshB fs s j = false) : false = freshB fs s (j + 1) := by
  unfold freshB at h ⊢
  rw [List.take_succ_eq_append_getElem hj, List.map_append, List.contains_append]
  simp only [Bool.not_eq_false'] at h
  rw [h]; rfl
theorem freshB_all {fs : List (Nat × List Nat)} {s j : Nat} (hj : fs.length ≤ j) : freshB fs s j = true ↔ s ∉ fs.map Prod.fst := by
  unfold freshB
  rw [List.take_of_length_le hj]; simp
set_option maxHeartbeats 3000000 in
set_option maxRecDepth 10000 in
theorem reached73 {m : Nat} {nd od : DV} {nx : List (List Int)} (hn : Mat nd nx) (hv : V1 m nx) : DeepCall Tryd.prog 73 [.agg [DI (m : Nat), nd, od]] (.tup [.sl ((bfs (nxF nx) m nx.length 0 [(0, [])]).map fun p => wV p.2) (bfs (nxF nx) m nx.length 0 [(0, [])]).length none, rowV (wZ ((bfs (nxF nx) m nx.length 0 [(0, [])]).map Prod.fst))]) := by
  have n32 := hv.n32; have m8 := hv.m8; have n1 := hv.n1
  have hcl : ∀ s i, s < nx.length → i < m → nxF nx s i < nx.length := fun s i a b => (hv.clo s i a b).2
  have hB : ∀ fs : List (Nat × List Nat), (fs.map Prod.fst).Nodup → (∀ p ∈ fs, p.1 < nx.length) → fs.length ≤ nx.length := fun fs h1 h2 => by
    have := nodup_le h1 fun x hx => by obtain ⟨p, hp, rfl⟩ := List.mem_map.1 hx; exact h2 p hp
    simpa using this
  refine deepCall_K 5 Tryd.func73 rfl (Nat.le_of_ble_eq_true rfl) fun M W0 => ?_
  refine KC.seq ?_
  refine KC.region ?_
  refine KT.step rfl rfl (K.box rfl) ?_
  refine KT.step rfl rfl (K.assign rfl) ?_
  refine KT.step rfl rfl (K.assign rfl) ?_
  refine KT.nil ?_
  refine thenK_n ?_
  refine KC.seq ?_
  refine KC.region ?_
  refine KT.step rfl rfl (K.build1' (v := .d Dnil) rfl rfl Tryd.underlying56 Tryd.one38) ?_
  refine KT.step rfl rfl (K.build1' (v := .d (DI 0)) rfl rfl Tryd.underlying38 Tryd.one3) ?_
  refine KT.step rfl rfl (K.assign rfl) ?_
  refine KT.step rfl rfl (K.assign rfl) ?_
  refine KT.nil ?_
  refine thenK_n ?_
  refine KC.seq ?_
  refine KC.seq ?_
  refine KC.ghostX (t := 4) (y := .osl 1 0 1 1 1 false) rfl (fun w ι F v h => osl_loose h) ?_
  refine KC.ghostX (t := 5) (y := .osl 2 0 1 1 1 false) rfl (fun w ι F v h => osl_loose h) ?_
  refine KC.region ?_
  refine KT.step rfl rfl (K.assign rfl) ?_
  refine KT.nil ?_
  refine thenK_n ?_
  refine KC.block ?_
  refine KC.loop (fun p : List VObj × Nat × Nat × List (Nat × List Nat) × Nat => p.1) (fun p => [(1, .optr 0 0), (4, .osl p.2.1 0 p.2.2.2.1.length 1 p.2.2.2.1.length false), (5, .osl p.2.2.1 0 p.2.2.2.1.length 1 p.2.2.2.1.length false), (6, .d (DI (p.2.2.2.2 : Nat)))]) (fun p => (p.1[0]? = some ⟨[.d (DI (m : Nat)), .d nd, .d od], 0⟩ ∧ p.1[p.2.1]? = some ⟨(p.2.2.2.1.map fun p => XV.d (wV p.2)), 0⟩ ∧ p.1[p.2.2.1]? = some ⟨(p.2.2.2.1.map fun p => XV.d (DI (p.1 : Nat))), 0⟩ ∧ p.2.1 ≠ 0 ∧ p.2.2.1 ≠ 0 ∧ p.2.1 ≠ p.2.2.1) ∧ SI (nxF nx) m 0 (· < nx.length) p.2.2.2.2 0 p.2.2.2.1 ∧ p.2.2.2.2 ≤ p.2.2.2.1.length ∧ bfs (nxF nx) m (nx.length - p.2.2.2.2) p.2.2.2.2 p.2.2.2.1 = (bfs (nxF nx) m nx.length 0 [(0, [])])) (fun p => nx.length + 1 - p.2.2.2.2) (_, 1, 2, [(0, [])], 0) ⟨⟨rfl, rfl, rfl, show (1 : Nat) ≠ 0 by decide, show (2 : Nat) ≠ 0 by decide, show (1 : Nat) ≠ 2 by decide⟩, .start n1, Nat.zero_le _, rfl⟩ rfl (by simp [Go.Vm.look, extK, enterK]) ?_
  intro p hp'
  obtain ⟨σ0, i4, i5, fs, k⟩ := p
  obtain ⟨⟨f0, f4, f5, h40, h50, h45⟩, hS, hkL, hR⟩ := hp'
  simp only at f0 f4 f5 h40 h50 h45 hS hkL hR ⊢
  have hfl := hB fs hS.inv.nd hS.ok
  refine KC.seq ?_
  refine KC.seq ?_
  refine KC.region ?_
  refine KT.step rfl rfl (K.move rfl) ?_
  refine KT.step rfl rfl (K.move rfl) ?_
  refine KT.step rfl rfl (K.lenO rfl Tryd.underlying38) ?_
  refine KT.step rfl rfl (K.lss rfl rfl) ?_
  refine KT.nil ?_
  refine thenK_n ?_
  refine KC.cond rfl (fun hc17 => ?_) (fun hc17 => ?_)
  · skip
    replace hc17 := of_decide_eq_true hc17
    have hkl : k < fs.length := by omega
    obtain ⟨sk, wk, hk⟩ : ∃ (q1 : Nat) (q2 : List Nat), fs[k]? = some (q1, q2) := ⟨_, _, List.getElem?_eq_getElem hkl⟩
    refine KC.skip ?_
    refine thenK_n ?_
    refine KC.seq ?_
    refine KC.block ?_
    refine KC.seq ?_
    refine KC.region ?_
    refine KT.step rfl rfl (K.fieldAddrO rfl Tryd.fld63_0 Tryd.size3) ?_
    refine KT.step rfl rfl (K.loadO rfl f0 (by simp) rfl Tryd.agg3) ?_
    refine KT.step rfl rfl (K.move rfl) ?_
    refine KT.nil ?_
    refine thenK_n ?_
    refine KC.block ?_
    refine KC.loop (fun p : List VObj × Nat × Nat × List (Nat × List Nat) × Nat => p.1) (fun p => [(1, .optr 0 0), (4, .osl p.2.1 0 p.2.2.2.1.length 1 p.2.2.2.1.length false), (5, .osl p.2.2.1 0 p.2.2.2.1.length 1 p.2.2.2.1.length false), (6, .d (DI (k : Nat))), (21, .d (DI (m : Nat))), (22, .d (DI (p.2.2.2.2 : Nat)))]) (fun p => (p.1[0]? = some ⟨[.d (DI (m : Nat)), .d nd, .d od], 0⟩ ∧ p.1[p.2.1]? = some ⟨(p.2.2.2.1.map fun p => XV.d (wV p.2)), 0⟩ ∧ p.1[p.2.2.1]? = some ⟨(p.2.2.2.1.map fun p => XV.d (DI (p.1 : Nat))), 0⟩ ∧ p.2.1 ≠ 0 ∧ p.2.2.1 ≠ 0 ∧ p.2.1 ≠ p.2.2.1) ∧ p.2.2.2.1 = rowF (nxF nx) fs sk wk p.2.2.2.2 ∧ p.2.2.2.2 ≤ m) (fun p => m - p.2.2.2.2) (σ0, i4, i5, fs, 0) ⟨⟨f0, f4, f5, h40, h50, h45⟩, rfl, Nat.zero_le _⟩ rfl (by simp [Go.Vm.look, extK]) ?_
    clear f4 f5 h40 h50 h45
    intro p hp'
    obtain ⟨σ1, i4, i5, fs1, i⟩ := p
    obtain ⟨⟨q0, q4, q5, h40', h50', h45'⟩, hfs1, him0⟩ := hp'
    simp only at q0 q4 q5 h40' h50' h45' hfs1 him0 ⊢
    refine KC.seq ?_
    refine KC.region ?_
    refine KT.step rfl rfl (K.lss rfl rfl) ?_
    refine KT.nil ?_
    refine thenK_n ?_
    refine KC.seq ?_
    refine KC.cond rfl (fun hc23 => ?_) (fun hc23 => ?_)
    · skip
      replace hc23 := of_decide_eq_true hc23
      have him : i < m := by omega
      obtain ⟨hS1, hk1⟩ := hS.row hcl hk i him0
      rw [← hfs1] at hS1 hk1
      have hk1l := obj_ltF hk1
      have hfl1 := hB fs1 hS1.inv.nd hS1.ok
      have hsk := hS1.ok _ (List.mem_of_getElem? hk1)
      simp only at hsk
      have z1 := hv.row _ hsk
      have y1 : nx.getD sk [] = nx[sk] := by simp [hsk]
      rw [y1] at z1
      have hC := hv.clo _ _ hsk him
      have eN : nx[sk][i]'(by omega) = (nxF nx sk i : Int) := by rw [get_D, ← y1]; exact hC.1
      refine KC.skip ?_
      refine thenK_n ?_
      refine KC.seq ?_
      refine KC.block ?_
      refine KC.seq ?_
      refine KC.region ?_
      refine KT.step rfl rfl (K.move rfl) ?_
      refine KT.step rfl rfl (K.assign rfl) ?_
      refine KT.nil ?_
      refine thenK_n ?_
      refine KC.seq ?_
      refine KC.draw Tryd.mixed ?_
      refine KT.step rfl rfl (K.fieldAddrO rfl Tryd.fld63_1 Tryd.size56) ?_
      refine KT.step rfl rfl (K.loadO rfl q0 (by simp) rfl Tryd.agg56) ?_
      refine KT.step rfl rfl (K.move rfl) ?_
      refine KT.step rfl rfl (K.move rfl) ?_
      refine KT.step rfl rfl (K.idxO (m := k) rfl rfl hk1l Tryd.underlying38 Tryd.size3) ?_
      refine KT.step rfl rfl (K.loadO rfl q5 (by simp) (y := .d (DI (sk : Nat))) (by rw [Nat.zero_add, List.getElem?_map, hk1]; rfl) Tryd.agg3) ?_
      refine KT.idx (m := sk) rfl rfl rfl hn rfl (by omega) Tryd.underlying56 Tryd.size38 fun c31 cs31 hq31 => ?_
      refine KT.step rfl rfl (K.load rfl Tryd.agg38) ?_
      refine KT.step rfl rfl (K.move rfl) ?_
      refine KT.idxI (m := i) rfl rfl rfl hq31 rfl (by omega) Tryd.underlying38 Tryd.size3 fun cs34 => ?_
      refine KT.step rfl rfl (K.load rfl Tryd.agg3) ?_
      refine KT.step rfl rfl (K.assign rfl) ?_
      refine KT.step rfl rfl (K.assign rfl) ?_
      refine KT.nil ?_
      refine ⟨by kernel_rfl, ?_⟩
      refine thenK_n ?_
      refine KC.seq ?_
      refine KC.seq ?_
      refine KC.region ?_
      rw [eN]
      refine KT.step rfl rfl (K.move rfl) ?_
      refine KT.step rfl rfl (K.lenO rfl Tryd.underlying38) ?_
      refine KT.step rfl rfl (K.move rfl) ?_
      refine KT.nil ?_
      refine thenK_n ?_
      refine KC.block ?_
      refine KC.loop (fun _ : Nat => σ1) (fun j => [(1, .optr 0 0), (4, .osl i4 0 fs1.length 1 fs1.length false), (5, .osl i5 0 fs1.length 1 fs1.length false), (6, .d (DI (k : Nat))), (7, .d (DI (i : Nat))), (8, .d (DI ((nxF nx sk i) : Nat))), (9, .d (DB (freshB fs1 (nxF nx sk i) j))), (21, .d (DI (m : Nat))), (22, .d (DI (i : Nat))), (36, .osl i5 0 fs1.length 1 fs1.length false), (37, .d (DI (fs1.length : Nat))), (38, .d (DI (j : Nat)))]) (fun j => j ≤ fs1.length) (fun j => fs1.length - j) 0 (Nat.zero_le _) rfl (by simp [Go.Vm.look, extK, freshB_zero]) ?_
      intro j hj
      refine KC.seq ?_
      refine KC.region ?_
      refine KT.step rfl rfl (K.lss rfl rfl) ?_
      refine KT.nil ?_
      refine thenK_n ?_
      refine KC.seq ?_
      refine KC.cond rfl (fun hc39 => ?_) (fun hc39 => ?_)
      · skip
        replace hc39 := of_decide_eq_true hc39
        have hjl : j < fs1.length := by omega
        refine KC.skip ?_
        refine thenK_n ?_
        refine KC.seq ?_
        refine KC.block ?_
        refine KC.seq ?_
        refine KC.region ?_
        refine KT.step rfl rfl (K.idxO (m := j) rfl rfl (by omega) Tryd.underlying38 Tryd.size3) ?_
        refine KT.step rfl rfl (K.loadO rfl q5 (by simp) (y := .d (DI ((fs1[j]'hjl).1 : Nat))) (by rw [Nat.zero_add, List.getElem?_map, List.getElem?_eq_getElem hjl]; rfl) Tryd.agg3) ?_
        refine KT.step rfl rfl (K.assign rfl) ?_
        refine KT.nil ?_
        refine thenK_n ?_
        refine KC.region ?_
        refine KT.step rfl rfl (K.move rfl) ?_
        refine KT.step rfl rfl (K.move rfl) ?_
        refine KT.bcase (fun hb43 => ?_) (fun hb43 => ?_)
        · skip
          refine KT.step rfl rfl (K.move rfl) ?_
          refine KT.step rfl rfl (K.move rfl) ?_
          refine KT.step rfl rfl (K.neq rfl rfl) ?_
          refine KT.step rfl rfl (K.pick (v := .d (DB (freshB fs1 (nxF nx sk i) (j + 1)))) rfl (fun _ => congrArg (fun b => some (XV.d (DB b))) (freshB_yes hjl hb43)) (fun h => by cases h)) ?_
          refine KT.step rfl rfl (K.assign rfl) ?_
          refine KT.nil ?_
          refine blockK_n ?_
          refine thenK_n ?_
          refine KC.region ?_
          refine KT.step rfl rfl (K.add rfl rfl (wrap_id (by omega))) ?_
          refine KT.step rfl rfl (K.move rfl) ?_
          refine KT.nil ?_
          refine thenK_n ?_
          refine ⟨j + 1, by omega, by omega, rfl, by simp [Go.Vm.look, extK]⟩
        · skip
          refine KT.skip rfl rfl ?_
          refine KT.skip rfl rfl ?_
          refine KT.skip rfl rfl ?_
          refine KT.step rfl rfl (K.pick (v := .d (DB (freshB fs1 (nxF nx sk i) (j + 1)))) rfl (fun h => by cases h) (fun _ => congrArg (fun b => some (XV.d (DB b))) (freshB_no hjl hb43))) ?_
          refine KT.step rfl rfl (K.assign rfl) ?_
          refine KT.nil ?_
          refine blockK_n ?_
          refine thenK_n ?_
          refine KC.region ?_
          refine KT.step rfl rfl (K.add rfl rfl (wrap_id (by omega))) ?_
          refine KT.step rfl rfl (K.move rfl) ?_
          refine KT.nil ?_
          refine thenK_n ?_
          refine ⟨j + 1, by omega, by omega, rfl, by simp [Go.Vm.look, extK]⟩
      · skip
        replace hc39 := of_decide_eq_false hc39
        refine KC.exit ?_
        refine thenK_x ?_
        refine thenK_x ?_
        refine blockK_e ?_
        refine thenK_n ?_
        refine KC.seq ?_
        refine KC.region ?_
        refine KT.step rfl rfl (K.move rfl) ?_
        refine KT.nil ?_
        refine thenK_n ?_
        refine KC.cond rfl (fun hc49 => ?_) (fun hc49 => ?_)
        · skip
          have hno := (freshB_all (by omega)).1 hc49
          refine KC.seq ?_
          refine KC.region ?_
          refine KT.step rfl rfl (K.move rfl) ?_
          refine KT.step rfl rfl (K.build0P Tryd.underlying38 Tryd.size3 Tryd.one3.zero) ?_
          refine KT.step rfl rfl (K.move rfl) ?_
          refine KT.step rfl rfl (K.move rfl) ?_
          refine KT.step rfl rfl (K.idxO (m := k) rfl rfl hk1l Tryd.underlying56 Tryd.size38) ?_
          refine KT.step rfl rfl (K.loadO rfl (obj_left q4) (by simp) (y := .d (wV wk)) (by rw [Nat.zero_add, List.getElem?_map, hk1]; rfl) Tryd.agg38) ?_
          refine KT.appW wk rfl rfl rfl rfl (List.getElem?_concat_length ..) (by have := hS1.wl _ _ hk1; simp only at this; omega) Tryd.underlying38 Tryd.size3 (of_decide_eq_true (by kernel_rfl)) (by kernel_rfl) fun σ2 x2 oE k2 l2 b2 => ?_
          rw [List.length_append] at k2 l2
          refine KT.step rfl rfl (K.move rfl) ?_
          refine KT.step rfl rfl (K.build1' (v := .d (DI (i : Nat))) rfl rfl Tryd.underlying38 Tryd.one3) ?_
          refine KT.appE (v := .d (DI (i : Nat))) rfl rfl rfl rfl (oE.pushed _) (List.getElem?_concat_length ..) rfl (by have := hS1.wl _ _ hk1; simp only at this; simp [dW]; omega) Tryd.underlying38 Tryd.size3 (of_decide_eq_true (by kernel_rfl)) (by kernel_rfl) fun σ3 x3 o3 k3 w3 => ?_
          obtain ⟨j3, w3a, w3b⟩ := w3
          rw [List.length_append] at w3b k3
          rw [dW_snoc] at o3
          obtain ⟨idw, rfl, hw⟩ := o3.is (n := (wZ (wk ++ [i])).length) (by simp) (by decide) (by simp [wZ])
          have hwj : σ2.length + 1 ≤ idw := by cases w3a; exact w3b
          have g3 : ∀ j, j < σ1.length → σ3[j]? = σ1[j]? := fun j hj => by
            refine (k3 j (fun h => by have := b2 j h; omega) (by omega)).trans ?_
            rw [List.getElem?_append_left (by omega)]
            exact (k2 j (by omega)).trans (List.getElem?_append_left hj)
          have hwl := obj_lt hw
          have v0 := obj_left (τ := [(⟨[.osl idw 0 (wZ (wk ++ [i])).length 1 (wZ (wk ++ [i])).length false], 0⟩ : VObj)]) ((g3 0 (obj_lt q0)).trans q0)
          have v4 := obj_left (τ := [(⟨[.osl idw 0 (wZ (wk ++ [i])).length 1 (wZ (wk ++ [i])).length false], 0⟩ : VObj)]) ((g3 i4 (obj_lt q4)).trans q4)
          have v5 := obj_left (τ := [(⟨[.osl idw 0 (wZ (wk ++ [i])).length 1 (wZ (wk ++ [i])).length false], 0⟩ : VObj)]) ((g3 i5 (obj_lt q5)).trans q5)
          have vw := obj_left (τ := [(⟨[.osl idw 0 (wZ (wk ++ [i])).length 1 (wZ (wk ++ [i])).length false], 0⟩ : VObj)]) hw
          have hq4l := obj_lt q4
          have hq5l := obj_lt q5
          refine KT.step rfl rfl (K.build1' (v := .osl idw 0 (wZ (wk ++ [i])).length 1 (wZ (wk ++ [i])).length false) rfl rfl Tryd.underlying56 Tryd.one38) ?_
          refine KT.appK (k := 1) (vs := [.osl idw 0 (wZ (wk ++ [i])).length 1 (wZ (wk ++ [i])).length false]) rfl rfl rfl rfl (OwnK.sl v4 (by simp) : OwnK 1 _ (.osl i4 0 fs1.length 1 fs1.length false) _) (List.getElem?_concat_length ..) rfl rfl (by simp; omega) Tryd.underlying56 Tryd.size38 (of_decide_eq_true (by kernel_rfl)) (by kernel_rfl) (by decide) fun σ4 x4 o4 k4 w4 => ?_
          obtain ⟨j4, w4a, w4b⟩ := w4
          rw [List.length_append] at w4b k4
          obtain ⟨id4, rfl, h4⟩ := o4.is (n := fs1.length + 1) (by simp) (by decide) (by omega)
          have w4c : σ3.length + 1 ≤ id4 := by cases w4a; exact w4b
          have r4 : ∀ j, j ≠ i4 → j < σ3.length + 1 → σ4[j]? = (σ3 ++ [(⟨[.osl idw 0 (wZ (wk ++ [i])).length 1 (wZ (wk ++ [i])).length false], 0⟩ : VObj)])[j]? := fun j h1 h2 => k4 j (fun h => by cases h; exact h1 rfl) h2
          have y0 := (r4 0 (by omega) (by omega)).trans v0
          have y5 := (r4 i5 (by omega) (by omega)).trans v5
          have yw := (r4 idw (by omega) (by omega)).trans vw
          refine KT.step rfl rfl (K.assign rfl) ?_
          refine KT.nil ?_
          refine thenK_n ?_
          have eW : rowV (wZ (wk ++ [i])) = wV (wk ++ [i]) := rowV_wV (by simp)
          generalize hσF : freezeIds σ4 [idw] = σF
          have gF : ∀ j, j ≠ idw → σF[j]? = σ4[j]? := fun j hj => by rw [← hσF]; exact fz_ne hj
          have lF : σF.length = σ4.length := by rw [← hσF, fz_len]
          have h4F := (gF id4 (by omega)).trans h4
          have h4l := obj_lt h4
          refine KC.ghostC [idw] 3 (id := id4) (i := fs1.length) (ob := ⟨(fs1.map fun p => XV.d (wV p.2)) ++ [.osl idw 0 (wZ (wk ++ [i])).length 1 (wZ (wk ++ [i])).length false], 0⟩) (x := .osl idw 0 (wZ (wk ++ [i])).length 1 (wZ (wk ++ [i])).length false) (d := wV (wk ++ [i])) (by rw [hσF]; exact h4F) (by simp) (by rw [List.getElem?_append_right (by simp)]; simp) (eW ▸ deepen_row (k := 1) (fz_one yw)) ?_
          rw [hσF]
          have eC : (((fs1.map fun p => XV.d (wV p.2)) ++ [XV.osl idw 0 (wZ (wk ++ [i])).length 1 (wZ (wk ++ [i])).length false]).set fs1.length (.d (wV (wk ++ [i])))) = ((fs1 ++ [((nxF nx sk i), wk ++ [i])]).map fun p => XV.d (wV p.2)) := by
            rw [List.set_append_right _ _ (by simp)]; simp
          rw [eC]
          generalize hσ5 : σF.set id4 ⟨((fs1 ++ [((nxF nx sk i), wk ++ [i])]).map fun p => XV.d (wV p.2)), 0⟩ = σ5
          have l5 : σ5.length = σ4.length := by rw [← hσ5, List.length_set, lF]
          have z4 : σ5[id4]? = some ⟨((fs1 ++ [((nxF nx sk i), wk ++ [i])]).map fun p => XV.d (wV p.2)), 0⟩ := by rw [← hσ5, List.getElem?_set, if_pos rfl, if_pos (by omega)]
          have gs5 : ∀ j, j ≠ id4 → j ≠ idw → σ5[j]? = σ4[j]? := fun j h1 h2 => by rw [← hσ5, List.getElem?_set_ne (Ne.symm h1)]; exact gF j h2
          have z0 := (gs5 0 (by omega) (by omega)).trans y0
          have z5 := (gs5 i5 (by omega) (by omega)).trans y5
          refine KC.region ?_
          refine KT.step rfl rfl (K.move rfl) ?_
          refine KT.step rfl rfl (K.move rfl) ?_
          refine KT.step rfl rfl (K.build1' (v := .d (DI ((nxF nx sk i) : Nat))) rfl rfl Tryd.underlying38 Tryd.one3) ?_
          refine KT.appK (k := 1) (vs := [.d (DI ((nxF nx sk i) : Nat))]) rfl rfl rfl rfl ((OwnK.sl z5 (by simp) : OwnK 1 _ (.osl i5 0 fs1.length 1 fs1.length false) _).pushed _) (List.getElem?_concat_length ..) rfl rfl (by simp; omega) Tryd.underlying38 Tryd.size3 (of_decide_eq_true (by kernel_rfl)) (by kernel_rfl) (by decide) fun σ6 x6 o6 k6 w6 => ?_
          obtain ⟨j6, w6a, w6b⟩ := w6
          rw [List.length_append] at w6b k6
          obtain ⟨id6, rfl, h6⟩ := o6.is (n := fs1.length + 1) (by simp) (by decide) (by omega)
          have w6c : σ5.length + 1 ≤ id6 := by cases w6a; exact w6b
          have r6 : ∀ j, j ≠ i5 → j < σ5.length → σ6[j]? = σ5[j]? := fun j h1 h2 => (k6 j (fun h => by cases h; exact h1 rfl) (by omega)).trans (List.getElem?_append_left h2)
          have l40 := obj_lt z4
          refine KT.step rfl rfl (K.assign rfl) ?_
          refine KT.nil ?_
          refine blockK_n ?_
          refine thenK_n ?_
          refine KC.region ?_
          refine KT.step rfl rfl (K.add rfl rfl (wrap_id (by omega))) ?_
          refine KT.step rfl rfl (K.move rfl) ?_
          refine KT.nil ?_
          refine thenK_n ?_
          refine ⟨(σ6, id4, id6, fs1 ++ [((nxF nx sk i), wk ++ [i])], i + 1), ⟨⟨?_, ?_, ?_, by simp only; omega, by simp only; omega, by simp only; omega⟩, ?_, by simp only; omega⟩, by simp only; omega, rfl, by simp [Go.Vm.look, extK]⟩
          · exact (r6 0 (by omega) (by omega)).trans z0
          · exact (r6 id4 (by omega) (by omega)).trans z4
          · simp only; rw [h6]; simp
          · simp only; rw [rowF_no (by rw [← hfs1]; exact hno), hfs1]
        · skip
          have hyes : (nxF nx sk i) ∈ fs1.map Prod.fst := Classical.byContradiction fun h => by rw [(freshB_all (by omega)).2 h] at hc49; cases hc49
          refine KC.skip ?_
          refine blockK_n ?_
          refine thenK_n ?_
          refine KC.region ?_
          refine KT.step rfl rfl (K.add rfl rfl (wrap_id (by omega))) ?_
          refine KT.step rfl rfl (K.move rfl) ?_
          refine KT.nil ?_
          refine thenK_n ?_
          refine ⟨(σ1, i4, i5, fs1, i + 1), ⟨⟨q0, q4, q5, h40', h50', h45'⟩, ?_, by simp only; omega⟩, by simp only; omega, rfl, by simp [Go.Vm.look, extK]⟩
          simp only; rw [rowF_yes (by rw [← hfs1]; exact hyes)]; exact hfs1
    · skip
      replace hc23 := of_decide_eq_false hc23
      refine KC.exit ?_
      refine thenK_x ?_
      refine thenK_x ?_
      refine blockK_e ?_
      refine blockK_n ?_
      refine thenK_n ?_
      refine KC.region ?_
      refine KT.step rfl rfl (K.move rfl) ?_
      refine KT.step rfl rfl (K.add rfl rfl (wrap_id (by omega))) ?_
      refine KT.step rfl rfl (K.assign rfl) ?_
      refine KT.nil ?_
      refine thenK_n ?_
      obtain rfl : i = m := by omega
      obtain ⟨hS1, hk1⟩ := hS.row hcl hk i (Nat.le_refl _)
      refine ⟨(σ1, i4, i5, fs1, k + 1), ⟨⟨q0, q4, q5, h40', h50', h45'⟩, ?_, ?_, ?_⟩, by simp only; omega, rfl, by simp [Go.Vm.look, extK]⟩
      · simp only; rw [hfs1]; exact hS1.next (obj_ltF hk1)
      · simp only; rw [hfs1]; have := obj_ltF hk1; omega
      · simp only
        rw [hfs1, ← hR, show nx.length - k = (nx.length - (k + 1)) + 1 by omega, bfs_step (nxF nx) i hk]
  · skip
    replace hc17 := of_decide_eq_false hc17
    refine KC.exit ?_
    refine thenK_x ?_
    refine thenK_x ?_
    refine blockK_e ?_
    refine thenK_n ?_
    refine KC.seq ?_
    refine KC.region ?_
    refine KT.step rfl rfl (K.move rfl) ?_
    refine KT.step rfl rfl (K.move rfl) ?_
    refine KT.step rfl rfl (K.assign rfl) ?_
    refine KT.step rfl rfl (K.assign rfl) ?_
    refine KT.nil ?_
    refine thenK_n ?_
    refine KC.ret ?_
    rw [show (bfs (nxF nx) m nx.length 0 [(0, [])]) = fs from by rw [← hR, bfs_done (nxF nx) m (by omega)]]
    refine ⟨.inl rfl, _, rfl, ?_⟩
    have e4 : (fs.map fun p => XV.d (wV p.2)) = (fs.map fun p => wV p.2).map XV.d := by simp
    have e5 : (fs.map fun p => XV.d (DI (p.1 : Nat))) = ((wZ (fs.map Prod.fst)).map DI).map XV.d := by simp [wZ]
    rw [e4] at f4
    rw [e5] at f5
    have d4 := deepen_all (k := 2) f4 (n := fs.length) (by simp)
    have d5 := deepen_all (k := 2) f5 (n := fs.length) (by simp [wZ])
    show (([_, _] : List XV).mapM (deepen (freezeAll σ0) 4)).map DV.tup = _
    rw [List.mapM_cons, List.mapM_cons, d4, d5]
    simp [rowV, wZ]
end Go.Proofs.YteednkolfnjdoaaDoor

