import Derived.Test.YteednkolfnjdoaaDoorScN
import Derived.Test.YteednkolfnjdoaaDoorScZ
/-
  Controllers: the reference: the first word that parts two states.
-/
namespace Go.Proofs.YteednkolfnjdoaaDoor
open Go.Vm Go.Sc
theorem plainTryd_74 : plainFn Tryd.prog 74 = true := by kernel_rfl
theorem Tryd.agg161 : isAggT Tryd.prog 161 = some true := by kernel_rfl
theorem Tryd.size161 : sizeT Tryd.prog 161 = some 3 := by kernel_rfl
theorem Tryd.zero161 : zeroT Tryd.prog 161 = some (.agg #[.int .i64 0, .int .i64 0, .slice none 0 0]) := by kernel_rfl
theorem Tryd.fld161_0 : fieldT Tryd.prog 161 0 = some { name := "x", type := 3, offset := 0, embedded := false, tag := "", pkgPath := "massecuite/massecuiteref09", byteOffset := 0 } := by kernel_rfl
theorem Tryd.fld161_1 : fieldT Tryd.prog 161 1 = some { name := "y", type := 3, offset := 1, embedded := false, tag := "", pkgPath := "massecuite/massecuiteref09", byteOffset := 8 } := by kernel_rfl
theorem Tryd.fld161_2 : fieldT Tryd.prog 161 2 = some { name := "word", type := 38, offset := 2, embedded := false, tag := "", pkgPath := "massecuite/massecuiteref09", byteOffset := 16 } := by kernel_rfl
theorem build161_3 (x y : Int) (cs : List DV) (n : Nat) (c : Option Nat) : opBuild Tryd.prog 161 [(0, .d (DI x)), (1, .d (DI y)), (2, .d (.sl cs n c))] = some (.d (.agg [DI x, DI y, .sl cs n c])) := by kernel_rfl
theorem build161_0 (x y : Int) : opBuild Tryd.prog 161 [(0, .d (DI x)), (1, .d (DI y)), (2, .d Dnil)] = some (.d (.agg [DI x, DI y, Dnil])) := by kernel_rfl
/-- Two machines laid side by side are one whose rows are right. -/
structure V2 (m : Nat) (nx ou : List (List Int)) : Prop where
  m8 : m ≤ 8
  n32 : nx.length ≤ 32
  ol : ou.length = nx.length
  row : ∀ s, s < nx.length → (nx.getD s []).length = m ∧ (ou.getD s []).length = m
  clo : ∀ s i, s < nx.length → i < m → (nx.getD s []).getD i 0 = (nxF nx s i : Int) ∧ nxF nx s i < nx.length
set_option maxHeartbeats 3000000 in
set_option maxRecDepth 10000 in
theorem parting74 {m : Nat} {nd od : DV} {nx ou : List (List Int)} (hn : Mat nd nx) (ho : Mat od ou) (hv : V2 m nx ou) {s t : Nat} (hs : s < nx.length) (ht : t < nx.length) : DeepCall Tryd.prog 74 [.agg [DI (m : Nat), nd, od], DI (s : Nat), DI (t : Nat)] (.tup [wO (partW m nx ou nx ou s t), DB (partW m nx ou nx ou s t).isSome]) := by
  have n32 := hv.n32; have m8 := hv.m8; have hol := hv.ol
  have nn : nx.length * nx.length ≤ 32 * 32 := Nat.mul_le_mul n32 n32
  refine deepCall_K 5 Tryd.func74 rfl (Nat.le_of_ble_eq_true rfl) fun M W0 => ?_
  refine KC.seq ?_
  refine KC.region ?_
  refine KT.step rfl rfl (K.box rfl) ?_
  refine KT.step rfl rfl (K.assign rfl) ?_
  refine KT.step rfl rfl (K.assign rfl) ?_
  refine KT.nil ?_
  refine thenK_n ?_
  refine KC.seq ?_
  refine KC.region ?_
  refine KT.step rfl rfl (K.fieldAddrO rfl Tryd.fld63_1 Tryd.size56) ?_
  refine KT.step rfl rfl (K.loadO rfl rfl (by simp) rfl Tryd.agg56) ?_
  refine KT.step rfl rfl (K.len rfl hn Tryd.underlying56) ?_
  refine KT.step rfl rfl (K.fieldAddrO rfl Tryd.fld63_1 Tryd.size56) ?_
  refine KT.step rfl rfl (K.loadO rfl rfl (by simp) rfl Tryd.agg56) ?_
  refine KT.step rfl rfl (K.len rfl hn Tryd.underlying56) ?_
  refine KT.step rfl rfl (K.mul rfl rfl (wrap_id (by rw [← Int.natCast_mul]; omega))) ?_
  refine KT.step rfl rfl (K.make (m := nx.length * nx.length) (c := nx.length * nx.length) rfl rfl (Nat.le_refl _) (by omega) Tryd.underlying107 Tryd.one4) ?_
  refine KT.step rfl rfl (K.assign rfl) ?_
  refine KT.nil ?_
  refine thenK_n ?_
  refine KC.seq ?_
  refine KC.region ?_
  refine KT.step rfl rfl (K.move rfl) ?_
  refine KT.step rfl rfl (K.move rfl) ?_
  refine KT.step rfl rfl (K.buildS rfl (build161_0 _ _)) ?_
  refine KT.step rfl rfl (K.buildK (k := 3) (ds := f3 ((s, t), [])) rfl rfl Tryd.underlying162 Tryd.size161 Tryd.zero161 (by decide)) ?_
  refine KT.step rfl rfl (K.assign rfl) ?_
  refine KT.nil ?_
  refine thenK_n ?_
  refine KC.seq ?_
  refine KC.seq ?_
  refine KC.ghostX (t := 9) (y := .osl 2 0 1 3 1 false) rfl (fun w ι F v h => osl_loose h) ?_
  refine KC.region ?_
  refine KT.step rfl rfl (K.assign rfl) ?_
  refine KT.nil ?_
  refine thenK_n ?_
  refine KC.block ?_
  have hN0 : ((List.replicate (nx.length * nx.length) false).map DB).map XV.d = List.replicate (nx.length * nx.length) (XV.d (.lit (.bool false))) := by simp [DB]
  refine KC.loop (fun p : List VObj × Nat × List ((Nat × Nat) × List Nat) × Nat × List Bool => p.1) (fun p => [(3, .optr 0 0), (8, .osl 1 0 (nx.length * nx.length) 1 (nx.length * nx.length) true), (9, .osl p.2.1 0 p.2.2.1.length 3 p.2.2.1.length false), (10, .d (DI (p.2.2.2.1 : Nat)))]) (fun p => (p.1[0]? = some ⟨[.d (DI (m : Nat)), .d nd, .d od], 0⟩ ∧ p.1[1]? = some ⟨(p.2.2.2.2.map DB).map .d, 0⟩ ∧ p.1[p.2.1]? = some ⟨(p.2.2.1.flatMap f3).map .d, 0⟩ ∧ p.2.1 ≠ 0 ∧ p.2.1 ≠ 1 ∧ MarkP nx.length p.2.2.2.2 p.2.2.1 ∧ (∀ q ∈ p.2.2.1, q.1.1 < nx.length ∧ q.1.2 < nx.length) ∧ (∀ (j : Nat) (q : (Nat × Nat) × List Nat), p.2.2.1[j]? = some q → q.2.length ≤ j)) ∧ InvR (nxP nx nx) m (diffP ou ou) (s, t) p.2.2.2.1 0 p.2.2.1 ∧ p.2.2.2.1 ≤ p.2.2.1.length) (fun p => nx.length * nx.length + 2 - p.2.2.2.1) (_, 2, [((s, t), [])], 0, List.replicate (nx.length * nx.length) false) ⟨⟨rfl, by rw [hN0]; rfl, rfl, show (2 : Nat) ≠ 0 by decide, show (2 : Nat) ≠ 1 by decide, .start _ _, fun q hq => by simp at hq; subst hq; exact ⟨hs, ht⟩, fun j q hq => by
    cases j with
    | zero => simp at hq; subst hq; simp
    | succ j => simp at hq⟩, .start _ _, Nat.zero_le _⟩ rfl (by simp [Go.Vm.look, extK, enterK]) ?_
  intro p hp'
  obtain ⟨σ0, id, fs, k, B⟩ := p
  obtain ⟨⟨f0, f1, hid, hi0, hi1, hMk0, hok, hwl⟩, hS, hkL⟩ := hp'
  simp only at f0 f1 hid hi0 hi1 hMk0 hok hwl hS hkL ⊢
  have hfl := addR_len hS.nd hok
  refine KC.seq ?_
  refine KC.seq ?_
  refine KC.region ?_
  refine KT.step rfl rfl (K.move rfl) ?_
  refine KT.step rfl rfl (K.move rfl) ?_
  refine KT.step rfl rfl (K.lenO rfl Tryd.underlying162) ?_
  refine KT.step rfl rfl (K.lss rfl rfl) ?_
  refine KT.nil ?_
  refine thenK_n ?_
  refine KC.cond rfl (fun hc32 => ?_) (fun hc32 => ?_)
  · skip
    replace hc32 := of_decide_eq_true hc32
    have hkl : k < fs.length := by omega
    obtain ⟨sk, wk, hk⟩ : ∃ (q1 : Nat × Nat) (q2 : List Nat), fs[k]? = some (q1, q2) := ⟨_, _, List.getElem?_eq_getElem hkl⟩
    refine KC.skip ?_
    refine thenK_n ?_
    refine KC.seq ?_
    refine KC.block ?_
    refine KC.seq ?_
    refine KC.region ?_
    refine KT.step rfl rfl (K.move rfl) ?_
    refine KT.step rfl rfl (K.move rfl) ?_
    refine KT.step rfl rfl (K.idxOK (m := k) rfl rfl (by omega) Tryd.underlying162 Tryd.size161) ?_
    refine KT.step rfl rfl (K.loadOP (fs.flatMap f3) rfl hid (by decide) Tryd.agg161 Tryd.size161 (by rw [f_len f3_len]; have : (k + 1) * 3 ≤ fs.length * 3 := Nat.mul_le_mul_right _ (by omega); omega)) ?_
    rw [f_get f3_len hk]
    refine KT.step rfl rfl (K.alloc Tryd.zero161) ?_
    refine KT.storeL (cs := (f3 (sk, wk)).map .d) rfl rfl rfl rfl rfl rfl (f3_one _) Tryd.size161 ?_
    refine KT.nil ?_
    refine thenK_n ?_
    refine KC.seq ?_
    refine KC.region ?_
    refine KT.step rfl rfl (K.fieldAddrO rfl Tryd.fld63_0 Tryd.size3) ?_
    refine KT.step rfl rfl (K.loadO rfl (obj_left f0) (by simp) rfl Tryd.agg3) ?_
    refine KT.step rfl rfl (K.move rfl) ?_
    refine KT.nil ?_
    refine thenK_n ?_
    refine KC.block ?_
    have a0 := obj_left (τ := [(⟨(f3 (sk, wk)).map .d, 0⟩ : VObj)]) f0
    have a1 := obj_left (τ := [(⟨(f3 (sk, wk)).map .d, 0⟩ : VObj)]) f1
    have a9 := obj_left (τ := [(⟨(f3 (sk, wk)).map .d, 0⟩ : VObj)]) hid
    have a2 : (σ0 ++ [(⟨(f3 (sk, wk)).map .d, 0⟩ : VObj)])[σ0.length]? = some ⟨(f3 (sk, wk)).map .d, 0⟩ := (List.getElem?_concat_length ..)
    have hide := obj_lt hid
    have hl1 := obj_lt f1
    generalize hE : σ0.length = e at *
    refine KC.loop (fun p : List VObj × Nat × List ((Nat × Nat) × List Nat) × Nat × List Bool => p.1) (fun p => [(3, .optr 0 0), (8, .osl 1 0 (nx.length * nx.length) 1 (nx.length * nx.length) true), (9, .osl p.2.1 0 p.2.2.1.length 3 p.2.2.1.length false), (10, .d (DI (k : Nat))), (11, .optr e 0), (40, .d (DI (m : Nat))), (41, .d (DI (p.2.2.2.1 : Nat)))]) (fun p => (p.1[0]? = some ⟨[.d (DI (m : Nat)), .d nd, .d od], 0⟩ ∧ p.1[1]? = some ⟨(p.2.2.2.2.map DB).map .d, 0⟩ ∧ p.1[p.2.1]? = some ⟨(p.2.2.1.flatMap f3).map .d, 0⟩ ∧ p.2.1 ≠ 0 ∧ p.2.1 ≠ 1 ∧ MarkP nx.length p.2.2.2.2 p.2.2.1 ∧ (∀ q ∈ p.2.2.1, q.1.1 < nx.length ∧ q.1.2 < nx.length) ∧ (∀ (j : Nat) (q : (Nat × Nat) × List Nat), p.2.2.1[j]? = some q → q.2.length ≤ j)) ∧ InvR (nxP nx nx) m (diffP ou ou) (s, t) k p.2.2.2.1 p.2.2.1 ∧ p.2.2.2.1 ≤ m ∧ p.1[e]? = some ⟨(f3 (sk, wk)).map .d, 0⟩ ∧ p.2.1 ≠ e ∧ p.2.2.1[k]? = some (sk, wk)) (fun p => m - p.2.2.2.1) (_, id, fs, 0, B) ⟨⟨a0, a1, a9, hi0, hi1, hMk0, hok, hwl⟩, hS, Nat.zero_le _, a2, by simp only; omega, hk⟩ (by rfl) (by simp [Go.Vm.look, extK]) ?_
    intro p hp'
    obtain ⟨σ1, id1, fs1, i, B1⟩ := p
    obtain ⟨⟨q0, q1, q9, hi10, hi11, hMk, hok1, hwl1⟩, hS1, him0, q2, hi1e, hk1⟩ := hp'
    simp only at q0 q1 q9 hi10 hi11 hMk hok1 hwl1 hS1 him0 q2 hi1e hk1 ⊢
    refine KC.seq ?_
    refine KC.region ?_
    refine KT.step rfl rfl (K.lss rfl rfl) ?_
    refine KT.nil ?_
    refine thenK_n ?_
    refine KC.seq ?_
    refine KC.cond rfl (fun hc42 => ?_) (fun hc42 => ?_)
    · skip
      replace hc42 := of_decide_eq_true hc42
      have him : i < m := by omega
      have hB1 := addR_len hS1.nd hok1
      have hk1l := obj_ltF hk1
      refine KC.skip ?_
      refine thenK_n ?_
      refine KC.seq ?_
      refine KC.block ?_
      refine KC.seq ?_
      refine KC.region ?_
      refine KT.step rfl rfl (K.move rfl) ?_
      refine KT.step rfl rfl (K.assign rfl) ?_
      refine KT.nil ?_
      refine thenK_n ?_
      refine KC.seq ?_
      refine KC.region ?_
      refine KT.step rfl rfl (K.build0P Tryd.underlying38 Tryd.size3 Tryd.one3.zero) ?_
      refine KT.step rfl rfl (K.fieldAddrO rfl Tryd.fld161_2 Tryd.size38) ?_
      refine KT.step rfl rfl (K.loadO rfl (obj_left q2) (by simp) rfl Tryd.agg38) ?_
      refine KT.appW wk rfl rfl rfl rfl (List.getElem?_concat_length ..) (by have := hwl1 _ _ hk1; simp only at this; omega) Tryd.underlying38 Tryd.size3 (of_decide_eq_true (by kernel_rfl)) (by kernel_rfl) fun σ2 x2 oE k2 l2 b2 => ?_
      rw [List.length_append] at k2 l2
      refine KT.step rfl rfl (K.move rfl) ?_
      refine KT.step rfl rfl (K.build1' (v := .d (DI (i : Nat))) rfl rfl Tryd.underlying38 Tryd.one3) ?_
      refine KT.appE (v := .d (DI (i : Nat))) rfl rfl rfl rfl (oE.pushed _) (List.getElem?_concat_length ..) rfl (by have := hwl1 _ _ hk1; simp only at this; simp [dW]; omega) Tryd.underlying38 Tryd.size3 (of_decide_eq_true (by kernel_rfl)) (by kernel_rfl) fun σ3 x3 o3 k3 w3 => ?_
      obtain ⟨j3, w3a, w3b⟩ := w3
      rw [List.length_append] at w3b k3
      rw [dW_snoc] at o3
      refine KT.step rfl rfl (K.assign rfl) ?_
      refine KT.nil ?_
      refine thenK_n ?_
      refine KC.seq ?_
      refine KC.seq ?_
      obtain ⟨idw, rfl, hw⟩ := o3.is (n := (wZ (wk ++ [i])).length) (by simp) (by decide) (by simp [wZ])
      have hwj : σ2.length + 1 ≤ idw := by cases w3a; exact w3b
      have eW : rowV (wZ (wk ++ [i])) = wV (wk ++ [i]) := rowV_wV (by simp)
      generalize hσ4 : freezeIds σ3 [idw] = σ4
      have g4 : ∀ j, j < σ1.length → σ4[j]? = σ1[j]? := fun j hj => by
        rw [← hσ4, fz_ne (by have := l2; omega)]
        refine (k3 j (fun h => by have := b2 j h; omega) (by omega)).trans ?_
        rw [List.getElem?_append_left (by omega)]
        exact (k2 j (by omega)).trans (List.getElem?_append_left hj)
      have l4 : σ1.length ≤ σ4.length := by rw [← hσ4, fz_len]; have := obj_lt hw; omega
      have c0 := (g4 0 (obj_lt q0)).trans q0
      have c1 := (g4 1 (obj_lt q1)).trans q1
      have c2 := (g4 e (obj_lt q2)).trans q2
      have c9 := (g4 id1 (obj_lt q9)).trans q9
      have hRk := hok1 _ (List.mem_of_getElem? hk1)
      simp only at hRk
      obtain ⟨hR1, hR2⟩ := hRk
      have z1 := (hv.row _ hR1).1; have z2 := (hv.row _ hR1).2; have z3 := (hv.row _ hR2).1; have z4 := (hv.row _ hR2).2
      have y1 : nx.getD sk.1 [] = nx[sk.1] := by simp [hR1]
      have y2 : ou.getD sk.1 [] = ou[sk.1]'(by omega) := by simp [hol, hR1]
      have y3 : nx.getD sk.2 [] = nx[sk.2] := by simp [hR2]
      have y4 : ou.getD sk.2 [] = ou[sk.2]'(by omega) := by simp [hol, hR2]
      have hC1 := hv.clo _ _ hR1 him
      have hC2 := hv.clo _ _ hR2 him
      have hN1 := hC1.2; have hN2 := hC2.2
      rw [y1] at z1; rw [y2] at z2; rw [y3] at z3; rw [y4] at z4
      have eN1 : nx[sk.1][i]'(by omega) = (nxF nx sk.1 i : Int) := by rw [get_D, ← y1]; exact hC1.1
      have eN2 : nx[sk.2][i]'(by omega) = (nxF nx sk.2 i : Int) := by rw [get_D, ← y3]; exact hC2.1
      have eO1 : (ou[sk.1]'(by omega))[i]'(by omega) = ouF ou sk.1 i := by rw [get_D, ← y2]; rfl
      have eO2 : (ou[sk.2]'(by omega))[i]'(by omega) = ouF ou sk.2 i := by rw [get_D, ← y4]; rfl
      have hpl := pair_lt hN1 hN2
      have hml : nxF nx sk.1 i * nx.length ≤ nx.length * nx.length := Nat.mul_le_mul_right _ (by omega)
      have e98 : (nxF nx sk.1 i : Int) * (nx.length : Nat) + (nxF nx sk.2 i : Nat) = ((nxF nx sk.1 i * nx.length + nxF nx sk.2 i : Nat) : Int) := by rw [Int.natCast_add, Int.natCast_mul]
      have hBl : nxF nx sk.1 i * nx.length + nxF nx sk.2 i < B1.length := by rw [hMk.1]; exact hpl
      refine KC.ghost [idw] 3 (t := 13) rfl (deepen_row (k := 1) (fz_one hw)) ?_
      rw [hσ4]
      refine KC.draw Tryd.mixed ?_
      refine KT.step rfl rfl (K.fieldAddrO rfl Tryd.fld63_2 Tryd.size56) ?_
      refine KT.step rfl rfl (K.loadO rfl c0 (by simp) rfl Tryd.agg56) ?_
      refine KT.step rfl rfl (K.fieldAddrO rfl Tryd.fld161_0 Tryd.size3) ?_
      refine KT.step rfl rfl (K.loadO rfl c2 (by simp) rfl Tryd.agg3) ?_
      refine KT.idx (m := sk.1) rfl rfl rfl ho rfl (by omega) Tryd.underlying56 Tryd.size38 fun c55 cs55 hq55 => ?_
      refine KT.step rfl rfl (K.load rfl Tryd.agg38) ?_
      refine KT.step rfl rfl (K.move rfl) ?_
      refine KT.idxI (m := i) rfl rfl rfl hq55 rfl (by omega) Tryd.underlying38 Tryd.size3 fun cs58 => ?_
      refine KT.step rfl rfl (K.load rfl Tryd.agg3) ?_
      refine KT.step rfl rfl (K.fieldAddrO rfl Tryd.fld63_2 Tryd.size56) ?_
      refine KT.step rfl rfl (K.loadO rfl c0 (by simp) rfl Tryd.agg56) ?_
      refine KT.step rfl rfl (K.fieldAddrO rfl Tryd.fld161_1 Tryd.size3) ?_
      refine KT.step rfl rfl (K.loadO rfl c2 (by simp) rfl Tryd.agg3) ?_
      refine KT.idx (m := sk.2) rfl rfl rfl ho rfl (by omega) Tryd.underlying56 Tryd.size38 fun c64 cs64 hq64 => ?_
      refine KT.step rfl rfl (K.load rfl Tryd.agg38) ?_
      refine KT.step rfl rfl (K.move rfl) ?_
      refine KT.idxI (m := i) rfl rfl rfl hq64 rfl (by omega) Tryd.underlying38 Tryd.size3 fun cs67 => ?_
      refine KT.step rfl rfl (K.load rfl Tryd.agg3) ?_
      refine KT.step rfl rfl (K.neq rfl rfl) ?_
      refine KT.nil ?_
      refine ⟨by kernel_rfl, ?_⟩
      refine thenK_n ?_
      refine KC.cond rfl (fun hc69 => ?_) (fun hc69 => ?_)
      · skip
        replace hc69 := of_decide_eq_true hc69
        have hd : (diffP ou ou) sk i := fun h => hc69 (by rw [eO1, eO2]; exact h)
        have hR := (hS1.some hk1 him hd).is
        refine KC.seq ?_
        refine KC.region ?_
        refine KT.step rfl rfl (K.move rfl) ?_
        refine KT.step rfl rfl (K.assign rfl) ?_
        refine KT.step rfl rfl (K.assign rfl) ?_
        refine KT.nil ?_
        refine thenK_n ?_
        refine KC.ret ?_
        refine thenK_r ?_
        refine blockK_r ?_
        refine thenK_r ?_
        refine thenK_r ?_
        refine blockK_r ?_
        refine blockK_r ?_
        refine thenK_r ?_
        refine thenK_r ?_
        refine blockK_r ?_
        refine thenK_r ?_
        refine ⟨.inl rfl, _, rfl, ?_⟩
        rw [show partW m nx ou nx ou s t = some (wk ++ [i]) from hR]
        show _ = some (DV.tup [wV (wk ++ [i]), DB true])
        rw [← eW]; rfl
      · skip
        replace hc69 := of_decide_eq_false hc69
        have hd : ¬ (diffP ou ou) sk i := fun h => h (by rw [← eO1, ← eO2]; exact Classical.not_not.1 hc69)
        have hS2 := hS1.letter hk1 him hd
        refine KC.skip ?_
        refine thenK_n ?_
        refine KC.seq ?_
        refine KC.draw Tryd.mixed ?_
        refine KT.step rfl rfl (K.fieldAddrO rfl Tryd.fld63_1 Tryd.size56) ?_
        refine KT.step rfl rfl (K.loadO rfl c0 (by simp) rfl Tryd.agg56) ?_
        refine KT.step rfl rfl (K.fieldAddrO rfl Tryd.fld161_0 Tryd.size3) ?_
        refine KT.step rfl rfl (K.loadO rfl c2 (by simp) rfl Tryd.agg3) ?_
        refine KT.idx (m := sk.1) rfl rfl rfl hn rfl (by omega) Tryd.underlying56 Tryd.size38 fun c75 cs75 hq75 => ?_
        refine KT.step rfl rfl (K.load rfl Tryd.agg38) ?_
        refine KT.step rfl rfl (K.move rfl) ?_
        refine KT.idxI (m := i) rfl rfl rfl hq75 rfl (by omega) Tryd.underlying38 Tryd.size3 fun cs78 => ?_
        refine KT.step rfl rfl (K.load rfl Tryd.agg3) ?_
        refine KT.step rfl rfl (K.fieldAddrO rfl Tryd.fld63_1 Tryd.size56) ?_
        refine KT.step rfl rfl (K.loadO rfl c0 (by simp) rfl Tryd.agg56) ?_
        refine KT.step rfl rfl (K.fieldAddrO rfl Tryd.fld161_1 Tryd.size3) ?_
        refine KT.step rfl rfl (K.loadO rfl c2 (by simp) rfl Tryd.agg3) ?_
        refine KT.idx (m := sk.2) rfl rfl rfl hn rfl (by omega) Tryd.underlying56 Tryd.size38 fun c84 cs84 hq84 => ?_
        refine KT.step rfl rfl (K.load rfl Tryd.agg38) ?_
        refine KT.step rfl rfl (K.move rfl) ?_
        refine KT.idxI (m := i) rfl rfl rfl hq84 rfl (by omega) Tryd.underlying38 Tryd.size3 fun cs87 => ?_
        refine KT.step rfl rfl (K.load rfl Tryd.agg3) ?_
        refine KT.step rfl rfl (K.assign rfl) ?_
        refine KT.step rfl rfl (K.assign rfl) ?_
        refine KT.nil ?_
        refine ⟨by kernel_rfl, ?_⟩
        refine thenK_n ?_
        refine KC.seq ?_
        refine KC.region ?_
        refine KT.step rfl rfl (K.move rfl) ?_
        rw [eN1, eN2]
        refine KT.step rfl rfl (K.fieldAddrO rfl Tryd.fld63_1 Tryd.size56) ?_
        refine KT.step rfl rfl (K.loadO rfl c0 (by simp) rfl Tryd.agg56) ?_
        refine KT.step rfl rfl (K.len rfl hn Tryd.underlying56) ?_
        refine KT.step rfl rfl (K.mul rfl rfl (wrap_id (by rw [← Int.natCast_mul]; omega))) ?_
        refine KT.step rfl rfl (K.move rfl) ?_
        refine KT.step rfl rfl (K.add rfl rfl (wrap_id (by rw [← Int.natCast_mul]; omega))) ?_
        refine KT.step rfl rfl (K.assign rfl) ?_
        refine KT.nil ?_
        refine thenK_n ?_
        refine KC.seq ?_
        refine KC.region ?_
        refine KT.step rfl rfl (K.move rfl) ?_
        refine KT.step rfl rfl (K.move rfl) ?_
        refine KT.step rfl rfl (K.idxO (m := nxF nx sk.1 i * nx.length + nxF nx sk.2 i) rfl (congrArg (fun z => some (XV.d (DI z))) e98) (by omega) Tryd.underlying107 Tryd.size4) ?_
        refine KT.step rfl rfl (K.loadO rfl c1 (by simp) (by rw [Nat.zero_add, List.getElem?_map, List.getElem?_map, List.getElem?_eq_getElem hBl]; rfl) Tryd.agg4) ?_
        refine KT.step rfl rfl (K.not rfl) ?_
        refine KT.nil ?_
        refine thenK_n ?_
        refine KC.cond rfl (fun hc100 => ?_) (fun hc100 => ?_)
        · skip
          have hno : (nxP nx nx) sk i ∉ (fs1.drop 1).map Prod.fst := fun h => by
            have h3 := hMk.2 _ _ hN1 hN2
            rw [decide_eq_true (show (nxF nx sk.1 i, nxF nx sk.2 i) ∈ _ from h)] at h3
            rw [show B1[nxF nx sk.1 i * nx.length + nxF nx sk.2 i]'hBl = true by simpa [hBl] using h3] at hc100
            cases hc100
          refine KC.seq ?_
          refine KC.region ?_
          refine KT.step rfl rfl (K.move rfl) ?_
          refine KT.step rfl rfl (K.move rfl) ?_
          refine KT.step rfl rfl (K.idxO (m := nxF nx sk.1 i * nx.length + nxF nx sk.2 i) rfl (congrArg (fun z => some (XV.d (DI z))) e98) (by omega) Tryd.underlying107 Tryd.size4) ?_
          refine KT.storeG rfl rfl rfl rfl c1 (by simp; omega) rfl rfl Tryd.size4 fun σ5 l5 u5 v5 => ?_
          have v9 := (v5 id1 hi11).trans c9
          have v0 := (v5 0 (by decide)).trans c0
          have v2 := (v5 e (by omega)).trans c2
          have v2l := obj_lt v2
          refine KT.nil ?_
          refine thenK_n ?_
          refine KC.region ?_
          refine KT.step rfl rfl (K.move rfl) ?_
          refine KT.step rfl rfl (K.move rfl) ?_
          refine KT.step rfl rfl (K.move rfl) ?_
          refine KT.step rfl rfl (K.move rfl) ?_
          refine KT.step rfl rfl (K.buildS rfl (build161_3 _ _ _ _ _)) ?_
          refine KT.step rfl rfl (K.buildK (k := 3) (ds := f3 ((nxP nx nx) sk i, wk ++ [i])) (by show _ = some (XV.d (DV.agg (f3 ((nxP nx nx) sk i, wk ++ [i])))); unfold f3; simp only; rw [← eW]; rfl) rfl Tryd.underlying162 Tryd.size161 Tryd.zero161 (by decide)) ?_
          refine KT.appK (k := 3) (vs := (f3 ((nxP nx nx) sk i, wk ++ [i])).map XV.d) rfl rfl rfl rfl ((OwnK.sl v9 (by rw [List.length_map, f_len f3_len]) : OwnK 3 _ (.osl id1 0 fs1.length 3 fs1.length false) _).pushed _) (List.getElem?_concat_length ..) rfl (f3_one _) (by rw [List.length_map, f_len f3_len]; omega) Tryd.underlying162 Tryd.size161 (of_decide_eq_true (by kernel_rfl)) (by kernel_rfl) (by decide) fun σ6 x6 o6 k6 w6 => ?_
          obtain ⟨j6, w6a, w6b⟩ := w6
          rw [List.length_append] at w6b k6
          obtain ⟨id6, rfl, h6⟩ := o6.is (n := fs1.length + 1) (by rw [List.length_append, List.length_map, f_len f3_len]; simp [f3]; omega) (by decide) (by omega)
          have w6c : σ5.length + 1 ≤ id6 := by cases w6a; exact w6b
          have r6 : ∀ j, j ≠ id1 → j < σ5.length → σ6[j]? = σ5[j]? := fun j h1 h2 => (k6 j (fun h => by cases h; exact h1 rfl) (by omega)).trans (List.getElem?_append_left h2)
          refine KT.step rfl rfl (K.assign rfl) ?_
          refine KT.nil ?_
          refine blockK_n ?_
          refine thenK_n ?_
          refine KC.region ?_
          refine KT.step rfl rfl (K.add rfl rfl (wrap_id (by omega))) ?_
          refine KT.step rfl rfl (K.move rfl) ?_
          refine KT.nil ?_
          refine thenK_n ?_
          refine ⟨(σ6, id6, fs1 ++ [((nxP nx nx) sk i, wk ++ [i])], i + 1, B1.set (nxF nx sk.1 i * nx.length + nxF nx sk.2 i) true), ⟨⟨?_, ?_, ?_, by simp only; omega, by simp only; omega, hMk.add (fun h => by rw [h] at hk1; cases hk1) (s := (nxP nx nx) sk i) ⟨hN1, hN2⟩ _, fun q hq => ?_, fun j q hq => ?_⟩, ?_, by simp only; omega, ?_, by simp only; omega, ?_⟩, by simp only; omega, rfl, by simp [Go.Vm.look, extK]⟩
          · exact (r6 0 (by omega) (by omega)).trans v0
          · refine (r6 1 (by omega) (by omega)).trans ?_
            rw [u5, Nat.zero_add]
            simp
          · simp only; rw [← f_snoc]; exact h6
          · rcases List.mem_append.1 hq with hq | hq
            · exact hok1 q hq
            · simp at hq; subst hq; exact ⟨hN1, hN2⟩
          · by_cases hj : j < fs1.length
            · rw [List.getElem?_append_left hj] at hq; exact hwl1 j q hq
            · rw [List.getElem?_append_right (by omega)] at hq
              have e0 : j - fs1.length = 0 := by have := obj_ltF hq; simp at this; omega
              rw [e0] at hq
              cases hq
              have := hwl1 _ _ hk1
              simp at this ⊢; omega
          · simp only
            rw [show fs1 ++ [((nxP nx nx) sk i, wk ++ [i])] = addR fs1 ((nxP nx nx) sk i) (wk ++ [i]) from (if_neg hno).symm]
            exact hS2
          · exact (r6 e (by omega) (by omega)).trans v2
          · simp only; rw [List.getElem?_append_left hk1l]; exact hk1
        · skip
          have hyes : (nxP nx nx) sk i ∈ (fs1.drop 1).map Prod.fst := by
            have h3 := hMk.2 _ _ hN1 hN2
            rw [show B1.getD (nxF nx sk.1 i * nx.length + nxF nx sk.2 i) false = true by simpa [hBl] using hc100] at h3
            exact of_decide_eq_true h3.symm
          refine KC.skip ?_
          refine blockK_n ?_
          refine thenK_n ?_
          refine KC.region ?_
          refine KT.step rfl rfl (K.add rfl rfl (wrap_id (by omega))) ?_
          refine KT.step rfl rfl (K.move rfl) ?_
          refine KT.nil ?_
          refine thenK_n ?_
          refine ⟨(σ4, id1, fs1, i + 1, B1), ⟨⟨c0, c1, c9, hi10, hi11, hMk, hok1, hwl1⟩, ?_, by simp only; omega, c2, hi1e, hk1⟩, by simp only; omega, rfl, by simp [Go.Vm.look, extK]⟩
          simp only
          rw [show fs1 = addR fs1 ((nxP nx nx) sk i) (wk ++ [i]) from (if_pos hyes).symm]
          exact hS2
    · skip
      replace hc42 := of_decide_eq_false hc42
      refine KC.exit ?_
      refine thenK_x ?_
      refine thenK_x ?_
      refine blockK_e ?_
      refine blockK_n ?_
      refine thenK_n ?_
      refine KC.region ?_
      refine KT.step rfl rfl (K.move rfl) ?_
      refine KT.step rfl rfl (K.add rfl rfl (wrap_id (by omega))) ?_
      refine KT.step rfl rfl (K.assign rfl) ?_
      refine KT.nil ?_
      refine thenK_n ?_
      refine ⟨(σ1, id1, fs1, k + 1, B1), ⟨⟨q0, q1, q9, hi10, hi11, hMk, hok1, hwl1⟩, ?_, ?_⟩, by simp only; omega, rfl, by simp [Go.Vm.look, extK]⟩
      · simp only
        obtain rfl : m = i := by omega
        exact hS1.next (obj_ltF hk1)
      · simp only; have := obj_ltF hk1; omega
  · skip
    replace hc32 := of_decide_eq_false hc32
    refine KC.exit ?_
    refine thenK_x ?_
    refine thenK_x ?_
    refine blockK_e ?_
    refine thenK_n ?_
    refine KC.seq ?_
    refine KC.region ?_
    refine KT.step rfl rfl (K.assign rfl) ?_
    refine KT.step rfl rfl (K.assign rfl) ?_
    refine KT.nil ?_
    refine thenK_n ?_
    refine KC.ret ?_
    have hR := (hS.none (by omega)).is
    refine ⟨.inl rfl, _, rfl, ?_⟩
    rw [show partW m nx ou nx ou s t = none from hR]
    rfl
end Go.Proofs.YteednkolfnjdoaaDoor

