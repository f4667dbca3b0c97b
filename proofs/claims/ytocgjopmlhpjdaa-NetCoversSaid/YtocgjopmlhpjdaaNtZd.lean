import Derived.Test.YtocgjopmlhpjdaaNtZc
/-
  Nets: grow.
-/
namespace Go.Proofs.Ytocgjopmlhpjdaa
open Go.Vm Go.RowKit Go.Nt Go.Ht
theorem plainTry_81 : plainFn Try.prog 81 = true := by kernel_rfl
theorem Try.agg131 : isAggT Try.prog 131 = some false := by kernel_rfl
theorem Try.zero4 : zeroT Try.prog 4 = some (.bool false) := Try.one4.zero
theorem thenK_wk {P : Program} {M : Nat → Prop} {W0 : World} {n : Nat} {y : Code} {T T2 : Exit → List VObj → Kn → Prop} {τ : List VObj} {k kn' : Kn} (h : thenK (fun τ k => KC P M W0 n y τ k T) T2 .normal τ kn') (hk : ∀ p ∈ kn', Go.Vm.look k p.1 = some p.2) : thenK (fun τ k => KC P M W0 n y τ k T) T2 .normal τ k := KC.weaken h hk
theorem TreM.setm {n : Nat} {pre post : List (List Int)} {s : List Int} {cid : Nat} {σ : List VObj} {xn xw : XV} {nodes way : List (List Int)} (h : TreM n pre post s cid σ xn xw nodes way) {j : Nat} {o : VObj} (hj : σ[j]? = some o) (hm : o.mode ≠ 0) (b : VObj) : TreM n pre post s cid (σ.set j b) xn xw nodes way ∧ OffT cid xn xw j := by
  have hc : j ≠ cid := fun e => by rw [e, h.c] at hj; cases hj; exact hm rfl
  have hn : idX xn ≠ some j := fun e => by
    have ho := h.on
    generalize (flatW nodes).map XV.d = c at ho
    cases ho with
    | nil => cases e
    | sl h1 _ => cases e; rw [h1] at hj; cases hj; exact hm rfl
  have hw : idX xw ≠ some j := fun e => by
    have ho := h.ow
    cases ho with
    | nil => cases e
    | sl h1 _ => cases e; rw [h1] at hj; cases hj; exact hm rfl
  refine ⟨⟨by rw [List.getElem?_set_ne hc]; exact h.c, h.on.keep fun i hi => by rw [List.getElem?_set_ne (fun e => hn (by rw [e]; exact hi))], h.nn, h.ow.keep fun i hi => by rw [List.getElem?_set_ne (fun e => hw (by rw [e]; exact hi))], h.ap, h.cn, h.cw⟩, hc, hn, hw⟩
theorem TreM.keepB {n : Nat} {pre post : List (List Int)} {s : List Int} {cid b : Nat} {σ σ' : List VObj} {xn xw : XV} {nodes way : List (List Int)} (h : TreM n pre post s cid σ xn xw nodes way) (hk : ∀ j, j ≠ b → σ'[j]? = σ[j]?) (ho : OffT cid xn xw b) : TreM n pre post s cid σ' xn xw nodes way :=
  ⟨(hk _ (fun e => ho.1 e.symm)).trans h.c, h.on.keep fun j hj => hk j (fun e => ho.2.1 (by rw [← e]; exact hj)), h.nn, h.ow.keep fun j hj => hk j (fun e => ho.2.2 (by rw [← e]; exact hj)), h.ap, h.cn, h.cw⟩
theorem fold_take {α β : Type} {g : β → α → Option β} {l : List α} {k : Nat} {a : β} (h : k < l.length) : (l.take (k + 1)).foldlM g a = ((l.take k).foldlM g a).bind fun b => g b l[k] := by
  rw [List.take_add_one, List.getElem?_eq_getElem h, Option.toList_some, List.foldlM_append]
  cases (l.take k).foldlM g a with
  | none => rfl
  | some b => simp
theorem fold_none {α β : Type} {g : β → α → Option β} {l : List α} {k : Nat} {a : β} (h : (l.take k).foldlM g a = none) : l.foldlM g a = none := by
  conv => lhs; rw [← List.take_append_drop k l]
  rw [List.foldlM_append, h]; rfl
theorem growP_big {nx : List Int → Nat → Option (List Int)} {T f : Nat} {way nodes : List (List Int)} {m : List Int} (h : nodes.length = 2000) : growP nx T (f + 1) way nodes m = none := by unfold growP; rw [if_pos h]
theorem growP_met {nx : List Int → Nat → Option (List Int)} {T f : Nat} {way nodes : List (List Int)} {m : List Int} (h : nodes.length ≠ 2000) (hw : way.any (eqQ m) = true) : growP nx T (f + 1) way nodes m = some (nodes ++ [m]) := by unfold growP; rw [if_neg h, if_pos hw]
theorem growP_kids {nx : List Int → Nat → Option (List Int)} {T f : Nat} {way nodes : List (List Int)} {m : List Int} (h : nodes.length ≠ 2000) (hw : way.any (eqQ m) = false) :
    growP nx T (f + 1) way nodes m = (enL nx m T).foldlM (fun ns p => growP nx T f (way ++ [m]) ns (raiseL (way ++ [m]) p.2)) (nodes ++ [m]) := by
  conv => lhs; unfold growP
  rw [if_neg h, if_neg (by rw [hw]; decide)]
theorem GrowQ.bool {n : Nat} {pre post : List (List Int)} {s : List Int} {cid f : Nat} {xn xw : XV} {nodes way : List (List Int)} {m : List Int} {σ σ' : List VObj} {x : XV} (h : GrowQ n pre post s cid f xn xw nodes way m σ σ' x) : ∃ c, x = .d (DB c) := by
  obtain ⟨_, _, h⟩ := h
  cases hg : growP (nxN pre post) pre.length f way nodes m with
  | none => rw [hg] at h; exact ⟨_, h⟩
  | some r => rw [hg] at h; exact ⟨_, h.1⟩
set_option maxHeartbeats 8000000 in
set_option maxRecDepth 10000 in
theorem grow81_step {f n : Nat} {pre post : List (List Int)} {s : List Int} {cid : Nat} (hN : NetOk pre post n) (hp3 : ∀ r ∈ pre, ∀ x ∈ r, 0 ≤ x ∧ x ≤ 3) (hq3 : ∀ r ∈ post, ∀ x ∈ r, 0 ≤ x ∧ x ≤ 3) (ih : ∀ {M : Nat → Prop} {W0 : World} {σ : List VObj} {xn xw : XV} {nodes way : List (List Int)} {m : List Int}, TreM n pre post s cid σ xn xw nodes way → nodes.length ≤ 2000 → 2001 ≤ f + nodes.length → way.length ≤ nodes.length → m.length = n → BdT way.length m → (∀ x ∈ way, x.length = n ∧ Bnd x) →
    InCall Try.prog M W0 81 σ [.optr cid 0, .d (.agg (w6 (tk m)))] (GrowQ n pre post s cid f xn xw nodes way m σ))
    {M : Nat → Prop} {W0 : World} {σ : List VObj} {xn xw : XV} {nodes way : List (List Int)} {m : List Int} : TreM n pre post s cid σ xn xw nodes way → nodes.length ≤ 2000 → 2001 ≤ (f + 1) + nodes.length → way.length ≤ nodes.length → m.length = n → BdT way.length m → (∀ x ∈ way, x.length = n ∧ Bnd x) →
    InCall Try.prog M W0 81 σ [.optr cid 0, .d (.agg (w6 (tk m)))] (GrowQ n pre post s cid (f + 1) xn xw nodes way m σ) := by
  intro hT hl20 hfu hwl hml hmb hw
  have n6 := hN.n6
  have hmB : Bnd m := bdT_bnd hmb (by omega)
  refine inCall_K Try.func81 rfl (Nat.le_of_ble_eq_true rfl) ?_
  refine KC.seq ?_
  refine KC.region ?_
  refine KT.step rfl rfl (K.box rfl) ?_
  refine KT.step rfl rfl (K.box rfl) ?_
  refine KT.step rfl rfl (K.alloc Try.zero4) ?_
  refine KT.nil ?_
  refine thenK_n ?_
  refine KC.seq ?_
  refine KC.seq ?_
  obtain ⟨σ0, hσ0⟩ : ∃ σ0, σ0 = ((σ ++ [(⟨[.optr cid 0], 0⟩ : VObj)]) ++ [(⟨(w6 (tk m)).map .d, 0⟩ : VObj)]) ++ [(⟨[.d (DB false)], 0⟩ : VObj)] := ⟨_, rfl⟩
  obtain ⟨bc, hbc⟩ : ∃ bc, bc = σ.length := ⟨_, rfl⟩
  obtain ⟨bm, hbm⟩ : ∃ bm, bm = σ.length + 1 := ⟨_, rfl⟩
  obtain ⟨br, hbr⟩ : ∃ br, br = σ.length + 2 := ⟨_, rfl⟩
  have l0 : σ0.length = σ.length + 3 := by rw [hσ0]; simp
  have bC : σ0[bc]? = some ⟨[.optr cid 0], 0⟩ := by rw [hσ0, hbc]; exact obj_left (obj_left (List.getElem?_concat_length ..))
  have bM : σ0[bm]? = some ⟨(w6 (tk m)).map .d, 0⟩ := by rw [hσ0, hbm]; exact obj_left ((List.getElem?_append_right (by simp)).trans (by simp))
  have bR : σ0[br]? = some ⟨[.d (DB false)], 0⟩ := by rw [hσ0, hbr]; exact (List.getElem?_append_right (by simp)).trans (by simp)
  have k0 : ∀ j, j < σ.length → σ0[j]? = σ[j]? := fun j hj => by rw [hσ0, List.append_assoc, List.append_assoc]; exact List.getElem?_append_left hj
  have hT0 := hT.keep k0
  have oC : ∀ e, σ.length ≤ e → OffT cid xn xw e := fun e he => hT.off_new he
  refine KC.sig (σ' := σ0) (by rw [hσ0]; rfl) ?_
  refine KC.weaken (kn' := [(2, .optr bc 0), (3, .optr bm 0), (4, .optr br 0)]) ?_ (by simp [Go.Vm.look, extK, enterK, hbc, hbm, hbr])
  refine KC.region ?_
  refine KT.step rfl rfl (K.loadO (y := .optr cid 0) rfl bC (by simp) rfl Try.agg131) ?_
  refine KT.step rfl rfl (K.nilCheckO rfl) ?_
  refine KT.step rfl rfl (K.fieldAddrO rfl Try.fld118_1 Try.size62) ?_
  refine KT.step rfl rfl (K.loadO (y := xn) rfl hT0.c (by simp) rfl Try.agg62) ?_
  refine KT.step rfl rfl (K.lenOW (k := 6) (m := nodes.length) rfl hT0.on (by rw [List.length_map, flatW_len]) (by decide) Try.underlying62) ?_
  refine KT.step rfl rfl (K.eql rfl rfl) ?_
  refine KT.nil ?_
  refine thenK_n ?_
  refine KC.cond rfl (fun hc12 => ?_) (fun hc12 => ?_)
  · skip
    replace hc12 := of_decide_eq_true hc12
    refine KC.seq ?_
    refine KC.region ?_
    refine KT.storeG rfl rfl rfl rfl bR (by simp) rfl rfl Try.size4 fun σX lX uX vX => ?_
    refine KT.nil ?_
    refine thenK_n ?_
    refine KC.ret ?_
    refine thenK_r ?_
    refine ⟨.inl rfl, _, resK_one rfl rfl uX (by decide) Try.agg4 rfl, by omega, fun e he ho => (vX e (by omega)).trans (k0 e he), ?_⟩
    rw [growP_big (by omega)]
  · skip
    replace hc12 := of_decide_eq_false hc12
    refine KC.skip ?_
    refine thenK_n ?_
    refine KC.seq ?_
    refine KC.drawZ (fun j => idX xn = some j) Try.mixed ?_
    refine KTZ.load rfl rfl rfl ((oC bc (by omega)).2.1) (K.loadO (y := .optr cid 0) rfl bC (by simp) rfl Try.agg131) ?_
    refine KTZ.load rfl rfl rfl ((oC bc (by omega)).2.1) (K.loadO (y := .optr cid 0) rfl bC (by simp) rfl Try.agg131) ?_
    refine KTZ.step rfl rfl (K.nilCheckO rfl) ?_
    refine KTZ.step rfl rfl (K.fieldAddrO rfl Try.fld118_1 Try.size62) ?_
    refine KTZ.load rfl rfl rfl (hT.cn) (K.loadO (y := xn) rfl hT0.c (by simp) rfl Try.agg62) ?_
    refine KTZ.load rfl rfl rfl ((oC bm (by omega)).2.1) (K.loadOA (w6 (tk m)) rfl bM (by decide) Try.agg64 Try.size64 rfl) ?_
    refine KTZ.step rfl rfl (K.buildK rfl (by simp [w6]) Try.underlying62 Try.size64 Try.zero64 (by omega)) ?_
    refine KTZ.appK (k := 6) rfl rfl (fun j h => h) rfl rfl (hT0.on.pushed _) (List.getElem?_concat_length ..) (by simp [w6]) (w6_one _) (by rw [List.length_map, flatW_len]; omega) Try.underlying62 Try.size64 bytes64 cells64 (by decide) fun σ2 xn2 on2 k2 w2 => ?_
    refine KTZ.step rfl rfl (K.nilCheckO rfl) ?_
    refine KTZ.step rfl rfl (K.fieldAddrO rfl Try.fld118_1 Try.size62) ?_
    refine KTZ.storeL rfl rfl rfl rfl ((k2 cid hT.cn (by have := obj_lt hT0.c; rw [List.length_append]; omega)).trans (obj_left hT0.c)) (by rw [treeC_len]; decide) on2.cells.1 on2.cells.2 Try.size62 fun σ3 l3 u3 v3 => ?_
    refine KTZ.nil ?_
    refine ⟨by kernel_rfl, ?_⟩
    refine thenK_n ?_
    refine KC.seq ?_
    refine KC.seq ?_
    have hA1 := hT0.app_nodes (σ1 := σ0 ++ [_]) (m := m) (by simp) (fun j hj => List.getElem?_append_left hj) on2 k2 w2 l3 u3 v3
    obtain ⟨hT3, f3, hl3⟩ := hA1
    have c3 := f3 bc (by omega) (oC bc (by omega))
    have m3 := f3 bm (by omega) (oC bm (by omega))
    have r3 := f3 br (by omega) (oC br (by omega))
    have cC := c3.1.trans bC
    have cM := m3.1.trans bM
    have cR := r3.1.trans bR
    refine KC.draw Try.mixed ?_
    refine KT.step rfl rfl (K.loadO (y := .optr cid 0) rfl cC (by simp) rfl Try.agg131) ?_
    refine KT.step rfl rfl (K.nilCheckO rfl) ?_
    refine KT.step rfl rfl (K.fieldAddrO rfl Try.fld118_2 Try.size62) ?_
    refine KT.step rfl rfl (K.loadO (y := xw) rfl hT3.c (by simp) rfl Try.agg62) ?_
    refine KT.step rfl rfl (K.loadOA (w6 (tk m)) rfl cM (by decide) Try.agg64 Try.size64 rfl) ?_
    refine KT.step rfl rfl (K.callG (τ := [boxM m, boxM m]) rfl plainTry_98 (contains98 n6 hml hmB hw (by omega) hT3.ow)) ?_
    refine KT.nil ?_
    refine ⟨by kernel_rfl, ?_⟩
    refine thenK_n ?_
    refine KC.cond rfl (fun hc28 => ?_) (fun hc28 => ?_)
    · skip
      refine KC.seq ?_
      refine KC.region ?_
      refine KT.storeG rfl rfl rfl rfl (obj_left cR) (by simp) rfl rfl Try.size4 fun σX lX uX vX => ?_
      refine KT.nil ?_
      refine thenK_n ?_
      refine KC.ret ?_
      refine thenK_r ?_
      have hnl : nodes.length ≠ 2000 := by omega
      have lX2 : σX.length = σ3.length + 2 := by rw [lX]; simp
      have hT4 := (hT3.keep (σ' := σ3 ++ [boxM m, boxM m]) fun j hj => List.getElem?_append_left hj).keepB vX r3.2
      refine ⟨.inl rfl, _, resK_one rfl rfl uX (by decide) Try.agg4 rfl, by omega, fun e he ho => ?_, ?_⟩
      · have a := f3 e (by omega) ho
        exact (vX e (by omega)).trans ((List.getElem?_append_left (by omega)).trans (a.1.trans (k0 e he)))
      · rw [growP_met hnl hc28]
        exact ⟨rfl, xn2, xw, hT4, by simp, by rw [List.length_append, List.length_singleton]; omega, fun e he ho => (f3 e (by omega) ho).2⟩
    · skip
      refine KC.skip ?_
      refine thenK_n ?_
      refine KC.seq ?_
      have hT4 := hT3.keep (σ' := σ3 ++ [boxM m, boxM m]) fun j hj => List.getElem?_append_left hj
      have h34 : ∀ j, j < σ3.length → (σ3 ++ [boxM m, boxM m])[j]? = σ3[j]? := fun j hj => List.getElem?_append_left hj
      have l4 : (σ3 ++ [boxM m, boxM m]).length = σ3.length + 2 := by simp
      have dC := obj_left (τ := [boxM m, boxM m]) cC
      have dM := obj_left (τ := [boxM m, boxM m]) cM
      have dR := obj_left (τ := [boxM m, boxM m]) cR
      generalize σ3 ++ [boxM m, boxM m] = σ4 at hT4 h34 l4 dC dM dR ⊢
      refine KC.drawZ (fun j => idX xw = some j) Try.mixed ?_
      refine KTZ.load rfl rfl rfl (c3.2.2.2) (K.loadO (y := .optr cid 0) rfl dC (by simp) rfl Try.agg131) ?_
      refine KTZ.load rfl rfl rfl (c3.2.2.2) (K.loadO (y := .optr cid 0) rfl dC (by simp) rfl Try.agg131) ?_
      refine KTZ.step rfl rfl (K.nilCheckO rfl) ?_
      refine KTZ.step rfl rfl (K.fieldAddrO rfl Try.fld118_2 Try.size62) ?_
      refine KTZ.load rfl rfl rfl (hT3.cw) (K.loadO (y := xw) rfl hT4.c (by simp) rfl Try.agg62) ?_
      refine KTZ.load rfl rfl rfl (m3.2.2.2) (K.loadOA (w6 (tk m)) rfl dM (by decide) Try.agg64 Try.size64 rfl) ?_
      refine KTZ.step rfl rfl (K.buildK rfl (by simp [w6]) Try.underlying62 Try.size64 Try.zero64 (by omega)) ?_
      refine KTZ.appStk rfl rfl (fun j h => h) rfl rfl (hT4.ow.keep fun j hj => List.getElem?_append_left (hT4.ow.lt hj)) (List.getElem?_concat_length ..) (fun e => by have := hT4.ow.lt e; omega) (by omega) fun σ5 xw2 ow2 k5 w5 l5 => ?_
      refine KTZ.step rfl rfl (K.nilCheckO rfl) ?_
      refine KTZ.step rfl rfl (K.fieldAddrO rfl Try.fld118_2 Try.size62) ?_
      refine KTZ.storeL rfl rfl rfl rfl ((k5 cid hT4.cw (by have := obj_lt hT4.c; rw [List.length_append]; omega)).trans (obj_left hT4.c)) (by rw [treeC_len]; decide) ow2.cells.1 ow2.cells.2 Try.size62 fun σ6 l6 u6 v6 => ?_
      refine KTZ.nil ?_
      refine ⟨by kernel_rfl, ?_⟩
      refine thenK_n ?_
      refine KC.seq ?_
      refine KC.seq ?_
      have hA2 := hT4.app_way (σ1 := σ4 ++ [_]) (m := m) (by simp) (fun j hj => List.getElem?_append_left hj) ow2 k5 w5 l5 l6 u6 v6
      obtain ⟨hT6, f6, hl6⟩ := hA2
      have c6 := f6 bc (by omega) c3.2
      have m6 := f6 bm (by omega) m3.2
      have r6 := f6 br (by omega) r3.2
      have eC := c6.1.trans dC
      have eM := m6.1.trans dM
      have eR := r6.1.trans dR
      have fr6 : ∀ e, e < σ.length → OffT cid xn xw e → σ6[e]? = σ[e]? ∧ OffT cid xn2 xw2 e := fun e he ho => by
        have a := f3 e (by omega) ho
        have b := f6 e (by omega) a.2
        exact ⟨b.1.trans ((h34 e (by omega)).trans (a.1.trans (k0 e he))), b.2⟩
      have hnl : nodes.length ≠ 2000 := by omega
      have hnw : way.any (eqQ m) = false := hc28
      have hkids := growP_kids (nx := nxN pre post) (T := pre.length) (f := f) hnl hnw
      refine KC.draw Try.mixed ?_
      refine KT.step rfl rfl (K.loadO (y := .optr cid 0) rfl eC (by simp) rfl Try.agg131) ?_
      refine KT.step rfl rfl (K.nilCheckO rfl) ?_
      refine KT.step rfl rfl (K.fieldAddrO rfl Try.fld118_0 Try.size66) ?_
      refine KT.step rfl rfl (K.loadOAgg (m := 9) rfl hT6.c (by simp) Try.agg66 Try.size66 (by simp only [List.length_drop, treeC_len]; decide)) ?_
      simp only
      rw [treeC_sys]
      refine KT.step rfl rfl (K.loadOA (w6 (tk m)) rfl eM (by decide) Try.agg64 Try.size64 rfl) ?_
      refine KT.step rfl rfl (K.call2 rfl rfl plainTry_94 (firings94 (n := n) (pre := pre) (post := post) (s := s) (X := tk m))) ?_
      refine KT.nil ?_
      refine ⟨by kernel_rfl, ?_⟩
      refine thenK_n ?_
      refine KC.block ?_
      refine KC.rangeG rfl rfl plainTry_102 (firingsIter hN hml hmB) (by intro x hx; obtain ⟨z, _, rfl⟩ := List.mem_map.1 hx; rfl) (by decide) (fun k => [(2, .optr bc 0), (4, .optr br 0), (45, .d (DI (((enL (nxN pre post) m pre.length).getD k (0, [])).1 : Nat))), (46, .d (.agg (w6 (tk ((enL (nxN pre post) m pre.length).getD k (0, [])).2))))]) (fun k τ => ∃ xn1 xw1 ns, (((enL (nxN pre post) m pre.length).take k).foldlM (fun (ns : List (List Int)) (p : Nat × List Int) => growP (nxN pre post) pre.length f (way ++ [m]) ns (raiseL (way ++ [m]) p.2)) (nodes ++ [m])) = some ns ∧ TreM n pre post s cid τ xn1 xw1 ns (way ++ [m]) ∧ nodes.length < ns.length ∧ ns.length ≤ 2000 ∧ σ.length + 3 ≤ τ.length ∧ τ[bc]? = some ⟨[.optr cid 0], 0⟩ ∧ τ[br]? = some ⟨[.d (DB false)], 0⟩ ∧ OffT cid xn1 xw1 bc ∧ OffT cid xn1 xw1 br ∧ ∀ e, e < σ.length → OffT cid xn xw e → τ[e]? = σ[e]? ∧ OffT cid xn1 xw1 e) (fun τ => τ[br]? = some ⟨[.d (DB false)], 0⟩ ∧ growP (nxN pre post) pre.length (f + 1) way nodes m = none ∧ σ.length ≤ τ.length ∧ ∀ e, e < σ.length → OffT cid xn xw e → τ[e]? = σ[e]?) (fun k τ o ⟨xn1, xw1, ns, a1, a2, a3, a4, a5, a6, a7, a8, a9, a10⟩ => ⟨xn1, xw1, ns, a1, a2.keep (fun j hj => List.getElem?_append_left hj), a3, a4, by simp; omega, obj_left a6, obj_left a7, a8, a9, fun e he ho => ⟨(List.getElem?_append_left (by omega)).trans (a10 e he ho).1, (a10 e he ho).2⟩⟩) (by
        intro k hk p hp
        have hk' : k < (enL (nxN pre post) m pre.length).length := by simpa using hk
        rw [List.getElem_map]
        have e1 : ((enL (nxN pre post) m pre.length).getD k (0, [])) = (enL (nxN pre post) m pre.length)[k] := by simp [hk']
        simp only [e1] at hp
        simp only [List.mem_cons, List.not_mem_nil, or_false] at hp
        rcases hp with rfl | rfl | rfl | rfl <;> exact ⟨Nat.le_of_ble_eq_true rfl, rfl⟩) (⟨xn2, xw2, nodes ++ [m], rfl, hT6.keep (fun j hj => List.getElem?_append_left hj), by simp, by rw [List.length_append, List.length_singleton]; omega, by rw [List.length_append]; omega, obj_left eC, obj_left eR, c6.2, r6.2, fun e he ho => ⟨(List.getElem?_append_left (by omega)).trans (fr6 e he ho).1, (fr6 e he ho).2⟩⟩) (fun k hk lo σk hlo hl hI => ?_) (fun τ hI => ?_) (fun τ hJ => ?_)
      · skip
        have hk' : k < (enL (nxN pre post) m pre.length).length := by simpa using hk
        have e1 : ((enL (nxN pre post) m pre.length).getD k (0, [])) = (enL (nxN pre post) m pre.length)[k] := by simp [hk']
        obtain ⟨xn1, xw1, ns, a1, a2, a3, a4, a5, a6, a7, a8, a9, a10⟩ := hI
        refine KC.region ?_
        refine KT.step rfl rfl (K.alloc Try.zero64) ?_
        refine KT.storeL (cs := (w6 (tk ((enL (nxN pre post) m pre.length).getD k (0, [])).2)).map .d) rfl rfl rfl rfl rfl (by simp [w6, Value.cells]) (w6_one _) (by simp [w6]; exact Try.size64) ?_
        refine KT.nil ?_
        refine ⟨rfl, ⟨_, rfl⟩, fun lo2 hlo2 => ?_⟩
        have hx : σ6.length < σk.length := obj_lt hl
        have hd9 : (σk.set σ6.length dead)[σ6.length]? = some dead := List.getElem?_set_self hx
        obtain ⟨hB0, oL⟩ := a2.setm hd9 (by decide) lo2
        rw [List.set_set] at hB0
        obtain ⟨σB, hσB⟩ : ∃ σB, σB = (σk ++ [(⟨(w6 (tk ((enL (nxN pre post) m pre.length).getD k (0, [])).2)).map .d, 0⟩ : VObj)]).set σ6.length lo2 := ⟨_, rfl⟩
        have hpre : ∀ j, j < σk.length → σB[j]? = (σk.set σ6.length lo2)[j]? := fun j hj => by rw [hσB, List.set_append_left _ _ hx]; exact List.getElem?_append_left (by simpa using hj)
        have hB := hB0.keep (σ' := σB) (fun j hj => hpre j (by simpa using hj))
        have zL : σB[σ6.length]? = some lo2 := by rw [hσB]; exact List.getElem?_set_self (by simp; omega)
        have zx : σB[σk.length]? = some (⟨(w6 (tk ((enL (nxN pre post) m pre.length).getD k (0, [])).2)).map .d, 0⟩ : VObj) := by rw [hσB, List.getElem?_set_ne (by omega)]; exact (List.getElem?_concat_length ..)
        have lB : σB.length = σk.length + 1 := by rw [hσB]; simp
        have hold : ∀ j, j < σ6.length → σB[j]? = (σk.set σ6.length dead)[j]? := fun j hj => by rw [hpre j (by omega), List.getElem?_set_ne (by omega), List.getElem?_set_ne (by omega)]
        have zC := (hold bc (by omega)).trans a6
        have zR := (hold br (by omega)).trans a7
        have hprops : ((enL (nxN pre post) m pre.length).getD k (0, [])).2.length = n ∧ BdT (way.length + 1) ((enL (nxN pre post) m pre.length).getD k (0, [])).2 := by
          have hm9 := enL_mem.1 (List.getElem_mem hk')
          rw [e1]
          exact ⟨by rw [nxN_len hm9.2]; exact hml, bdT_fire hN hp3 hq3 (by omega) hmb hm9.2 (by rw [getD_at hm9.1, hN.rp _ (List.getElem_mem hm9.1)]; exact hml.symm)⟩
        refine KC.sig (σ' := σB) (by rw [hσB]) ?_
        refine KC.block ?_
        refine KC.seq ?_
        obtain ⟨wid, lo9, rest9, rfl, how, hlo9⟩ := hB.ow.is (by simp)
        have hBc := hB.c
        have hlenw : ∀ x ∈ way ++ [m], x.length = n := fun x hx => by
          rcases List.mem_append.1 hx with h | h
          · exact (hw x h).1
          · rw [List.mem_singleton.1 h]; exact hml
        have hwl9 : (way ++ [m]).length ≤ 100000 := by rw [List.length_append, List.length_singleton]; omega
        have hrl9 : (raiseL (way ++ [m]) ((enL (nxN pre post) m pre.length).getD k (0, [])).2).length = n := (raiseL_len _ _).trans hprops.1
        have hrb9 : BdT (way ++ [m]).length (raiseL (way ++ [m]) ((enL (nxN pre post) m pre.length).getD k (0, [])).2) := by
          rw [List.length_append, List.length_singleton]
          exact bdT_raiseL (fun b hb => by rw [hprops.1]; exact hlenw b hb) hprops.2
        have hw9 : ∀ x ∈ way ++ [m], x.length = n ∧ Bnd x := fun x hx => by
          rcases List.mem_append.1 hx with h | h
          · exact hw x h
          · rw [List.mem_singleton.1 h]; exact ⟨hml, hmB⟩
        refine KC.ordersM Try.mixed (m := 6) rfl (T' := fun e τ kq => e = .normal ∧ ∃ b, (∃ σ9, σB.length ≤ σ9.length ∧ (∀ e, e < σB.length → σ9[e]? = σB[e]?) ∧ TreM n pre post s cid σ9 xn1 (.osl wid 0 (way ++ [m]).length 6 lo9 false) ns (way ++ [m]) ∧ GrowQ n pre post s cid f xn1 (.osl wid 0 (way ++ [m]).length 6 lo9 false) ns (way ++ [m]) (raiseL (way ++ [m]) ((enL (nxN pre post) m pre.length).getD k (0, [])).2) σ9 τ (.d (DB (!b)))) ∧ Go.Vm.look kq 2 = some (.optr bc 0) ∧ Go.Vm.look kq 4 = some (.optr br 0) ∧ Go.Vm.look kq 52 = some (.d (DB b))) ?_ ?_
        · skip
          refine KA.nextG (i0 := 0) (r := [1, 2]) (by kernel_rfl) ?_
          refine KAll.cons' ?_ (KAll.cons' ?_ (KAll.cons' ?_ KAll.nil'))
          · refine KG.op rfl rfl rfl (K.loadO (y := .optr cid 0) rfl zC (by simp) rfl Try.agg131) ?_
            refine KA.nextG (i0 := 1) (r := [2]) (by kernel_rfl) ?_
            refine KAll.cons' ?_ (KAll.cons' ?_ KAll.nil')
            · refine KG.op rfl rfl rfl (K.loadO (y := .optr cid 0) rfl zC (by simp) rfl Try.agg131) ?_
              refine KA.nextG (i0 := 2) (r := []) (by kernel_rfl) ?_
              refine KAll.cons' ?_ KAll.nil'
              · refine KG.op rfl rfl rfl (K.loadOA (w6 (tk ((enL (nxN pre post) m pre.length).getD k (0, [])).2)) rfl zx (by decide) Try.agg64 Try.size64 rfl) ?_
                refine KA.nextG (i0 := 3) (r := []) (by kernel_rfl) ?_
                refine KAll.cons' ?_ KAll.nil'
                · refine KG.call rfl rfl rfl rfl rfl rfl plainTry_99 (raised99_sl n6 hprops.1 hlenw hwl9 hBc how) fun σ9 x9 hr9 => ?_
                  obtain ⟨rfl, r9⟩ := hr9
                  have l9 : σB.length ≤ σ9.length := by
                    rcases Nat.lt_or_ge σ9.length σB.length with h | h
                    · have h2 := r9 σ9.length h
                      rw [List.getElem?_eq_none (Nat.le_refl _), List.getElem?_eq_getElem h] at h2; cases h2
                    · exact h
                  have h9T := hB.keep r9
                  refine KA.nextG (i0 := 4) (r := []) (by kernel_rfl) ?_
                  refine KAll.cons' ?_ KAll.nil'
                  · refine KG.call rfl rfl rfl rfl rfl rfl plainTry_81 (ih h9T a4 (by omega) (by rw [List.length_append, List.length_singleton]; omega) hrl9 hrb9 hw9) fun σA xA hA => ?_
                    obtain ⟨cb, rfl⟩ := hA.bool
                    refine KA.nextG (i0 := 5) (r := []) (by kernel_rfl) ?_
                    refine KAll.cons' ?_ KAll.nil'
                    · refine KG.op rfl rfl rfl (K.not rfl) ?_
                      refine KA.done (by kernel_rfl) ⟨rfl, !cb, ?_, rfl, rfl, rfl⟩
                      refine ⟨σ9, l9, r9, h9T, ?_⟩
                      rw [Bool.not_not]; exact hA
            · refine KG.op rfl rfl rfl (K.loadOA (w6 (tk ((enL (nxN pre post) m pre.length).getD k (0, [])).2)) rfl zx (by decide) Try.agg64 Try.size64 rfl) ?_
              refine KA.nextG (i0 := 1) (r := []) (by kernel_rfl) ?_
              refine KAll.cons' ?_ KAll.nil'
              · refine KG.op rfl rfl rfl (K.loadO (y := .optr cid 0) rfl zC (by simp) rfl Try.agg131) ?_
                refine KA.nextG (i0 := 3) (r := []) (by kernel_rfl) ?_
                refine KAll.cons' ?_ KAll.nil'
                · refine KG.call rfl rfl rfl rfl rfl rfl plainTry_99 (raised99_sl n6 hprops.1 hlenw hwl9 hBc how) fun σ9 x9 hr9 => ?_
                  obtain ⟨rfl, r9⟩ := hr9
                  have l9 : σB.length ≤ σ9.length := by
                    rcases Nat.lt_or_ge σ9.length σB.length with h | h
                    · have h2 := r9 σ9.length h
                      rw [List.getElem?_eq_none (Nat.le_refl _), List.getElem?_eq_getElem h] at h2; cases h2
                    · exact h
                  have h9T := hB.keep r9
                  refine KA.nextG (i0 := 4) (r := []) (by kernel_rfl) ?_
                  refine KAll.cons' ?_ KAll.nil'
                  · refine KG.call rfl rfl rfl rfl rfl rfl plainTry_81 (ih h9T a4 (by omega) (by rw [List.length_append, List.length_singleton]; omega) hrl9 hrb9 hw9) fun σA xA hA => ?_
                    obtain ⟨cb, rfl⟩ := hA.bool
                    refine KA.nextG (i0 := 5) (r := []) (by kernel_rfl) ?_
                    refine KAll.cons' ?_ KAll.nil'
                    · refine KG.op rfl rfl rfl (K.not rfl) ?_
                      refine KA.done (by kernel_rfl) ⟨rfl, !cb, ?_, rfl, rfl, rfl⟩
                      refine ⟨σ9, l9, r9, h9T, ?_⟩
                      rw [Bool.not_not]; exact hA
          · refine KG.op rfl rfl rfl (K.loadO (y := .optr cid 0) rfl zC (by simp) rfl Try.agg131) ?_
            refine KA.nextG (i0 := 0) (r := [2]) (by kernel_rfl) ?_
            refine KAll.cons' ?_ (KAll.cons' ?_ KAll.nil')
            · refine KG.op rfl rfl rfl (K.loadO (y := .optr cid 0) rfl zC (by simp) rfl Try.agg131) ?_
              refine KA.nextG (i0 := 2) (r := []) (by kernel_rfl) ?_
              refine KAll.cons' ?_ KAll.nil'
              · refine KG.op rfl rfl rfl (K.loadOA (w6 (tk ((enL (nxN pre post) m pre.length).getD k (0, [])).2)) rfl zx (by decide) Try.agg64 Try.size64 rfl) ?_
                refine KA.nextG (i0 := 3) (r := []) (by kernel_rfl) ?_
                refine KAll.cons' ?_ KAll.nil'
                · refine KG.call rfl rfl rfl rfl rfl rfl plainTry_99 (raised99_sl n6 hprops.1 hlenw hwl9 hBc how) fun σ9 x9 hr9 => ?_
                  obtain ⟨rfl, r9⟩ := hr9
                  have l9 : σB.length ≤ σ9.length := by
                    rcases Nat.lt_or_ge σ9.length σB.length with h | h
                    · have h2 := r9 σ9.length h
                      rw [List.getElem?_eq_none (Nat.le_refl _), List.getElem?_eq_getElem h] at h2; cases h2
                    · exact h
                  have h9T := hB.keep r9
                  refine KA.nextG (i0 := 4) (r := []) (by kernel_rfl) ?_
                  refine KAll.cons' ?_ KAll.nil'
                  · refine KG.call rfl rfl rfl rfl rfl rfl plainTry_81 (ih h9T a4 (by omega) (by rw [List.length_append, List.length_singleton]; omega) hrl9 hrb9 hw9) fun σA xA hA => ?_
                    obtain ⟨cb, rfl⟩ := hA.bool
                    refine KA.nextG (i0 := 5) (r := []) (by kernel_rfl) ?_
                    refine KAll.cons' ?_ KAll.nil'
                    · refine KG.op rfl rfl rfl (K.not rfl) ?_
                      refine KA.done (by kernel_rfl) ⟨rfl, !cb, ?_, rfl, rfl, rfl⟩
                      refine ⟨σ9, l9, r9, h9T, ?_⟩
                      rw [Bool.not_not]; exact hA
            · refine KG.op rfl rfl rfl (K.loadOA (w6 (tk ((enL (nxN pre post) m pre.length).getD k (0, [])).2)) rfl zx (by decide) Try.agg64 Try.size64 rfl) ?_
              refine KA.nextG (i0 := 0) (r := [3]) (by kernel_rfl) ?_
              refine KAll.cons' ?_ (KAll.cons' ?_ KAll.nil')
              · refine KG.op rfl rfl rfl (K.loadO (y := .optr cid 0) rfl zC (by simp) rfl Try.agg131) ?_
                refine KA.nextG (i0 := 3) (r := []) (by kernel_rfl) ?_
                refine KAll.cons' ?_ KAll.nil'
                · refine KG.call rfl rfl rfl rfl rfl rfl plainTry_99 (raised99_sl n6 hprops.1 hlenw hwl9 hBc how) fun σ9 x9 hr9 => ?_
                  obtain ⟨rfl, r9⟩ := hr9
                  have l9 : σB.length ≤ σ9.length := by
                    rcases Nat.lt_or_ge σ9.length σB.length with h | h
                    · have h2 := r9 σ9.length h
                      rw [List.getElem?_eq_none (Nat.le_refl _), List.getElem?_eq_getElem h] at h2; cases h2
                    · exact h
                  have h9T := hB.keep r9
                  refine KA.nextG (i0 := 4) (r := []) (by kernel_rfl) ?_
                  refine KAll.cons' ?_ KAll.nil'
                  · refine KG.call rfl rfl rfl rfl rfl rfl plainTry_81 (ih h9T a4 (by omega) (by rw [List.length_append, List.length_singleton]; omega) hrl9 hrb9 hw9) fun σA xA hA => ?_
                    obtain ⟨cb, rfl⟩ := hA.bool
                    refine KA.nextG (i0 := 5) (r := []) (by kernel_rfl) ?_
                    refine KAll.cons' ?_ KAll.nil'
                    · refine KG.op rfl rfl rfl (K.not rfl) ?_
                      refine KA.done (by kernel_rfl) ⟨rfl, !cb, ?_, rfl, rfl, rfl⟩
                      refine ⟨σ9, l9, r9, h9T, ?_⟩
                      rw [Bool.not_not]; exact hA
              · refine KG.call rfl rfl rfl rfl rfl rfl plainTry_99 (raised99_sl n6 hprops.1 hlenw hwl9 hBc how) fun σ9 x9 hr9 => ?_
                obtain ⟨rfl, r9⟩ := hr9
                have l9 : σB.length ≤ σ9.length := by
                  rcases Nat.lt_or_ge σ9.length σB.length with h | h
                  · have h2 := r9 σ9.length h
                    rw [List.getElem?_eq_none (Nat.le_refl _), List.getElem?_eq_getElem h] at h2; cases h2
                  · exact h
                have h9T := hB.keep r9
                refine KA.nextG (i0 := 0) (r := []) (by kernel_rfl) ?_
                refine KAll.cons' ?_ KAll.nil'
                · refine KG.op rfl rfl rfl (K.loadO (y := .optr cid 0) rfl ((r9 _ (obj_lt zC)).trans zC) (by simp) rfl Try.agg131) ?_
                  refine KA.nextG (i0 := 4) (r := []) (by kernel_rfl) ?_
                  refine KAll.cons' ?_ KAll.nil'
                  · refine KG.call rfl rfl rfl rfl rfl rfl plainTry_81 (ih h9T a4 (by omega) (by rw [List.length_append, List.length_singleton]; omega) hrl9 hrb9 hw9) fun σA xA hA => ?_
                    obtain ⟨cb, rfl⟩ := hA.bool
                    refine KA.nextG (i0 := 5) (r := []) (by kernel_rfl) ?_
                    refine KAll.cons' ?_ KAll.nil'
                    · refine KG.op rfl rfl rfl (K.not rfl) ?_
                      refine KA.done (by kernel_rfl) ⟨rfl, !cb, ?_, rfl, rfl, rfl⟩
                      refine ⟨σ9, l9, r9, h9T, ?_⟩
                      rw [Bool.not_not]; exact hA
          · refine KG.op rfl rfl rfl (K.loadOA (w6 (tk ((enL (nxN pre post) m pre.length).getD k (0, [])).2)) rfl zx (by decide) Try.agg64 Try.size64 rfl) ?_
            refine KA.nextG (i0 := 0) (r := [1]) (by kernel_rfl) ?_
            refine KAll.cons' ?_ (KAll.cons' ?_ KAll.nil')
            · refine KG.op rfl rfl rfl (K.loadO (y := .optr cid 0) rfl zC (by simp) rfl Try.agg131) ?_
              refine KA.nextG (i0 := 1) (r := []) (by kernel_rfl) ?_
              refine KAll.cons' ?_ KAll.nil'
              · refine KG.op rfl rfl rfl (K.loadO (y := .optr cid 0) rfl zC (by simp) rfl Try.agg131) ?_
                refine KA.nextG (i0 := 3) (r := []) (by kernel_rfl) ?_
                refine KAll.cons' ?_ KAll.nil'
                · refine KG.call rfl rfl rfl rfl rfl rfl plainTry_99 (raised99_sl n6 hprops.1 hlenw hwl9 hBc how) fun σ9 x9 hr9 => ?_
                  obtain ⟨rfl, r9⟩ := hr9
                  have l9 : σB.length ≤ σ9.length := by
                    rcases Nat.lt_or_ge σ9.length σB.length with h | h
                    · have h2 := r9 σ9.length h
                      rw [List.getElem?_eq_none (Nat.le_refl _), List.getElem?_eq_getElem h] at h2; cases h2
                    · exact h
                  have h9T := hB.keep r9
                  refine KA.nextG (i0 := 4) (r := []) (by kernel_rfl) ?_
                  refine KAll.cons' ?_ KAll.nil'
                  · refine KG.call rfl rfl rfl rfl rfl rfl plainTry_81 (ih h9T a4 (by omega) (by rw [List.length_append, List.length_singleton]; omega) hrl9 hrb9 hw9) fun σA xA hA => ?_
                    obtain ⟨cb, rfl⟩ := hA.bool
                    refine KA.nextG (i0 := 5) (r := []) (by kernel_rfl) ?_
                    refine KAll.cons' ?_ KAll.nil'
                    · refine KG.op rfl rfl rfl (K.not rfl) ?_
                      refine KA.done (by kernel_rfl) ⟨rfl, !cb, ?_, rfl, rfl, rfl⟩
                      refine ⟨σ9, l9, r9, h9T, ?_⟩
                      rw [Bool.not_not]; exact hA
            · refine KG.op rfl rfl rfl (K.loadO (y := .optr cid 0) rfl zC (by simp) rfl Try.agg131) ?_
              refine KA.nextG (i0 := 0) (r := [3]) (by kernel_rfl) ?_
              refine KAll.cons' ?_ (KAll.cons' ?_ KAll.nil')
              · refine KG.op rfl rfl rfl (K.loadO (y := .optr cid 0) rfl zC (by simp) rfl Try.agg131) ?_
                refine KA.nextG (i0 := 3) (r := []) (by kernel_rfl) ?_
                refine KAll.cons' ?_ KAll.nil'
                · refine KG.call rfl rfl rfl rfl rfl rfl plainTry_99 (raised99_sl n6 hprops.1 hlenw hwl9 hBc how) fun σ9 x9 hr9 => ?_
                  obtain ⟨rfl, r9⟩ := hr9
                  have l9 : σB.length ≤ σ9.length := by
                    rcases Nat.lt_or_ge σ9.length σB.length with h | h
                    · have h2 := r9 σ9.length h
                      rw [List.getElem?_eq_none (Nat.le_refl _), List.getElem?_eq_getElem h] at h2; cases h2
                    · exact h
                  have h9T := hB.keep r9
                  refine KA.nextG (i0 := 4) (r := []) (by kernel_rfl) ?_
                  refine KAll.cons' ?_ KAll.nil'
                  · refine KG.call rfl rfl rfl rfl rfl rfl plainTry_81 (ih h9T a4 (by omega) (by rw [List.length_append, List.length_singleton]; omega) hrl9 hrb9 hw9) fun σA xA hA => ?_
                    obtain ⟨cb, rfl⟩ := hA.bool
                    refine KA.nextG (i0 := 5) (r := []) (by kernel_rfl) ?_
                    refine KAll.cons' ?_ KAll.nil'
                    · refine KG.op rfl rfl rfl (K.not rfl) ?_
                      refine KA.done (by kernel_rfl) ⟨rfl, !cb, ?_, rfl, rfl, rfl⟩
                      refine ⟨σ9, l9, r9, h9T, ?_⟩
                      rw [Bool.not_not]; exact hA
              · refine KG.call rfl rfl rfl rfl rfl rfl plainTry_99 (raised99_sl n6 hprops.1 hlenw hwl9 hBc how) fun σ9 x9 hr9 => ?_
                obtain ⟨rfl, r9⟩ := hr9
                have l9 : σB.length ≤ σ9.length := by
                  rcases Nat.lt_or_ge σ9.length σB.length with h | h
                  · have h2 := r9 σ9.length h
                    rw [List.getElem?_eq_none (Nat.le_refl _), List.getElem?_eq_getElem h] at h2; cases h2
                  · exact h
                have h9T := hB.keep r9
                refine KA.nextG (i0 := 0) (r := []) (by kernel_rfl) ?_
                refine KAll.cons' ?_ KAll.nil'
                · refine KG.op rfl rfl rfl (K.loadO (y := .optr cid 0) rfl ((r9 _ (obj_lt zC)).trans zC) (by simp) rfl Try.agg131) ?_
                  refine KA.nextG (i0 := 4) (r := []) (by kernel_rfl) ?_
                  refine KAll.cons' ?_ KAll.nil'
                  · refine KG.call rfl rfl rfl rfl rfl rfl plainTry_81 (ih h9T a4 (by omega) (by rw [List.length_append, List.length_singleton]; omega) hrl9 hrb9 hw9) fun σA xA hA => ?_
                    obtain ⟨cb, rfl⟩ := hA.bool
                    refine KA.nextG (i0 := 5) (r := []) (by kernel_rfl) ?_
                    refine KAll.cons' ?_ KAll.nil'
                    · refine KG.op rfl rfl rfl (K.not rfl) ?_
                      refine KA.done (by kernel_rfl) ⟨rfl, !cb, ?_, rfl, rfl, rfl⟩
                      refine ⟨σ9, l9, r9, h9T, ?_⟩
                      rw [Bool.not_not]; exact hA
        intro e9 τ9 k9 hT9
        obtain ⟨rfl, b9, ⟨σ9, l9, r9, h9T, hA⟩, q1, q2, q3⟩ := hT9
        refine thenK_wk (kn' := [(2, .optr bc 0), (4, .optr br 0), (52, .d (DB b9))]) ?_ (by intro p hp; simp only [List.mem_cons, List.not_mem_nil, or_false] at hp; rcases hp with rfl | rfl | rfl <;> assumption)
        obtain ⟨lA, frA, hA2⟩ := hA
        refine thenK_n ?_
        refine KC.cond rfl (fun hc52 => ?_) (fun hc52 => ?_)
        · skip
          have a5' : σ.length + 3 ≤ σk.length := by simpa using a5
          have zR9 := (frA br (by omega) a9).trans ((r9 br (by omega)).trans zR)
          have z9L : τ9[σ6.length]? = some lo2 := (frA _ (by omega) oL).trans ((r9 _ (by omega)).trans zL)
          have hg : growP (nxN pre post) pre.length f (way ++ [m]) ns (raiseL (way ++ [m]) ((enL (nxN pre post) m pre.length).getD k (0, [])).2) = none := by
            cases h9 : growP (nxN pre post) pre.length f (way ++ [m]) ns (raiseL (way ++ [m]) ((enL (nxN pre post) m pre.length).getD k (0, [])).2) with
            | none => rfl
            | some r => rw [h9] at hA2; have h8 := hA2.1; rw [hc52] at h8; simp at h8
          refine KC.seq ?_
          refine KC.region ?_
          refine KT.storeG rfl rfl rfl rfl zR9 (by simp) rfl rfl Try.size4 fun σX lX uX vX => ?_
          refine KT.nil ?_
          refine thenK_n ?_
          refine KC.ret ?_
          refine blockK_r ?_
          refine ⟨(vX _ (by omega)).trans z9L, .inr ⟨rfl, ?_, ?_, ?_, ?_⟩⟩
          · rw [List.getElem?_set_ne (by omega)]; exact uX
          · rw [hkids]
            exact fold_none (k := k + 1) (by rw [fold_take hk', a1]; simp only [Option.bind_some]; rw [← e1]; exact hg)
          · rw [List.length_set]; omega
          · intro e he ho
            have h10 := a10 e he ho
            rw [List.getElem?_set_ne (by omega), vX e (by omega), frA e (by omega) h10.2, r9 e (by omega), hold e (by omega)]; exact h10.1
        · skip
          have a5' : σ.length + 3 ≤ σk.length := by simpa using a5
          have z9L : τ9[σ6.length]? = some lo2 := (frA _ (by omega) oL).trans ((r9 _ (by omega)).trans zL)
          obtain ⟨r, hg⟩ : ∃ r, growP (nxN pre post) pre.length f (way ++ [m]) ns (raiseL (way ++ [m]) ((enL (nxN pre post) m pre.length).getD k (0, [])).2) = some r := by
            cases h9 : growP (nxN pre post) pre.length f (way ++ [m]) ns (raiseL (way ++ [m]) ((enL (nxN pre post) m pre.length).getD k (0, [])).2) with
            | none => rw [h9] at hA2; rw [hc52] at hA2; simp at hA2
            | some r => exact ⟨r, rfl⟩
          rw [hg] at hA2
          obtain ⟨_, xn3, xw3, hT3', hl3', hl4', hof⟩ := hA2
          obtain ⟨hT5, oL5⟩ := hT3'.setm z9L (by rw [hlo2]; decide) dead
          refine KC.skip ?_
          refine blockK_n ?_
          refine ⟨z9L, .inl ⟨rfl, xn3, xw3, r, ?_, hT5, by omega, hl4', by rw [List.length_set]; omega, ?_, ?_, hof bc (by omega) a8, hof br (by omega) a9, fun e he ho => ?_⟩⟩
          · rw [fold_take hk', a1]; simp only [Option.bind_some]; rw [← e1]; exact hg
          · rw [List.getElem?_set_ne (by omega)]; exact (frA bc (by omega) a8).trans ((r9 bc (by omega)).trans zC)
          · rw [List.getElem?_set_ne (by omega)]; exact (frA br (by omega) a9).trans ((r9 br (by omega)).trans zR)
          · have h10 := a10 e he ho
            refine ⟨?_, hof e (by omega) h10.2⟩
            rw [List.getElem?_set_ne (by omega), frA e (by omega) h10.2, r9 e (by omega), hold e (by omega)]; exact h10.1
      · skip
        obtain ⟨xn1, xw1, ns, a1, a2, a3, a4, a5, a6, a7, a8, a9, a10⟩ := hI
        rw [List.length_map, List.take_of_length_le (Nat.le_refl _)] at a1
        obtain ⟨wid, lo9, rest9, rfl, how9, hlo9⟩ := a2.ow.is (by simp)
        have zC9 := a6
        refine blockK_n ?_
        refine thenK_n ?_
        refine KC.seq ?_
        refine KC.draw Try.mixed ?_
        refine KT.step rfl rfl (K.loadO (y := .optr cid 0) rfl zC9 (by simp) rfl Try.agg131) ?_
        refine KT.step rfl rfl (K.loadO (y := .optr cid 0) rfl zC9 (by simp) rfl Try.agg131) ?_
        refine KT.step rfl rfl (K.nilCheckO rfl) ?_
        refine KT.step rfl rfl (K.fieldAddrO rfl Try.fld118_2 Try.size62) ?_
        refine KT.step rfl rfl (K.loadO (y := .osl wid 0 (way ++ [m]).length 6 lo9 false) rfl a2.c (by simp) rfl Try.agg62) ?_
        refine KT.step rfl rfl (K.loadO (y := .optr cid 0) rfl zC9 (by simp) rfl Try.agg131) ?_
        refine KT.step rfl rfl (K.nilCheckO rfl) ?_
        refine KT.step rfl rfl (K.fieldAddrO rfl Try.fld118_2 Try.size62) ?_
        refine KT.step rfl rfl (K.loadO (y := .osl wid 0 (way ++ [m]).length 6 lo9 false) rfl a2.c (by simp) rfl Try.agg62) ?_
        refine KT.step rfl rfl (K.lenO rfl Try.underlying62) ?_
        refine KT.step rfl rfl (K.sub rfl rfl (show IntKind.i64.wrap ((((way ++ [m]).length : Nat) : Int) - 1) = ((way.length : Nat) : Int) from by rw [show (((way ++ [m]).length : Nat) : Int) - 1 = ((way.length : Nat) : Int) from by simp]; exact wrap_id (by omega))) ?_
        refine KT.step rfl rfl (K.popStk rfl rfl (by rw [List.length_append, List.length_singleton] at hlo9; omega)) ?_
        refine KT.step rfl rfl (K.nilCheckO rfl) ?_
        refine KT.step rfl rfl (K.fieldAddrO rfl Try.fld118_2 Try.size62) ?_
        refine KT.storeG rfl rfl rfl rfl a2.c (by rw [treeC_len]; decide) rfl rfl Try.size62 fun σP lP uP vP => ?_
        obtain ⟨hT9, f9⟩ := a2.pop how9 hlo9 lP uP vP
        have pR := (vP br a9.1).trans a7
        refine KT.nil ?_
        refine ⟨by kernel_rfl, ?_⟩
        refine thenK_n ?_
        refine KC.seq ?_
        refine KC.region ?_
        refine KT.storeG rfl rfl rfl rfl pR (by simp) rfl rfl Try.size4 fun σX lX uX vX => ?_
        refine KT.nil ?_
        refine thenK_n ?_
        refine KC.ret ?_
        have hgr : growP (nxN pre post) pre.length (f + 1) way nodes m = some ns := by rw [hkids]; exact a1
        refine ⟨.inl rfl, _, resK_one rfl rfl uX (by decide) Try.agg4 rfl, by omega, fun e he ho => ?_, ?_⟩
        · have h10 := a10 e he ho
          exact (vX e (by omega)).trans ((f9 e h10.2).1.trans h10.1)
        · rw [hgr]
          exact ⟨rfl, xn1, _, hT9.keepB vX (f9 br a9).2, by omega, a4, fun e he ho => (f9 e (a10 e he ho).2).2⟩
      · skip
        refine blockK_r ?_
        refine thenK_r ?_
        obtain ⟨j1, j2, j3, j4⟩ := hJ
        refine ⟨.inl rfl, _, resK_one rfl rfl j1 (by decide) Try.agg4 rfl, j3, j4, ?_⟩
        rw [j2]
end Go.Proofs.Ytocgjopmlhpjdaa

