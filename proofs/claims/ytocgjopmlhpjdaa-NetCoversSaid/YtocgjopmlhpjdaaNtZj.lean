import Derived.Test.YtocgjopmlhpjdaaNtZj0
/-
  Nets: the reference: tree, one step of the recursion.
-/
namespace Go.Proofs.Ytocgjopmlhpjdaa
open Go.Vm Go.RowKit Go.Nt Go.Ht
theorem plainTry_55 : plainFn Try.prog 55 = true := by kernel_rfl
/-- What stands in memory while the children are grown. -/
structure T55 (σ σk : List VObj) (cid nid : Nat) (B : VObj) (dm : DV) (cnt : Nat) (rest : List (List Int)) : Prop where
  b : σk[σ.length]? = some B
  c : σk[cid]? = some ⟨[.d (DI (cnt : Nat))], 0⟩
  n : σk[nid]? = some ⟨(dm :: rest.map numV).map .d, 0⟩
  nl : σ.length < nid
  fr : ∀ j, j < σ.length → j ≠ cid → σk[j]? = σ[j]?
theorem T55.keep {σ σk σ2 : List VObj} {cid nid : Nat} {B : VObj} {dm : DV} {cnt : Nat} {rest : List (List Int)} (h : T55 σ σk cid nid B dm cnt rest) (hc : cid < σ.length) (hk : ∀ j, j < σk.length → σ2[j]? = σk[j]?) : T55 σ σ2 cid nid B dm cnt rest :=
  ⟨(hk _ (obj_lt h.b)).trans h.b, (hk _ (obj_lt h.c)).trans h.c, (hk _ (obj_lt h.n)).trans h.n, h.nl, fun j hj hne => (hk j (by have := obj_lt h.b; omega)).trans (h.fr j hj hne)⟩
theorem T55.old {σ σ2 : List VObj} {cid k : Nat} (hc : cid < σ.length) (hl : σ.length ≤ σ2.length) (h1 : σ2[cid]? = some ⟨[.d (DI (k : Nat))], 0⟩) (h2 : ∀ j, j < σ.length → j ≠ cid → σ2[j]? = σ[j]?) : ∃ τ, σ2 = σ.set cid ⟨[.d (DI (k : Nat))], 0⟩ ++ τ := by
  refine app_tail (by rw [List.length_set]; exact hl) fun j hj => ?_
  rw [List.length_set] at hj
  by_cases e : j = cid
  · subst e; rw [h1, List.getElem?_set_self hc]
  · rw [List.getElem?_set_ne (fun h => e h.symm), h2 j hj e]
theorem deep_num {σ : List VObj} {id n k : Nat} {l : List Int} (h : σ[id]? = some ⟨(l.map DI).map .d, 0⟩) (hl : l.length = n) (h0 : 0 < n) : deepen (freezeIds σ [id]) (k + 2) (.osl id 0 n 1 n false) = some (numV l) := by
  subst hl
  rw [deepen_osl (freezeIds_in (by simp) h) rfl (by simp), List.drop_zero, List.take_of_length_le (by simp), mapM_deep, numV_sl h0]; rfl
theorem freeze_app {σ1 τ : List VObj} {id : Nat} (h : σ1.length ≤ id) : freezeIds (σ1 ++ τ) [id] = σ1 ++ freezeIds τ [id - σ1.length] := by
  refine List.ext_getElem? fun j => ?_
  by_cases hj : j < σ1.length
  · rw [freezeIds_not (by simp; omega), List.getElem?_append_left hj, List.getElem?_append_left hj]
  · rw [List.getElem?_append_right (by omega)]
    unfold freezeIds
    rw [List.getElem?_mapIdx, List.getElem?_mapIdx, List.getElem?_append_right (by omega)]
    cases τ[j - σ1.length]? with
    | none => rfl
    | some o =>
      have e : ([id].contains j) = ([id - σ1.length].contains (j - σ1.length)) := by
        by_cases h2 : j = id
        · subst h2; simp
        · simp; omega
      simp only [Option.map_some, e]
theorem T55.done {σ σk : List VObj} {cid nid c : Nat} {B : VObj} {dm : DV} {r rest : List (List Int)} (h : T55 σ σk cid nid B dm r.length rest) (hc : cid < σ.length) (hr : r.drop (c + 1) = rest) :
    ∃ τ, freezeIds σk [nid] = σ.set cid ⟨[.d (DI (k55 (some r)))], 0⟩ ++ τ ∧ deepen (freezeIds σk [nid]) 5 (.osl nid 0 (rest.length + 1) 1 (rest.length + 1) rest.isEmpty) = some (r55 dm c (some r)) := by
  obtain ⟨τ, hτ⟩ := T55.old hc (by have := obj_lt h.b; omega) h.c h.fr
  refine ⟨freezeIds τ [nid - (σ.set cid ⟨[.d (DI (r.length : Nat))], 0⟩).length], ?_, ?_⟩
  · rw [hτ, freeze_app (by rw [List.length_set]; have := h.nl; omega)]; rfl
  · rw [deepen_osl (freezeIds_in (by simp) h.n) rfl (by simp), List.drop_zero, List.take_of_length_le (by simp), mapM_deep]
    unfold r55 l55
    simp only [hr]
    cases rest <;> simp
set_option maxHeartbeats 8000000 in
set_option maxRecDepth 10000 in
theorem rtree55_step {f n : Nat} {a b c : DV} {pre post : List (List Int)} (hN : NetOk pre post n) (hp3 : ∀ r ∈ pre, ∀ x ∈ r, 0 ≤ x ∧ x ≤ 3) (hq3 : ∀ r ∈ post, ∀ x ∈ r, 0 ≤ x ∧ x ≤ 3) (ha : Mat a pre) (hb : Mat b post) (ih : ∀ {σ : List VObj} {cid L : Nat} {cs C : List DV} {dm : DV} {cap : Option Nat} {way W nodes : List (List Int)} {m : List Int}, σ[cid]? = some ⟨[.d (DI (nodes.length : Nat))], 0⟩ → nodes.length ≤ 2000 → 2001 ≤ f + nodes.length → way.length ≤ nodes.length → m.length = n → BdT way.length m → (∀ x ∈ way, x.length = n ∧ Bnd x) → C.length = L → W.length = L → (∀ (i : Nat) (c : DV) (x : List Int), C[i]? = some c → W[i]? = some x → Ints c x) → W = way ++ [m] → C = cs ++ [dm] →
    OwnCall Try.prog 55 σ [.d (.agg [a, b, c]), .d (.sl C L cap), .optr cid 0] (σ.set cid ⟨[.d (DI (k55 (growP (nxN pre post) pre.length f way nodes m)))], 0⟩) (.d (r55 dm nodes.length (growP (nxN pre post) pre.length f way nodes m))))
    {σ : List VObj} {cid L : Nat} {cs C : List DV} {dm : DV} {cap : Option Nat} {way W nodes : List (List Int)} {m : List Int} : σ[cid]? = some ⟨[.d (DI (nodes.length : Nat))], 0⟩ → nodes.length ≤ 2000 → 2001 ≤ (f + 1) + nodes.length → way.length ≤ nodes.length → m.length = n → BdT way.length m → (∀ x ∈ way, x.length = n ∧ Bnd x) → C.length = L → W.length = L → (∀ (i : Nat) (c : DV) (x : List Int), C[i]? = some c → W[i]? = some x → Ints c x) → W = way ++ [m] → C = cs ++ [dm] →
    OwnCall Try.prog 55 σ [.d (.agg [a, b, c]), .d (.sl C L cap), .optr cid 0] (σ.set cid ⟨[.d (DI (k55 (growP (nxN pre post) pre.length (f + 1) way nodes m)))], 0⟩) (.d (r55 dm nodes.length (growP (nxN pre post) pre.length (f + 1) way nodes m))) := by
  intro hc hl20 hfu hwl hml hmb hw hCL hWL hI hW hC
  have n0 := hN.n0
  have n6 := hN.n6
  have p6 := hN.p6
  have hpp := hN.pp
  have hcl := obj_lt hc
  have hLw : L = way.length + 1 := by rw [← hWL, hW]; simp
  have hcs : cs.length = way.length := by have h9 := hCL; rw [hC] at h9; simp at h9; omega
  have hdm : Ints dm m := hI way.length dm m (by rw [hC, List.getElem?_append_right (by omega)]; simp [hcs]) (by rw [hW, List.getElem?_append_right (by omega)]; simp)
  have hmB : Bnd m := bdT_bnd hmb (by omega)
  have hIc : ∀ i (h1 : i < cs.length) (h2 : i < way.length), Ints cs[i] way[i] := fun i h1 h2 => hI i _ _ (by rw [hC, List.getElem?_append_left h1, List.getElem?_eq_getElem h1]) (by rw [hW, List.getElem?_append_left h2, List.getElem?_eq_getElem h2])
  have hWn : ∀ x ∈ W, x.length = n := fun x hx => by
    rw [hW] at hx
    rcases List.mem_append.1 hx with h | h
    · exact (hw x h).1
    · rw [List.mem_singleton.1 h]; exact hml
  obtain ⟨o, ho⟩ : ∃ o, growP (nxN pre post) pre.length (f + 1) way nodes m = o := ⟨_, rfl⟩
  rw [ho]
  refine ownDrop_K 5 Try.func55 rfl (Nat.le_of_ble_eq_true rfl) (Same1.put (ds := [DI (k55 o)]) (by decide)) fun M W0 => ?_
  refine KC.seq ?_
  refine KC.region ?_
  refine KT.step rfl rfl (K.box rfl) ?_
  refine KT.step rfl rfl (K.assign rfl) ?_
  refine KT.nil ?_
  refine thenK_n ?_
  refine KC.seq ?_
  refine KC.region ?_
  refine KT.step rfl rfl (K.move rfl) ?_
  refine KT.step rfl rfl (K.move rfl) ?_
  refine KT.step rfl rfl (K.lenD rfl Try.underlying22) ?_
  refine KT.step rfl rfl (K.sub rfl rfl (show IntKind.i64.wrap ((L : Int) - 1) = ((way.length : Nat) : Int) from by rw [hLw]; exact (wrap_id (by omega)).trans (by omega))) ?_
  refine KT.step rfl rfl (K.idxDK (k := 1) (m := way.length) rfl rfl (by omega) Try.underlying22 Try.size23) ?_
  rw [show C.drop (way.length * 1) = [dm] from by rw [hC, Nat.mul_one, List.drop_left' hcs]]
  refine KT.step rfl rfl (K.load rfl Try.agg23) ?_
  refine KT.step rfl rfl (K.assign rfl) ?_
  refine KT.nil ?_
  refine thenK_n ?_
  refine KC.seq ?_
  refine KC.region ?_
  refine KT.step rfl rfl (K.move rfl) ?_
  refine KT.step rfl rfl (K.buildC (k := 1) (cs := [.d dm]) rfl (sld_ints hdm).cells rfl Try.underlying22 Try.size23 Try.one23.zero (by decide)) ?_
  refine KT.step rfl rfl (K.assign rfl) ?_
  refine KT.nil ?_
  refine thenK_n ?_
  refine KC.seq ?_
  refine KC.seq ?_
  refine KC.region ?_
  refine KT.step rfl rfl (K.move rfl) ?_
  refine KT.step rfl rfl (K.nilCheckO rfl) ?_
  refine KT.step rfl rfl (K.loadO (y := .d (DI (nodes.length : Nat))) rfl (obj_left (obj_left hc)) (by simp) rfl Try.agg3) ?_
  refine KT.step rfl rfl (K.add rfl rfl (show IntKind.i64.wrap ((nodes.length : Int) + 1) = ((nodes.length + 1 : Nat) : Int) from (wrap_id (by omega)).trans (by omega))) ?_
  refine KT.step rfl rfl (K.nilCheckO rfl) ?_
  refine KT.storeG rfl rfl rfl rfl (obj_left (obj_left hc)) (by simp) rfl rfl Try.size3 fun σ1 l1 u1 v1 => ?_
  have hT : T55 σ σ1 cid (σ.length + 1) (fB a b c) dm (nodes.length + 1) [] := ⟨(v1 _ (by omega)).trans (obj_left (List.getElem?_concat_length ..)), u1, (v1 _ (by omega)).trans ((List.getElem?_append_right (by simp)).trans (by simp)), by omega, fun j hj hne => (v1 j hne).trans ((List.getElem?_append_left (by simp; omega)).trans (List.getElem?_append_left hj))⟩
  refine KT.nil ?_
  refine thenK_n ?_
  refine KC.seq ?_
  refine KC.region ?_
  refine KT.step rfl rfl (K.move rfl) ?_
  refine KT.step rfl rfl (K.nilCheckO rfl) ?_
  refine KT.step rfl rfl (K.loadO (y := .d (DI ((nodes.length + 1 : Nat) : Int))) rfl u1 (by simp) rfl Try.agg3) ?_
  refine KT.step rfl rfl (K.gtr rfl rfl) ?_
  refine KT.nil ?_
  refine thenK_n ?_
  refine KC.cond rfl (fun hc33 => ?_) (fun hc33 => ?_)
  · skip
    replace hc33 := of_decide_eq_true hc33
    refine KC.seq ?_
    refine KC.region ?_
    refine KT.step rfl rfl (K.assign rfl) ?_
    refine KT.nil ?_
    refine thenK_n ?_
    refine KC.ret ?_
    refine thenK_r ?_
    have hg : o = none := by rw [← ho]; exact growP_big (by omega)
    subst hg
    obtain ⟨τ, hτ⟩ := T55.old hcl (by rw [l1]; simp) hT.c hT.fr
    have e9 : nodes.length + 1 = 2001 := by omega
    rw [e9] at hτ
    exact ⟨.inl rfl, _, rfl, [], τ, by rw [freezeIds_nil]; exact hτ, rfl⟩
  · skip
    replace hc33 := of_decide_eq_false hc33
    refine KC.skip ?_
    refine thenK_n ?_
    refine KC.seq ?_
    refine KC.seq ?_
    refine KC.region ?_
    refine KT.step rfl rfl (K.move rfl) ?_
    refine KT.step rfl rfl (K.move rfl) ?_
    refine KT.step rfl rfl (K.lenD rfl Try.underlying22) ?_
    refine KT.step rfl rfl (K.sub rfl rfl (show IntKind.i64.wrap ((L : Int) - 1) = ((way.length : Nat) : Int) from by rw [hLw]; exact (wrap_id (by omega)).trans (by omega))) ?_
    refine KT.step rfl rfl (K.cutD (m := way.length) rfl rfl hCL (by omega) Try.underlying22 Try.size23) ?_
    rw [show C.take way.length = cs from by rw [hC, List.take_left' hcs]]
    refine KT.step rfl rfl (K.lenD rfl Try.underlying22) ?_
    refine KT.step rfl rfl (K.move rfl) ?_
    refine KT.nil ?_
    refine thenK_n ?_
    refine KC.block ?_
    refine KC.loop (fun _ : Nat => σ1) (fun i => [(1, .d (.sl C L cap)), (2, .optr cid 0), (3, .optr σ.length 0), (7, .d dm), (8, .osl (σ.length + 1) 0 1 1 1 true), (38, .d (.sl cs way.length cap)), (39, .d (DI (way.length : Nat))), (40, .d (DI (i : Nat)))]) (fun i => i ≤ way.length ∧ ∀ j (h : j < way.length), j < i → way[j] ≠ m) (fun i => way.length - i) 0 ⟨Nat.zero_le _, fun j _ h => absurd h (Nat.not_lt_zero _)⟩ rfl (by simp [Go.Vm.look, extK, enterK]) ?_
    intro i hi
    obtain ⟨hi, hall⟩ := hi
    refine KC.seq ?_
    refine KC.region ?_
    refine KT.step rfl rfl (K.lss rfl rfl) ?_
    refine KT.nil ?_
    refine thenK_n ?_
    refine KC.seq ?_
    refine KC.cond rfl (fun hc41 => ?_) (fun hc41 => ?_)
    · skip
      replace hc41 := of_decide_eq_true hc41
      have hil : i < way.length := by omega
      refine KC.skip ?_
      refine thenK_n ?_
      refine KC.seq ?_
      refine KC.block ?_
      refine KC.seq ?_
      refine KC.region ?_
      refine KT.step rfl rfl (K.idxDK (k := 1) (m := i) rfl rfl hil Try.underlying22 Try.size23) ?_
      rw [drop_one (show i < cs.length by omega)]
      refine KT.step rfl rfl (K.load rfl Try.agg23) ?_
      refine KT.step rfl rfl (K.assign rfl) ?_
      refine KT.nil ?_
      refine thenK_n ?_
      refine KC.seq ?_
      refine KC.region ?_
      refine KT.step rfl rfl (K.move rfl) ?_
      refine KT.step rfl rfl (K.move rfl) ?_
      refine KT.step rfl rfl (K.call2 rfl rfl plainTry_56 (requal56 (hIc i (by omega) hil) hdm (by rw [(hw _ (List.getElem_mem hil)).1, hml]) (by rw [(hw _ (List.getElem_mem hil)).1]; omega))) ?_
      refine KT.nil ?_
      refine thenK_n ?_
      refine KC.cond rfl (fun hc46 => ?_) (fun hc46 => ?_)
      · skip
        refine KC.seq ?_
        refine KC.region ?_
        refine KT.step rfl rfl (K.move rfl) ?_
        refine KT.step rfl rfl (K.assign rfl) ?_
        refine KT.nil ?_
        refine thenK_n ?_
        refine KC.ret ?_
        refine blockK_r ?_
        refine thenK_r ?_
        refine thenK_r ?_
        refine blockK_r ?_
        refine thenK_r ?_
        have hg : o = some (nodes ++ [m]) := by rw [← ho]; exact growP_met (by omega) (List.any_eq_true.2 ⟨way[i], List.getElem_mem hil, by unfold eqQ; rw [of_decide_eq_true hc46]; simp⟩)
        subst hg
        have hT2 : T55 σ σ1 cid (σ.length + 1) (fB a b c) dm (nodes ++ [m]).length [] := by rw [List.length_append]; exact hT
        obtain ⟨τ, h8, h9⟩ := hT2.done (c := nodes.length) hcl (by simp)
        exact ⟨.inl rfl, _, rfl, _, τ, h8, h9⟩
      · skip
        refine KC.skip ?_
        refine blockK_n ?_
        refine thenK_n ?_
        refine KC.region ?_
        refine KT.step rfl rfl (K.add rfl rfl (wrap_id (by omega))) ?_
        refine KT.step rfl rfl (K.move rfl) ?_
        refine KT.nil ?_
        refine thenK_n ?_
        refine ⟨i + 1, ⟨by omega, fun j h hj => ?_⟩, by omega, rfl, by simp [Go.Vm.look, extK]⟩
        by_cases e : j = i
        · subst e; exact of_decide_eq_false hc46
        · exact hall j h (by omega)
    · skip
      replace hc41 := of_decide_eq_false hc41
      refine KC.exit ?_
      refine thenK_x ?_
      refine thenK_x ?_
      refine blockK_e ?_
      refine thenK_n ?_
      refine KC.seq ?_
      refine KC.seq ?_
      refine KC.region ?_
      refine KT.step rfl rfl (K.fieldAddrO rfl Try.fld25_0 Try.size22) ?_
      refine KT.step rfl rfl (K.loadO (y := .d a) rfl hT.b (by unfold fB; simp) rfl Try.agg22) ?_
      refine KT.step rfl rfl (K.len rfl ha Try.underlying22) ?_
      refine KT.step rfl rfl (K.move rfl) ?_
      refine KT.nil ?_
      refine thenK_n ?_
      refine KC.block ?_
      have hnl : nodes.length ≠ 2000 := by omega
      have hnw : way.any (eqQ m) = false := by
        rw [List.any_eq_false]
        intro y hy
        obtain ⟨j, hj, rfl⟩ := List.getElem_of_mem hy
        unfold eqQ
        simp only [decide_eq_true_eq]
        exact fun e => hall j hj (by omega) e.symm
      refine KC.loop (fun p : List VObj × Nat × List (List Int) × Nat => p.1) (fun p => [(1, .d (.sl C L cap)), (2, .optr cid 0), (3, .optr σ.length 0), (7, .d dm), (8, .osl p.2.1 0 ((p.2.2.1.drop (nodes.length + 1)).length + 1) 1 ((p.2.2.1.drop (nodes.length + 1)).length + 1) (p.2.2.1.drop (nodes.length + 1)).isEmpty), (51, .d (DI (pre.length : Nat))), (52, .d (DI (p.2.2.2 : Nat)))]) (fun p => (enL (nxN pre post) m p.2.2.2).foldlM (fun ns (p : Nat × List Int) => growP (nxN pre post) pre.length f (way ++ [m]) ns (raiseL (way ++ [m]) p.2)) (nodes ++ [m]) = some p.2.2.1 ∧ T55 σ p.1 cid p.2.1 (fB a b c) dm p.2.2.1.length (p.2.2.1.drop (nodes.length + 1)) ∧ p.2.2.1.length ≤ 2000 ∧ nodes.length + 1 ≤ p.2.2.1.length ∧ p.2.2.2 ≤ pre.length) (fun p => pre.length - p.2.2.2) (σ1, σ.length + 1, nodes ++ [m], 0) ⟨rfl, by simpa using hT, by simp; omega, by simp, Nat.zero_le _⟩ rfl (by simp [Go.Vm.look, extK, enterK]) ?_
      intro p hp0
      obtain ⟨σk, nid, ns, t⟩ := p
      obtain ⟨hfo, hK, hn20, hn1, htT⟩ := hp0
      simp only at hfo hK hn20 hn1 htT ⊢
      refine KC.seq ?_
      refine KC.region ?_
      refine KT.step rfl rfl (K.lss rfl rfl) ?_
      refine KT.nil ?_
      refine thenK_n ?_
      refine KC.seq ?_
      refine KC.cond rfl (fun hc53 => ?_) (fun hc53 => ?_)
      · skip
        replace hc53 := of_decide_eq_true hc53
        have htl : t < pre.length := by omega
        refine KC.skip ?_
        refine thenK_n ?_
        refine KC.seq ?_
        refine KC.block ?_
        refine KC.seq ?_
        refine KC.region ?_
        refine KT.step rfl rfl (K.move rfl) ?_
        refine KT.step rfl rfl (K.assign rfl) ?_
        refine KT.nil ?_
        refine thenK_n ?_
        refine KC.seq ?_
        refine KC.region ?_
        refine KT.step rfl rfl (K.loadOA [a, b, c] rfl hK.b (by decide) Try.agg25 Try.size25 rfl) ?_
        refine KT.step rfl rfl (K.move rfl) ?_
        refine KT.step rfl rfl (K.move rfl) ?_
        obtain ⟨m9, hen⟩ | hen : (∃ m9, nxN pre post m t = some m9) ∨ nxN pre post m t = none := by
          cases h : nxN pre post m t with
          | none => exact .inr rfl
          | some x => exact .inl ⟨x, rfl⟩
        · skip
          have htl2 : t < post.length := by omega
          have hr1 := hN.rp _ (List.getElem_mem htl)
          have hr2 := hN.rq _ (List.getElem_mem htl2)
          obtain ⟨hwi, hhf⟩ := nx_yes hen htl htl2
          have hm9 := nxN_len hen
          refine KT.step rfl rfl (K.callO rfl plainTry_77 (rfire77_yes ha hb hdm (by omega) (by omega) htl htl2 (by omega) (by omega) (hp3 _ (List.getElem_mem htl)) (hq3 _ (List.getElem_mem htl2)) hmB.tk hwi)) ?_
          rw [hhf]
          refine KT.step rfl rfl (K.move rfl) ?_
          refine KT.step rfl rfl (K.extractY rfl rfl) ?_
          refine KT.step rfl rfl (K.extractY rfl rfl) ?_
          refine KT.step rfl rfl (K.assign rfl) ?_
          refine KT.step rfl rfl (K.assign rfl) ?_
          refine KT.nil ?_
          refine thenK_n ?_
          refine KC.seq ?_
          refine KC.seq ?_
          refine KC.region ?_
          refine KT.step rfl rfl (K.move rfl) ?_
          refine KT.step rfl rfl (K.not rfl) ?_
          refine KT.nil ?_
          refine thenK_n ?_
          refine KC.cond rfl (fun hc63 => ?_) (fun hc63 => ?_)
          · cases hc63
          · skip
            refine KC.skip ?_
            refine thenK_n ?_
            refine KC.seq ?_
            refine KC.seq ?_
            refine KC.region ?_
            rcases hg : growP (nxN pre post) pre.length f W ns (raiseL W m9) with _ | r
            · skip
              refine KT.step rfl rfl (K.move rfl) ?_
              refine KT.step rfl rfl (K.lenD rfl Try.underlying22) ?_
              refine KT.step rfl rfl (K.move rfl) ?_
              refine KT.nil ?_
              refine thenK_n ?_
              refine KC.block ?_
              refine KC.loop (fun q : List VObj × Nat => q.1) (fun q => [(1, .d (.sl C L cap)), (2, .optr cid 0), (3, .optr σ.length 0), (7, .d dm), (8, .osl nid 0 ((ns.drop (nodes.length + 1)).length + 1) 1 ((ns.drop (nodes.length + 1)).length + 1) (ns.drop (nodes.length + 1)).isEmpty), (51, .d (DI (pre.length : Nat))), (52, .d (DI (t : Nat))), (12, .osl (σk.length + 2) 0 m.length 1 m.length false), (64, .d (.sl C L cap)), (65, .d (DI (L : Nat))), (66, .d (DI (q.2 : Nat)))]) (fun q => q.1.length = σk.length + 3 ∧ q.1[σk.length + 2]? = some ⟨((raiseL (W.take q.2) m9).map DI).map .d, 0⟩ ∧ (∀ j, j < σk.length → q.1[j]? = σk[j]?) ∧ q.2 ≤ L) (fun q => L - q.2) (_, 0) ⟨by simp, by simp [raiseL], fun j hj => List.getElem?_append_left hj, Nat.zero_le _⟩ rfl (by simp [Go.Vm.look, extK, enterK]) ?_
              intro q hq0
              obtain ⟨σx, i⟩ := q
              obtain ⟨hxl, hx, hxk, hiL⟩ := hq0
              simp only at hxl hx hxk hiL ⊢
              refine KC.seq ?_
              refine KC.region ?_
              refine KT.step rfl rfl (K.lss rfl rfl) ?_
              refine KT.nil ?_
              refine thenK_n ?_
              refine KC.seq ?_
              refine KC.cond rfl (fun hc67 => ?_) (fun hc67 => ?_)
              · skip
                replace hc67 := of_decide_eq_true hc67
                have hil : i < L := by omega
                have hIi : Ints C[i] W[i] := hI i _ _ (List.getElem?_eq_getElem _) (List.getElem?_eq_getElem _)
                have hWi : W[i].length = n := hWn _ (List.getElem_mem _)
                have hrl : (raiseL (W.take i) m9).length = m.length := by rw [raiseL_len, hm9]
                refine KC.skip ?_
                refine thenK_n ?_
                refine KC.seq ?_
                refine KC.block ?_
                refine KC.seq ?_
                refine KC.region ?_
                refine KT.step rfl rfl (K.idxDK (k := 1) (m := i) rfl rfl hil Try.underlying22 Try.size23) ?_
                rw [drop_one (show i < C.length by omega)]
                refine KT.step rfl rfl (K.load rfl Try.agg23) ?_
                refine KT.step rfl rfl (K.assign rfl) ?_
                refine KT.nil ?_
                refine thenK_n ?_
                refine KC.seq ?_
                refine KC.region ?_
                refine KT.step rfl rfl (K.move rfl) ?_
                refine KT.step rfl rfl (K.move rfl) ?_
                refine KT.step rfl rfl (K.callO (xs := [.d C[i], .osl (σk.length + 2) 0 m.length 1 m.length false]) rfl plainTry_46 (ownCall_of_deep [σk.length + 2] 4 (dargs := [C[i], numV (raiseL (W.take i) m9)]) (by simp only [List.mapM_cons, List.mapM_nil, deep_num hx hrl (by omega)]; rfl) (within46 hIi (numV_ints _ (by omega)) (by omega) (by omega)))) ?_
                refine KT.step rfl rfl (K.move rfl) ?_
                refine KT.bcase (fun hb73 => ?_) (fun hb73 => ?_)
                · skip
                  refine KT.step rfl rfl (K.move rfl) ?_
                  refine KT.step rfl rfl (K.move rfl) ?_
                  refine KT.step rfl rfl (K.callO (xs := [.d C[i], .osl (σk.length + 2) 0 m.length 1 m.length false]) rfl plainTry_56 (ownCall_of_deep [σk.length + 2] 4 (dargs := [C[i], numV (raiseL (W.take i) m9)]) (by simp only [List.mapM_cons, List.mapM_nil, deep_num hx hrl (by omega)]; rfl) (requal56 hIi (numV_ints _ (by omega)) (by omega) (by omega)))) ?_
                  refine KT.step rfl rfl (K.not rfl) ?_
                  refine KT.step rfl rfl (K.pick rfl (fun _ => rfl) (fun h => by cases h)) ?_
                  refine KT.nil ?_
                  refine thenK_n ?_
                  refine KC.cond rfl (fun hc78 => ?_) (fun hc78 => ?_)
                  · skip
                    refine KC.seq ?_
                    refine KC.region ?_
                    refine KT.step rfl rfl (K.move rfl) ?_
                    refine KT.step rfl rfl (K.lenO rfl Try.underlying23) ?_
                    refine KT.step rfl rfl (K.move rfl) ?_
                    refine KT.nil ?_
                    refine thenK_n ?_
                    refine KC.block ?_
                    refine KC.loop (fun r : List VObj × Nat => r.1) (fun r => [(1, .d (.sl C L cap)), (2, .optr cid 0), (3, .optr σ.length 0), (7, .d dm), (8, .osl nid 0 ((ns.drop (nodes.length + 1)).length + 1) 1 ((ns.drop (nodes.length + 1)).length + 1) (ns.drop (nodes.length + 1)).isEmpty), (51, .d (DI (pre.length : Nat))), (52, .d (DI (t : Nat))), (12, .osl (σk.length + 2) 0 m.length 1 m.length false), (15, .d C[i]), (64, .d (.sl C L cap)), (65, .d (DI (L : Nat))), (66, .d (DI (i : Nat))), (79, .osl (σk.length + 2) 0 m.length 1 m.length false), (80, .d (DI (m.length : Nat))), (81, .d (DI (r.2 : Nat)))]) (fun r => r.1.length = σk.length + 3 ∧ r.1[σk.length + 2]? = some ⟨halfN m.length (raiseW (tk W[i]) (tk (raiseL (W.take i) m9))) (tk (raiseL (W.take i) m9)) r.2, 0⟩ ∧ (∀ j, j < σk.length → r.1[j]? = σk[j]?) ∧ r.2 ≤ m.length) (fun r => m.length - r.2) (σx, 0) ⟨hxl, by rw [hx, ← hrl, ← halfN_start], hxk, Nat.zero_le _⟩ rfl (by simp [Go.Vm.look, extK, enterK]) ?_
                    intro r hr0
                    obtain ⟨σy, q⟩ := r
                    obtain ⟨hyl, hy, hyk, hqm⟩ := hr0
                    simp only at hyl hy hyk hqm ⊢
                    refine KC.seq ?_
                    refine KC.region ?_
                    refine KT.step rfl rfl (K.lss rfl rfl) ?_
                    refine KT.nil ?_
                    refine thenK_n ?_
                    refine KC.seq ?_
                    refine KC.cond rfl (fun hc82 => ?_) (fun hc82 => ?_)
                    · skip
                      replace hc82 := of_decide_eq_true hc82
                      have hqm2 : q < m.length := by omega
                      refine KC.skip ?_
                      refine thenK_n ?_
                      refine KC.seq ?_
                      refine KC.block ?_
                      refine KC.seq ?_
                      refine KC.region ?_
                      refine KT.step rfl rfl (K.move rfl) ?_
                      refine KT.step rfl rfl (K.assign rfl) ?_
                      refine KT.nil ?_
                      refine thenK_n ?_
                      refine KC.seq ?_
                      refine KC.draw Try.mixed ?_
                      refine KT.step rfl rfl (K.move rfl) ?_
                      refine KT.step rfl rfl (K.move rfl) ?_
                      refine KT.step rfl rfl (K.idxO rfl rfl (by omega) Try.underlying23 Try.size3) ?_
                      refine KT.step rfl rfl (K.loadO rfl hy (by simp) (halfN_get _ _ (by omega)) Try.agg3) ?_
                      refine KT.step rfl rfl (K.move rfl) ?_
                      refine KT.step rfl rfl (K.move rfl) ?_
                      refine KT.idxI rfl rfl rfl (by assumption) rfl (by omega) Try.underlying23 Try.size3 fun cs90 => ?_
                      refine KT.step rfl rfl (K.load rfl Try.agg3) ?_
                      refine KT.step rfl rfl (K.gtr rfl rfl) ?_
                      refine KT.nil ?_
                      refine ⟨by kernel_rfl, ?_⟩
                      refine thenK_n ?_
                      refine KC.cond rfl (fun hc92 => ?_) (fun hc92 => ?_)
                      · skip
                        replace hc92 := of_decide_eq_true hc92
                        refine KC.region ?_
                        refine KT.step rfl rfl (K.move rfl) ?_
                        refine KT.step rfl rfl (K.move rfl) ?_
                        refine KT.step rfl rfl (K.idxO rfl rfl (by omega) Try.underlying23 Try.size3) ?_
                        refine KT.storeG rfl rfl rfl rfl hy (by rw [halfN_len]; omega) rfl rfl Try.size3 fun σz lz uz vz => ?_
                        have hF9 : raiseW (tk W[i]) (tk (raiseL (W.take i) m9)) q = 1099511627776 := by unfold raiseW; rw [if_pos (by rw [tk_get (show q < W[i].length by omega)]; simpa using hc92)]
                        rw [← hF9, halfN_set _ _ (show q < m.length by omega)] at uz
                        refine KT.nil ?_
                        refine blockK_n ?_
                        refine thenK_n ?_
                        refine KC.region ?_
                        refine KT.step rfl rfl (K.add rfl rfl (wrap_id (by omega))) ?_
                        refine KT.step rfl rfl (K.move rfl) ?_
                        refine KT.nil ?_
                        refine thenK_n ?_
                        refine ⟨(σz, q + 1), ⟨by simp only; omega, uz, fun j hj => (vz j (by omega)).trans (hyk j hj), by simp only; omega⟩, by simp only; omega, rfl, by simp [Go.Vm.look, extK]⟩
                      · skip
                        replace hc92 := of_decide_eq_false hc92
                        refine KC.skip ?_
                        refine blockK_n ?_
                        refine thenK_n ?_
                        refine KC.region ?_
                        refine KT.step rfl rfl (K.add rfl rfl (wrap_id (by omega))) ?_
                        refine KT.step rfl rfl (K.move rfl) ?_
                        refine KT.nil ?_
                        refine thenK_n ?_
                        refine ⟨(σy, q + 1), ⟨hyl, ?_, hyk, by simp only; omega⟩, by simp only; omega, rfl, by simp [Go.Vm.look, extK]⟩
                        simp only
                        rw [hy, halfN_same (raiseW (tk W[i]) (tk (raiseL (W.take i) m9))) _ (show q < m.length by omega) (by unfold raiseW; rw [if_neg (by rw [tk_get (show q < W[i].length by omega)]; simpa using hc92)])]
                    · skip
                      replace hc82 := of_decide_eq_false hc82
                      refine KC.exit ?_
                      refine thenK_x ?_
                      refine thenK_x ?_
                      refine blockK_e ?_
                      refine blockK_n ?_
                      refine thenK_n ?_
                      refine KC.region ?_
                      refine KT.step rfl rfl (K.add rfl rfl (wrap_id (by omega))) ?_
                      refine KT.step rfl rfl (K.move rfl) ?_
                      refine KT.nil ?_
                      refine thenK_n ?_
                      obtain rfl : q = m.length := by omega
                      refine ⟨(σy, i + 1), ⟨hyl, ?_, hyk, by simp only; omega⟩, by simp only; omega, rfl, by simp [Go.Vm.look, extK]⟩
                      simp only
                      rw [hy, raiseL_take (show i < W.length by omega), ← raise1_halfN (by simpa using hb73) (by omega), hrl]
                  · skip
                    refine KC.skip ?_
                    refine blockK_n ?_
                    refine thenK_n ?_
                    refine KC.region ?_
                    refine KT.step rfl rfl (K.add rfl rfl (wrap_id (by omega))) ?_
                    refine KT.step rfl rfl (K.move rfl) ?_
                    refine KT.nil ?_
                    refine thenK_n ?_
                    refine ⟨(σx, i + 1), ⟨hxl, ?_, hxk, by simp only; omega⟩, by simp only; omega, rfl, by simp [Go.Vm.look, extK]⟩
                    simp only
                    rw [raiseL_take (show i < W.length by omega), raise1_same (by simpa using hc78)]; exact hx
                · skip
                  refine KT.skip rfl rfl ?_
                  refine KT.skip rfl rfl ?_
                  refine KT.skip rfl rfl ?_
                  refine KT.skip rfl rfl ?_
                  refine KT.step rfl rfl (K.pick rfl (fun h => by cases h) (fun _ => rfl)) ?_
                  refine KT.nil ?_
                  refine thenK_n ?_
                  refine KC.cond rfl (fun hc78 => ?_) (fun hc78 => ?_)
                  · cases hc78
                  · skip
                    refine KC.skip ?_
                    refine blockK_n ?_
                    refine thenK_n ?_
                    refine KC.region ?_
                    refine KT.step rfl rfl (K.add rfl rfl (wrap_id (by omega))) ?_
                    refine KT.step rfl rfl (K.move rfl) ?_
                    refine KT.nil ?_
                    refine thenK_n ?_
                    refine ⟨(σx, i + 1), ⟨hxl, ?_, hxk, by simp only; omega⟩, by simp only; omega, rfl, by simp [Go.Vm.look, extK]⟩
                    simp only
                    rw [raiseL_take (show i < W.length by omega), raise1_no (by simpa using hb73)]; exact hx
              · skip
                replace hc67 := of_decide_eq_false hc67
                refine KC.exit ?_
                refine thenK_x ?_
                refine thenK_x ?_
                refine blockK_e ?_
                refine thenK_n ?_
                refine KC.seq ?_
                have hiL2 : i = L := by omega
                have hWt : W.take i = W := List.take_of_length_le (by omega)
                rw [hWt] at hx
                obtain ⟨r9, hr9⟩ : ∃ r9, r9 = raiseL W m9 := ⟨_, rfl⟩
                rw [← hr9] at hx hg
                have hr9l : r9.length = n := by rw [hr9, raiseL_len, hm9, hml]
                refine KC.ghost [σk.length + 2] 4 (t := 12) (x := .osl (σk.length + 2) 0 m.length 1 m.length false) (d := numV r9) rfl (deep_num hx (by omega) (by omega)) ?_
                have hF : ∀ j, j < σk.length → (freezeIds σx [σk.length + 2])[j]? = σk[j]? := fun j hj => (freezeIds_not (by simp; omega)).trans (hxk j hj)
                have hFl : (freezeIds σx [σk.length + 2]).length = σk.length + 3 := by simp [freezeIds, hxl]
                have hK2 := hK.keep hcl hF
                generalize freezeIds σx [σk.length + 2] = σF at hF hFl hK2 ⊢
                have hXb := hK2.b
                have hnid := hK2.nl
                have hI9 : Ints (numV r9) r9 := numV_ints r9 (by omega)
                have hones : ∀ d ∈ C ++ [numV r9], oneX (.d d) = true := fun d hd => by
                  rcases List.mem_append.1 hd with h | h
                  · obtain ⟨j, hj, rfl⟩ := List.getElem_of_mem h
                    exact (sld_ints (hI j C[j] (W[j]'(by omega)) (List.getElem?_eq_getElem _) (List.getElem?_eq_getElem _))).one
                  · rw [List.mem_singleton.1 h]; exact (sld_ints hI9).one
                have hb9 : BdT W.length r9 := by
                  rw [hr9]
                  refine bdT_raiseL (fun b hb => by rw [hWn b hb, hm9, hml]) ?_
                  rw [show W.length = way.length + 1 by omega]
                  exact bdT_fire hN hp3 hq3 (by omega) hmb hen (by rw [getD_at htl, hr1]; exact hml.symm)
                have hcall := ih (σ := σF) (cid := cid) (L := L + 1) (cs := C) (C := C ++ [numV r9]) (dm := numV r9) (cap := none) (way := W) (W := W ++ [r9]) (nodes := ns) (m := r9) hK2.c hn20 (by omega) (by omega) hr9l hb9 (fun x hx => by
                    rw [hW] at hx
                    rcases List.mem_append.1 hx with h | h
                    · exact hw x h
                    · rw [List.mem_singleton.1 h]; exact ⟨hml, hmB⟩) (by simp [hCL]) (by simp [hWL]) (fun j c x h1 h2 => by
                    by_cases hj : j < L
                    · rw [List.getElem?_append_left (by omega)] at h1 h2; exact hI j c x h1 h2
                    · rw [List.getElem?_append_right (by omega)] at h1 h2
                      by_cases e : j = L
                      · subst e; rw [hCL, Nat.sub_self] at h1; rw [hWL, Nat.sub_self] at h2; cases h1; cases h2; exact hI9
                      · rw [List.getElem?_eq_none (by simp; omega)] at h1; cases h1) rfl rfl
                refine KC.drawZ (fun j => j = cid ∨ j = nid) Try.mixed ?_
                refine KTZ.step rfl rfl (K.move rfl) ?_
                refine KTZ.load rfl rfl rfl (fun h => by rcases h with h | h <;> omega) (K.loadOA [a, b, c] rfl hXb (by decide) Try.agg25 Try.size25 rfl) ?_
                refine KTZ.step rfl rfl (K.move rfl) ?_
                refine KTZ.step rfl rfl (K.move rfl) ?_
                refine KTZ.step rfl rfl (K.lenD rfl Try.underlying22) ?_
                refine KTZ.step rfl rfl (K.move rfl) ?_
                refine KTZ.step rfl rfl (K.lenD rfl Try.underlying22) ?_
                refine KTZ.step rfl rfl (K.cut3 rfl rfl rfl hCL Try.underlying22 Try.size23) ?_
                refine KTZ.step rfl rfl (K.move rfl) ?_
                refine KTZ.step rfl rfl (K.litSl (m := 1) (k := 1) (lo := 1) (qs := [(0, .d (numV r9))]) (cells := [.d (numV r9)]) (d := .sl [numV r9] 1 (some 1)) rfl (fun q hq => by simp only [List.mem_cons, List.not_mem_nil, or_false] at hq; rcases hq with rfl; exact ⟨_, rfl⟩) (build_one (SlD.of hI9).cells Try.underlying22 Try.one23) (by rw [deepen_osl rfl rfl (by simp)]; rfl)) ?_
                refine KTZ.step rfl rfl (K.appHid rfl rfl hCL hones (by omega) Try.underlying22 Try.one23) ?_
                refine KTZ.step rfl rfl (K.move rfl) ?_
                rw [hg] at hcall
                refine KTZ.write rfl rfl (fun j ob hj hob => ⟨ob, by rw [List.getElem?_set_ne (fun e => hj (.inl e.symm))]; exact hob, rfl, Iff.rfl⟩) (K.callO rfl plainTry_55 hcall) ?_
                refine KTZ.appC (cells := (dm :: (ns.drop (nodes.length + 1)).map numV).map .d) (cs := []) rfl rfl (.inr rfl) rfl rfl ((List.getElem?_set_ne (by omega)).trans hK2.n) (by simp) (.inl ⟨rfl, rfl⟩) rfl (by simp; omega) Try.underlying22 Try.size23 (of_decide_eq_true (by kernel_rfl)) (by kernel_rfl) fun σG id9 g1 g2 g3 => ?_
                refine KTZ.step rfl rfl (K.assign rfl) ?_
                refine KTZ.nil ?_
                refine ⟨by kernel_rfl, ?_⟩
                refine thenK_n ?_
                refine KC.seq ?_
                have hcn : cid ≠ nid := by omega
                have q1 := obj_lt hK.b
                have q2 := obj_lt hK.n
                have hT9 : T55 σ σG cid id9 (fB a b c) dm 2001 (ns.drop (nodes.length + 1)) := by
                  have lG : (σF.set cid ⟨[.d (DI (k55 none))], 0⟩).length = σF.length := List.length_set ..
                  refine ⟨(g2 _ (by omega) (by rw [lG]; omega)).trans ((List.getElem?_set_ne (by omega)).trans hK2.b), (g2 _ hcn (by rw [lG]; omega)).trans (List.getElem?_set_self (by omega)), by rw [g1]; simp, g3.elim (fun h => by have := h.1; omega) (fun h => by rw [lG] at h; omega), fun j hj hne => (g2 j (by omega) (by rw [lG]; omega)).trans ((List.getElem?_set_ne (fun e => hne e.symm)).trans (hK2.fr j hj hne))⟩
                refine KC.region ?_
                refine KT.step rfl rfl (K.move rfl) ?_
                refine KT.step rfl rfl (K.nilCheckO rfl) ?_
                refine KT.step rfl rfl (K.loadO (y := .d (DI (2001 : Nat))) rfl hT9.c (by simp) rfl Try.agg3) ?_
                refine KT.step rfl rfl (K.gtr rfl rfl) ?_
                refine KT.nil ?_
                refine thenK_n ?_
                refine KC.cond rfl (fun hc115 => ?_) (fun hc115 => ?_)
                · skip
                  replace hc115 := of_decide_eq_true hc115
                  refine KC.seq ?_
                  refine KC.region ?_
                  refine KT.step rfl rfl (K.assign rfl) ?_
                  refine KT.nil ?_
                  refine thenK_n ?_
                  refine KC.ret ?_
                  refine blockK_r ?_
                  refine thenK_r ?_
                  refine thenK_r ?_
                  refine blockK_r ?_
                  refine thenK_r ?_
                  have hg2 : o = none := by
                    rw [← ho, growP_kids hnl hnw]
                    have h9 := fold_en_none (nx := nxN pre post) (m := m) (t := t + 1) (g := (fun ns (p : Nat × List Int) => growP (nxN pre post) pre.length f (way ++ [m]) ns (raiseL (way ++ [m]) p.2))) (a := nodes ++ [m]) (by rw [fold_en, hfo, hen]; simp only [Option.bind_some]; rw [← hW, ← hr9]; exact hg) (pre.length - (t + 1))
                    rwa [show t + 1 + (pre.length - (t + 1)) = pre.length by omega] at h9
                  subst hg2
                  obtain ⟨τ, hτ⟩ := T55.old hcl (by have := obj_lt hT9.b; omega) hT9.c hT9.fr
                  exact ⟨.inl rfl, _, rfl, [], τ, by rw [freezeIds_nil]; exact hτ, rfl⟩
                · skip
                  exact absurd (of_decide_eq_false hc115) (by decide)
            · skip
              refine KT.step rfl rfl (K.move rfl) ?_
              refine KT.step rfl rfl (K.lenD rfl Try.underlying22) ?_
              refine KT.step rfl rfl (K.move rfl) ?_
              refine KT.nil ?_
              refine thenK_n ?_
              refine KC.block ?_
              refine KC.loop (fun q : List VObj × Nat => q.1) (fun q => [(1, .d (.sl C L cap)), (2, .optr cid 0), (3, .optr σ.length 0), (7, .d dm), (8, .osl nid 0 ((ns.drop (nodes.length + 1)).length + 1) 1 ((ns.drop (nodes.length + 1)).length + 1) (ns.drop (nodes.length + 1)).isEmpty), (51, .d (DI (pre.length : Nat))), (52, .d (DI (t : Nat))), (12, .osl (σk.length + 2) 0 m.length 1 m.length false), (64, .d (.sl C L cap)), (65, .d (DI (L : Nat))), (66, .d (DI (q.2 : Nat)))]) (fun q => q.1.length = σk.length + 3 ∧ q.1[σk.length + 2]? = some ⟨((raiseL (W.take q.2) m9).map DI).map .d, 0⟩ ∧ (∀ j, j < σk.length → q.1[j]? = σk[j]?) ∧ q.2 ≤ L) (fun q => L - q.2) (_, 0) ⟨by simp, by simp [raiseL], fun j hj => List.getElem?_append_left hj, Nat.zero_le _⟩ rfl (by simp [Go.Vm.look, extK, enterK]) ?_
              intro q hq0
              obtain ⟨σx, i⟩ := q
              obtain ⟨hxl, hx, hxk, hiL⟩ := hq0
              simp only at hxl hx hxk hiL ⊢
              refine KC.seq ?_
              refine KC.region ?_
              refine KT.step rfl rfl (K.lss rfl rfl) ?_
              refine KT.nil ?_
              refine thenK_n ?_
              refine KC.seq ?_
              refine KC.cond rfl (fun hc67 => ?_) (fun hc67 => ?_)
              · skip
                replace hc67 := of_decide_eq_true hc67
                have hil : i < L := by omega
                have hIi : Ints C[i] W[i] := hI i _ _ (List.getElem?_eq_getElem _) (List.getElem?_eq_getElem _)
                have hWi : W[i].length = n := hWn _ (List.getElem_mem _)
                have hrl : (raiseL (W.take i) m9).length = m.length := by rw [raiseL_len, hm9]
                refine KC.skip ?_
                refine thenK_n ?_
                refine KC.seq ?_
                refine KC.block ?_
                refine KC.seq ?_
                refine KC.region ?_
                refine KT.step rfl rfl (K.idxDK (k := 1) (m := i) rfl rfl hil Try.underlying22 Try.size23) ?_
                rw [drop_one (show i < C.length by omega)]
                refine KT.step rfl rfl (K.load rfl Try.agg23) ?_
                refine KT.step rfl rfl (K.assign rfl) ?_
                refine KT.nil ?_
                refine thenK_n ?_
                refine KC.seq ?_
                refine KC.region ?_
                refine KT.step rfl rfl (K.move rfl) ?_
                refine KT.step rfl rfl (K.move rfl) ?_
                refine KT.step rfl rfl (K.callO (xs := [.d C[i], .osl (σk.length + 2) 0 m.length 1 m.length false]) rfl plainTry_46 (ownCall_of_deep [σk.length + 2] 4 (dargs := [C[i], numV (raiseL (W.take i) m9)]) (by simp only [List.mapM_cons, List.mapM_nil, deep_num hx hrl (by omega)]; rfl) (within46 hIi (numV_ints _ (by omega)) (by omega) (by omega)))) ?_
                refine KT.step rfl rfl (K.move rfl) ?_
                refine KT.bcase (fun hb73 => ?_) (fun hb73 => ?_)
                · skip
                  refine KT.step rfl rfl (K.move rfl) ?_
                  refine KT.step rfl rfl (K.move rfl) ?_
                  refine KT.step rfl rfl (K.callO (xs := [.d C[i], .osl (σk.length + 2) 0 m.length 1 m.length false]) rfl plainTry_56 (ownCall_of_deep [σk.length + 2] 4 (dargs := [C[i], numV (raiseL (W.take i) m9)]) (by simp only [List.mapM_cons, List.mapM_nil, deep_num hx hrl (by omega)]; rfl) (requal56 hIi (numV_ints _ (by omega)) (by omega) (by omega)))) ?_
                  refine KT.step rfl rfl (K.not rfl) ?_
                  refine KT.step rfl rfl (K.pick rfl (fun _ => rfl) (fun h => by cases h)) ?_
                  refine KT.nil ?_
                  refine thenK_n ?_
                  refine KC.cond rfl (fun hc78 => ?_) (fun hc78 => ?_)
                  · skip
                    refine KC.seq ?_
                    refine KC.region ?_
                    refine KT.step rfl rfl (K.move rfl) ?_
                    refine KT.step rfl rfl (K.lenO rfl Try.underlying23) ?_
                    refine KT.step rfl rfl (K.move rfl) ?_
                    refine KT.nil ?_
                    refine thenK_n ?_
                    refine KC.block ?_
                    refine KC.loop (fun r : List VObj × Nat => r.1) (fun r => [(1, .d (.sl C L cap)), (2, .optr cid 0), (3, .optr σ.length 0), (7, .d dm), (8, .osl nid 0 ((ns.drop (nodes.length + 1)).length + 1) 1 ((ns.drop (nodes.length + 1)).length + 1) (ns.drop (nodes.length + 1)).isEmpty), (51, .d (DI (pre.length : Nat))), (52, .d (DI (t : Nat))), (12, .osl (σk.length + 2) 0 m.length 1 m.length false), (15, .d C[i]), (64, .d (.sl C L cap)), (65, .d (DI (L : Nat))), (66, .d (DI (i : Nat))), (79, .osl (σk.length + 2) 0 m.length 1 m.length false), (80, .d (DI (m.length : Nat))), (81, .d (DI (r.2 : Nat)))]) (fun r => r.1.length = σk.length + 3 ∧ r.1[σk.length + 2]? = some ⟨halfN m.length (raiseW (tk W[i]) (tk (raiseL (W.take i) m9))) (tk (raiseL (W.take i) m9)) r.2, 0⟩ ∧ (∀ j, j < σk.length → r.1[j]? = σk[j]?) ∧ r.2 ≤ m.length) (fun r => m.length - r.2) (σx, 0) ⟨hxl, by rw [hx, ← hrl, ← halfN_start], hxk, Nat.zero_le _⟩ rfl (by simp [Go.Vm.look, extK, enterK]) ?_
                    intro r hr0
                    obtain ⟨σy, q⟩ := r
                    obtain ⟨hyl, hy, hyk, hqm⟩ := hr0
                    simp only at hyl hy hyk hqm ⊢
                    refine KC.seq ?_
                    refine KC.region ?_
                    refine KT.step rfl rfl (K.lss rfl rfl) ?_
                    refine KT.nil ?_
                    refine thenK_n ?_
                    refine KC.seq ?_
                    refine KC.cond rfl (fun hc82 => ?_) (fun hc82 => ?_)
                    · skip
                      replace hc82 := of_decide_eq_true hc82
                      have hqm2 : q < m.length := by omega
                      refine KC.skip ?_
                      refine thenK_n ?_
                      refine KC.seq ?_
                      refine KC.block ?_
                      refine KC.seq ?_
                      refine KC.region ?_
                      refine KT.step rfl rfl (K.move rfl) ?_
                      refine KT.step rfl rfl (K.assign rfl) ?_
                      refine KT.nil ?_
                      refine thenK_n ?_
                      refine KC.seq ?_
                      refine KC.draw Try.mixed ?_
                      refine KT.step rfl rfl (K.move rfl) ?_
                      refine KT.step rfl rfl (K.move rfl) ?_
                      refine KT.step rfl rfl (K.idxO rfl rfl (by omega) Try.underlying23 Try.size3) ?_
                      refine KT.step rfl rfl (K.loadO rfl hy (by simp) (halfN_get _ _ (by omega)) Try.agg3) ?_
                      refine KT.step rfl rfl (K.move rfl) ?_
                      refine KT.step rfl rfl (K.move rfl) ?_
                      refine KT.idxI rfl rfl rfl (by assumption) rfl (by omega) Try.underlying23 Try.size3 fun cs90 => ?_
                      refine KT.step rfl rfl (K.load rfl Try.agg3) ?_
                      refine KT.step rfl rfl (K.gtr rfl rfl) ?_
                      refine KT.nil ?_
                      refine ⟨by kernel_rfl, ?_⟩
                      refine thenK_n ?_
                      refine KC.cond rfl (fun hc92 => ?_) (fun hc92 => ?_)
                      · skip
                        replace hc92 := of_decide_eq_true hc92
                        refine KC.region ?_
                        refine KT.step rfl rfl (K.move rfl) ?_
                        refine KT.step rfl rfl (K.move rfl) ?_
                        refine KT.step rfl rfl (K.idxO rfl rfl (by omega) Try.underlying23 Try.size3) ?_
                        refine KT.storeG rfl rfl rfl rfl hy (by rw [halfN_len]; omega) rfl rfl Try.size3 fun σz lz uz vz => ?_
                        have hF9 : raiseW (tk W[i]) (tk (raiseL (W.take i) m9)) q = 1099511627776 := by unfold raiseW; rw [if_pos (by rw [tk_get (show q < W[i].length by omega)]; simpa using hc92)]
                        rw [← hF9, halfN_set _ _ (show q < m.length by omega)] at uz
                        refine KT.nil ?_
                        refine blockK_n ?_
                        refine thenK_n ?_
                        refine KC.region ?_
                        refine KT.step rfl rfl (K.add rfl rfl (wrap_id (by omega))) ?_
                        refine KT.step rfl rfl (K.move rfl) ?_
                        refine KT.nil ?_
                        refine thenK_n ?_
                        refine ⟨(σz, q + 1), ⟨by simp only; omega, uz, fun j hj => (vz j (by omega)).trans (hyk j hj), by simp only; omega⟩, by simp only; omega, rfl, by simp [Go.Vm.look, extK]⟩
                      · skip
                        replace hc92 := of_decide_eq_false hc92
                        refine KC.skip ?_
                        refine blockK_n ?_
                        refine thenK_n ?_
                        refine KC.region ?_
                        refine KT.step rfl rfl (K.add rfl rfl (wrap_id (by omega))) ?_
                        refine KT.step rfl rfl (K.move rfl) ?_
                        refine KT.nil ?_
                        refine thenK_n ?_
                        refine ⟨(σy, q + 1), ⟨hyl, ?_, hyk, by simp only; omega⟩, by simp only; omega, rfl, by simp [Go.Vm.look, extK]⟩
                        simp only
                        rw [hy, halfN_same (raiseW (tk W[i]) (tk (raiseL (W.take i) m9))) _ (show q < m.length by omega) (by unfold raiseW; rw [if_neg (by rw [tk_get (show q < W[i].length by omega)]; simpa using hc92)])]
                    · skip
                      replace hc82 := of_decide_eq_false hc82
                      refine KC.exit ?_
                      refine thenK_x ?_
                      refine thenK_x ?_
                      refine blockK_e ?_
                      refine blockK_n ?_
                      refine thenK_n ?_
                      refine KC.region ?_
                      refine KT.step rfl rfl (K.add rfl rfl (wrap_id (by omega))) ?_
                      refine KT.step rfl rfl (K.move rfl) ?_
                      refine KT.nil ?_
                      refine thenK_n ?_
                      obtain rfl : q = m.length := by omega
                      refine ⟨(σy, i + 1), ⟨hyl, ?_, hyk, by simp only; omega⟩, by simp only; omega, rfl, by simp [Go.Vm.look, extK]⟩
                      simp only
                      rw [hy, raiseL_take (show i < W.length by omega), ← raise1_halfN (by simpa using hb73) (by omega), hrl]
                  · skip
                    refine KC.skip ?_
                    refine blockK_n ?_
                    refine thenK_n ?_
                    refine KC.region ?_
                    refine KT.step rfl rfl (K.add rfl rfl (wrap_id (by omega))) ?_
                    refine KT.step rfl rfl (K.move rfl) ?_
                    refine KT.nil ?_
                    refine thenK_n ?_
                    refine ⟨(σx, i + 1), ⟨hxl, ?_, hxk, by simp only; omega⟩, by simp only; omega, rfl, by simp [Go.Vm.look, extK]⟩
                    simp only
                    rw [raiseL_take (show i < W.length by omega), raise1_same (by simpa using hc78)]; exact hx
                · skip
                  refine KT.skip rfl rfl ?_
                  refine KT.skip rfl rfl ?_
                  refine KT.skip rfl rfl ?_
                  refine KT.skip rfl rfl ?_
                  refine KT.step rfl rfl (K.pick rfl (fun h => by cases h) (fun _ => rfl)) ?_
                  refine KT.nil ?_
                  refine thenK_n ?_
                  refine KC.cond rfl (fun hc78 => ?_) (fun hc78 => ?_)
                  · cases hc78
                  · skip
                    refine KC.skip ?_
                    refine blockK_n ?_
                    refine thenK_n ?_
                    refine KC.region ?_
                    refine KT.step rfl rfl (K.add rfl rfl (wrap_id (by omega))) ?_
                    refine KT.step rfl rfl (K.move rfl) ?_
                    refine KT.nil ?_
                    refine thenK_n ?_
                    refine ⟨(σx, i + 1), ⟨hxl, ?_, hxk, by simp only; omega⟩, by simp only; omega, rfl, by simp [Go.Vm.look, extK]⟩
                    simp only
                    rw [raiseL_take (show i < W.length by omega), raise1_no (by simpa using hb73)]; exact hx
              · skip
                replace hc67 := of_decide_eq_false hc67
                refine KC.exit ?_
                refine thenK_x ?_
                refine thenK_x ?_
                refine blockK_e ?_
                refine thenK_n ?_
                refine KC.seq ?_
                have hiL2 : i = L := by omega
                have hWt : W.take i = W := List.take_of_length_le (by omega)
                rw [hWt] at hx
                obtain ⟨r9, hr9⟩ : ∃ r9, r9 = raiseL W m9 := ⟨_, rfl⟩
                rw [← hr9] at hx hg
                have hr9l : r9.length = n := by rw [hr9, raiseL_len, hm9, hml]
                refine KC.ghost [σk.length + 2] 4 (t := 12) (x := .osl (σk.length + 2) 0 m.length 1 m.length false) (d := numV r9) rfl (deep_num hx (by omega) (by omega)) ?_
                have hF : ∀ j, j < σk.length → (freezeIds σx [σk.length + 2])[j]? = σk[j]? := fun j hj => (freezeIds_not (by simp; omega)).trans (hxk j hj)
                have hFl : (freezeIds σx [σk.length + 2]).length = σk.length + 3 := by simp [freezeIds, hxl]
                have hK2 := hK.keep hcl hF
                generalize freezeIds σx [σk.length + 2] = σF at hF hFl hK2 ⊢
                have hXb := hK2.b
                have hnid := hK2.nl
                have hI9 : Ints (numV r9) r9 := numV_ints r9 (by omega)
                have hones : ∀ d ∈ C ++ [numV r9], oneX (.d d) = true := fun d hd => by
                  rcases List.mem_append.1 hd with h | h
                  · obtain ⟨j, hj, rfl⟩ := List.getElem_of_mem h
                    exact (sld_ints (hI j C[j] (W[j]'(by omega)) (List.getElem?_eq_getElem _) (List.getElem?_eq_getElem _))).one
                  · rw [List.mem_singleton.1 h]; exact (sld_ints hI9).one
                have hb9 : BdT W.length r9 := by
                  rw [hr9]
                  refine bdT_raiseL (fun b hb => by rw [hWn b hb, hm9, hml]) ?_
                  rw [show W.length = way.length + 1 by omega]
                  exact bdT_fire hN hp3 hq3 (by omega) hmb hen (by rw [getD_at htl, hr1]; exact hml.symm)
                have hcall := ih (σ := σF) (cid := cid) (L := L + 1) (cs := C) (C := C ++ [numV r9]) (dm := numV r9) (cap := none) (way := W) (W := W ++ [r9]) (nodes := ns) (m := r9) hK2.c hn20 (by omega) (by omega) hr9l hb9 (fun x hx => by
                    rw [hW] at hx
                    rcases List.mem_append.1 hx with h | h
                    · exact hw x h
                    · rw [List.mem_singleton.1 h]; exact ⟨hml, hmB⟩) (by simp [hCL]) (by simp [hWL]) (fun j c x h1 h2 => by
                    by_cases hj : j < L
                    · rw [List.getElem?_append_left (by omega)] at h1 h2; exact hI j c x h1 h2
                    · rw [List.getElem?_append_right (by omega)] at h1 h2
                      by_cases e : j = L
                      · subst e; rw [hCL, Nat.sub_self] at h1; rw [hWL, Nat.sub_self] at h2; cases h1; cases h2; exact hI9
                      · rw [List.getElem?_eq_none (by simp; omega)] at h1; cases h1) rfl rfl
                refine KC.drawZ (fun j => j = cid ∨ j = nid) Try.mixed ?_
                refine KTZ.step rfl rfl (K.move rfl) ?_
                refine KTZ.load rfl rfl rfl (fun h => by rcases h with h | h <;> omega) (K.loadOA [a, b, c] rfl hXb (by decide) Try.agg25 Try.size25 rfl) ?_
                refine KTZ.step rfl rfl (K.move rfl) ?_
                refine KTZ.step rfl rfl (K.move rfl) ?_
                refine KTZ.step rfl rfl (K.lenD rfl Try.underlying22) ?_
                refine KTZ.step rfl rfl (K.move rfl) ?_
                refine KTZ.step rfl rfl (K.lenD rfl Try.underlying22) ?_
                refine KTZ.step rfl rfl (K.cut3 rfl rfl rfl hCL Try.underlying22 Try.size23) ?_
                refine KTZ.step rfl rfl (K.move rfl) ?_
                refine KTZ.step rfl rfl (K.litSl (m := 1) (k := 1) (lo := 1) (qs := [(0, .d (numV r9))]) (cells := [.d (numV r9)]) (d := .sl [numV r9] 1 (some 1)) rfl (fun q hq => by simp only [List.mem_cons, List.not_mem_nil, or_false] at hq; rcases hq with rfl; exact ⟨_, rfl⟩) (build_one (SlD.of hI9).cells Try.underlying22 Try.one23) (by rw [deepen_osl rfl rfl (by simp)]; rfl)) ?_
                refine KTZ.step rfl rfl (K.appHid rfl rfl hCL hones (by omega) Try.underlying22 Try.one23) ?_
                refine KTZ.step rfl rfl (K.move rfl) ?_
                rw [hg] at hcall
                refine KTZ.write rfl rfl (fun j ob hj hob => ⟨ob, by rw [List.getElem?_set_ne (fun e => hj (.inl e.symm))]; exact hob, rfl, Iff.rfl⟩) (K.callO rfl plainTry_55 hcall) ?_
                refine KTZ.appC (cells := (dm :: (ns.drop (nodes.length + 1)).map numV).map .d) (cs := l55 (numV r9) ns.length r) rfl rfl (.inr rfl) rfl rfl ((List.getElem?_set_ne (by omega)).trans hK2.n) (by simp) (.inr ⟨_, rfl⟩) (l55_one _ _ _) (by have := growP_le _ _ _ _ _ hn20 hg; unfold l55; simp; omega) Try.underlying22 Try.size23 (of_decide_eq_true (by kernel_rfl)) (by kernel_rfl) fun σG id9 g1 g2 g3 => ?_
                refine KTZ.step rfl rfl (K.assign rfl) ?_
                refine KTZ.nil ?_
                refine ⟨by kernel_rfl, ?_⟩
                refine thenK_n ?_
                refine KC.seq ?_
                have hcn : cid ≠ nid := by omega
                have q1 := obj_lt hK.b
                have q2 := obj_lt hK.n
                obtain ⟨_, l9, hl9⟩ := growP_nodes _ _ _ _ _ hg
                have hrd : r.drop (nodes.length + 1) = ns.drop (nodes.length + 1) ++ r9 :: l9 := by rw [hl9, List.append_assoc, List.drop_append_of_le_length (by omega)]; rfl
                have hrd2 : r.drop (ns.length + 1) = l9 := by rw [hl9]; exact List.drop_left' (by simp)
                have hr20 := growP_le _ _ _ _ _ hn20 hg
                have hT9 : T55 σ σG cid id9 (fB a b c) dm r.length (r.drop (nodes.length + 1)) := by
                  have lG : (σF.set cid ⟨[.d (DI (k55 (some r)))], 0⟩).length = σF.length := List.length_set ..
                  refine ⟨(g2 _ (by omega) (by rw [lG]; omega)).trans ((List.getElem?_set_ne (by omega)).trans hK2.b), (g2 _ hcn (by rw [lG]; omega)).trans (List.getElem?_set_self (by omega)), by rw [g1, hrd]; unfold l55; rw [hrd2]; simp, g3.elim (fun h => by have := h.1; omega) (fun h => by rw [lG] at h; omega), fun j hj hne => (g2 j (by omega) (by rw [lG]; omega)).trans ((List.getElem?_set_ne (fun e => hne e.symm)).trans (hK2.fr j hj hne))⟩
                refine KC.region ?_
                refine KT.step rfl rfl (K.move rfl) ?_
                refine KT.step rfl rfl (K.nilCheckO rfl) ?_
                refine KT.step rfl rfl (K.loadO (y := .d (DI (r.length : Nat))) rfl hT9.c (by simp) rfl Try.agg3) ?_
                refine KT.step rfl rfl (K.gtr rfl rfl) ?_
                refine KT.nil ?_
                refine thenK_n ?_
                refine KC.cond rfl (fun hc115 => ?_) (fun hc115 => ?_)
                · skip
                  exact absurd (of_decide_eq_true hc115) (by omega)
                · skip
                  replace hc115 := of_decide_eq_false hc115
                  refine KC.skip ?_
                  refine blockK_n ?_
                  refine thenK_n ?_
                  refine KC.region ?_
                  refine KT.step rfl rfl (K.add rfl rfl (wrap_id (by omega))) ?_
                  refine KT.step rfl rfl (K.move rfl) ?_
                  refine KT.nil ?_
                  refine thenK_n ?_
                  have e1 : (r.drop (nodes.length + 1)).length + 1 = (ns.drop (nodes.length + 1)).length + 1 + (l55 (numV r9) ns.length r).length := by rw [hrd]; unfold l55; rw [hrd2]; simp; omega
                  have e2 : (r.drop (nodes.length + 1)).isEmpty = ((ns.drop (nodes.length + 1)).isEmpty && (l55 (numV r9) ns.length r).isEmpty) := by rw [hrd]; unfold l55; simp
                  refine ⟨(σG, id9, r, t + 1), ⟨?_, hT9, hr20, by simp only; rw [hl9]; simp; omega, by simp only; omega⟩, by simp only; omega, rfl, ?_⟩
                  · simp only
                    rw [fold_en, hfo, hen]; simp only [Option.bind_some]; rw [← hW, ← hr9]; exact hg
                  · simp only [e1, e2]
                    simp [Go.Vm.look, extK]
        · skip
          have htl2 : t < post.length := by omega
          have hr1 := hN.rp _ (List.getElem_mem htl)
          have hr2 := hN.rq _ (List.getElem_mem htl2)
          have hwi := nx_no hen htl
          refine KT.step rfl rfl (K.callO rfl plainTry_77 (rfire77_no ha hb hdm (by omega) (by omega) htl htl2 (by omega) (by omega) (hp3 _ (List.getElem_mem htl)) (hq3 _ (List.getElem_mem htl2)) hmB.tk hwi)) ?_
          refine KT.step rfl rfl (K.move rfl) ?_
          refine KT.step rfl rfl (K.extractY rfl rfl) ?_
          refine KT.step rfl rfl (K.extractY rfl rfl) ?_
          refine KT.step rfl rfl (K.assign rfl) ?_
          refine KT.step rfl rfl (K.assign rfl) ?_
          refine KT.nil ?_
          refine thenK_n ?_
          refine KC.seq ?_
          refine KC.seq ?_
          refine KC.region ?_
          refine KT.step rfl rfl (K.move rfl) ?_
          refine KT.step rfl rfl (K.not rfl) ?_
          refine KT.nil ?_
          refine thenK_n ?_
          refine KC.cond rfl (fun hc63 => ?_) (fun hc63 => ?_)
          · skip
            refine KC.exit ?_
            refine thenK_x ?_
            refine blockK_e ?_
            refine thenK_n ?_
            refine KC.region ?_
            refine KT.step rfl rfl (K.add rfl rfl (wrap_id (by omega))) ?_
            refine KT.step rfl rfl (K.move rfl) ?_
            refine KT.nil ?_
            refine thenK_n ?_
            refine ⟨(_, nid, ns, t + 1), ⟨?_, hK.keep hcl (fun j hj => List.getElem?_append_left hj), hn20, hn1, by simp only; omega⟩, by simp only; omega, rfl, by simp [Go.Vm.look, extK]⟩
            simp only
            rw [fold_en, hfo, hen]; rfl
          · cases hc63
      · skip
        replace hc53 := of_decide_eq_false hc53
        refine KC.exit ?_
        refine thenK_x ?_
        refine thenK_x ?_
        refine blockK_e ?_
        refine thenK_n ?_
        refine KC.seq ?_
        refine KC.region ?_
        refine KT.step rfl rfl (K.move rfl) ?_
        refine KT.step rfl rfl (K.assign rfl) ?_
        refine KT.nil ?_
        refine thenK_n ?_
        refine KC.ret ?_
        obtain rfl : t = pre.length := by omega
        have hg2 : o = some ns := by rw [← ho, growP_kids hnl hnw]; exact hfo
        subst hg2
        obtain ⟨τ, h8, h9⟩ := hK.done (c := nodes.length) hcl rfl
        exact ⟨.inl rfl, _, rfl, _, τ, h8, h9⟩
end Go.Proofs.Ytocgjopmlhpjdaa

