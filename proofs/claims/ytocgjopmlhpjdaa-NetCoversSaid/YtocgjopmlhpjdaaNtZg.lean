import Derived.Test.YtocgjopmlhpjdaaNtZf
import Derived.Test.YtocgjopmlhpjdaaNtG
/-
  Nets: greatest, covered.
-/
namespace Go.Proofs.Ytocgjopmlhpjdaa
open Go.Vm Go.RowKit Go.Nt Go.Ht
theorem plainTry_82 : plainFn Try.prog 82 = true := by kernel_rfl
theorem plainTry_54 : plainFn Try.prog 54 = true := by kernel_rfl
theorem stk_deep {σ : List VObj} {x : XV} {l : List (List Int)} (h : Stk σ x l) : ∃ ids d, FlD 6 (fun m => w6 (tk m)) d l ∧ deepen (freezeIds σ ids) 4 x = some d ∧ ∀ j, idX x ≠ some j → j ∉ ids := by
  cases h with
  | nil => exact ⟨[], _, .nil, rfl, fun _ _ => by simp⟩
  | @sl id lo rest _ h hl => exact ⟨[id], _, fl_sl l none, deep_stk h (by simp), fun j hj => by simp; exact fun e => hj (by rw [e]; rfl)⟩
theorem stk_fin {σ : List VObj} {x : XV} {l : List (List Int)} {k : Nat} (h : Stk σ x l) (hn : l = [] → x = .d Dnil) : deepen (freezeAll σ) (k + 2) x = some (flV (fun m => w6 (tk m)) l) := by
  cases l with
  | nil => rw [hn rfl]; rfl
  | cons a l =>
    cases h with
    | @sl id lo rest _ h hl =>
      rw [deepen_osl (fz_get h) rfl (by rw [List.length_append, List.length_map, flatW_len]; omega), List.drop_zero, List.take_left' (by rw [List.length_map, flatW_len]), mapM_deep]; rfl
/-- The greatest markings. -/
def grt1 (out : List (List Int)) (m : List Int) : List (List Int) := if out.any (fun y => leq6 (tk m) (tk y)) then out else stayL m out ++ [m]
def grtL (nodes : List (List Int)) : List (List Int) := nodes.foldl grt1 []
theorem grtL_take {nodes : List (List Int)} {i : Nat} (h : i < nodes.length) : grtL (nodes.take (i + 1)) = grt1 (grtL (nodes.take i)) nodes[i] := by
  unfold grtL
  rw [List.take_add_one, List.getElem?_eq_getElem h, Option.toList_some, List.foldl_append]; rfl
theorem grt1_len (out : List (List Int)) (m : List Int) : (grt1 out m).length ≤ out.length + 1 := by
  unfold grt1
  split
  · omega
  · have := stay_len m out
    rw [List.length_append, List.length_singleton]; omega
theorem grtL_len {nodes : List (List Int)} : ∀ i, i ≤ nodes.length → (grtL (nodes.take i)).length ≤ i
  | 0, _ => by simp [grtL]
  | i + 1, h => by
    have := grtL_len (nodes := nodes) i (by omega)
    have h2 := grt1_len (grtL (nodes.take i)) (nodes[i]'h)
    rw [grtL_take h]; omega
set_option maxHeartbeats 2000000 in
set_option maxRecDepth 10000 in
theorem greatest82 {nodes : List (List Int)} (hl : nodes.length ≤ 2000) : DeepCall Try.prog 82 [flV (fun m => w6 (tk m)) nodes] (flV (fun m => w6 (tk m)) (grtL nodes)) := by
  refine deepCall_K 6 Try.func82 rfl (Nat.le_of_ble_eq_true rfl) fun M W0 => ?_
  refine KC.seq ?_
  refine KC.region ?_
  refine KT.step rfl rfl (K.assign rfl) ?_
  refine KT.nil ?_
  refine thenK_n ?_
  refine KC.seq ?_
  refine KC.region ?_
  refine KT.step rfl rfl (K.assign rfl) ?_
  refine KT.nil ?_
  refine thenK_n ?_
  refine KC.seq ?_
  refine KC.seq ?_
  refine KC.region ?_
  refine KT.step rfl rfl (K.move rfl) ?_
  refine KT.step rfl rfl (K.lenF (k := 6) (f := fun m => w6 (tk m)) (ks := nodes) rfl (flV_ok (k := 6) nodes) Try.underlying62) ?_
  refine KT.step rfl rfl (K.move rfl) ?_
  refine KT.nil ?_
  refine thenK_n ?_
  refine KC.block ?_
  refine KC.loop (fun p : List VObj × XV × Nat => p.1) (fun p => [(3, p.2.1), (6, .d (flV (fun m => w6 (tk m)) nodes)), (7, .d (DI (nodes.length : Nat))), (8, .d (DI (p.2.2 : Nat)))]) (fun p => p.2.2 ≤ nodes.length ∧ Stk p.1 p.2.1 (grtL (nodes.take p.2.2)) ∧ (grtL (nodes.take p.2.2) = [] → p.2.1 = .d Dnil)) (fun p => nodes.length - p.2.2) (_, .d Dnil, 0) ⟨Nat.zero_le _, .nil, fun _ => rfl⟩ rfl (by simp [Go.Vm.look, extK, enterK]) ?_
  intro p hp0
  obtain ⟨σk, x, i⟩ := p
  obtain ⟨hi, hS, hn⟩ := hp0
  simp only at hi hS hn ⊢
  refine KC.seq ?_
  refine KC.region ?_
  refine KT.step rfl rfl (K.lss rfl rfl) ?_
  refine KT.nil ?_
  refine thenK_n ?_
  refine KC.seq ?_
  refine KC.cond rfl (fun hc9 => ?_) (fun hc9 => ?_)
  · skip
    replace hc9 := of_decide_eq_true hc9
    have hil : i < nodes.length := by omega
    have hgl := grtL_len (nodes := nodes) i (by omega)
    have hlk : (grtL (nodes.take i)).length ≤ 1000000 := by omega
    have hgt := grtL_take hil
    refine KC.skip ?_
    refine thenK_n ?_
    refine KC.seq ?_
    refine KC.block ?_
    refine KC.seq ?_
    refine KC.region ?_
    refine KT.step rfl rfl (K.idxF (k := 6) (f := fun m => w6 (tk m)) (m := i) (fun _ => by simp [w6]) rfl (flV_ok nodes) rfl hil Try.underlying62 Try.size64) ?_
    refine KT.step rfl rfl (K.loadFl (m := 6) (by simp [w6]) rfl Try.agg64 Try.size64) ?_
    refine KT.step rfl rfl (K.alloc Try.zero64) ?_
    refine KT.putAll (cs := (w6 (tk nodes[i])).map .d) rfl rfl rfl rfl (List.getElem?_concat_length ..) rfl (by simp [w6, Value.cells]) (w6_one _) Try.size64 ?_
    obtain ⟨σ1, hσ1, k6, tk1, tl1⟩ := obj_put (List.getElem?_concat_length ..) ⟨(w6 (tk nodes[i])).map .d, 0⟩
    rw [hσ1]
    obtain ⟨bid, hbid⟩ : ∃ bid, bid = σk.length := ⟨_, rfl⟩
    rw [← hbid] at k6 tk1 ⊢
    rw [List.length_append, List.length_singleton] at tl1
    have kS : Stk σ1 x (grtL (nodes.take i)) := hS.keep fun j hj => (tk1 j (by have := hS.lt hj; omega)).trans (List.getElem?_append_left (hS.lt hj))
    have kne : idX x ≠ some bid := fun e => by have := hS.lt e; omega
    refine KT.nil ?_
    refine thenK_n ?_
    refine KC.seq ?_
    refine KC.seq ?_
    refine KC.region ?_
    refine KT.step rfl rfl (K.move rfl) ?_
    refine KT.step rfl rfl (K.loadOA (w6 (tk nodes[i])) rfl k6 (by decide) Try.agg64 Try.size64 rfl) ?_
    refine KT.step rfl rfl (K.makeFF (m := 0) rfl rfl rfl rfl) ?_
    obtain ⟨ids, dx, hfd, hdp, _⟩ := stk_deep kS
    refine KT.step rfl rfl (K.callO (xs := [x, .fn (.func 58) [.d (.agg (w6 (tk nodes[i])))] []]) rfl plainTry_57 (ownCall_of_deep ids 4 (dargs := [dx, .fn (.func 58) [.agg (w6 (tk nodes[i]))] []]) (by simp only [List.mapM_cons, List.mapM_nil, hdp]; rfl) (containsFunc57 (fs := [.agg (w6 (tk nodes[i]))]) (cs := []) (q := fun y => leq6 (tk nodes[i]) (tk y)) hfd hlk plainTry_58 (fun y _ => atMost58 _ _)))) ?_
    refine KT.nil ?_
    refine thenK_n ?_
    refine KC.cond rfl (fun hc15 => ?_) (fun hc15 => ?_)
    · skip
      refine KC.exit ?_
      refine thenK_x ?_
      refine blockK_e ?_
      refine thenK_n ?_
      refine KC.region ?_
      refine KT.step rfl rfl (K.add rfl rfl (wrap_id (by omega))) ?_
      refine KT.step rfl rfl (K.move rfl) ?_
      refine KT.nil ?_
      refine thenK_n ?_
      have hg1 : grt1 (grtL (nodes.take i)) nodes[i] = grtL (nodes.take i) := by unfold grt1; rw [if_pos hc15]
      refine ⟨(σ1, x, i + 1), ⟨by simp only; omega, ?_, ?_⟩, by simp only; omega, rfl, by simp [Go.Vm.look, extK]⟩
      · simp only
        rw [hgt, hg1]; exact kS
      · simp only
        rw [hgt, hg1]; exact hn
    · skip
      refine KC.skip ?_
      refine thenK_n ?_
      refine KC.seq ?_
      refine KC.regionL ?_
      refine KL.step rfl rfl (K.move rfl) ?_
      refine KL.step rfl rfl (K.makeF (m := 0) rfl rfl rfl rfl) ?_
      refine KL.call (R := _) rfl rfl rfl rfl rfl plainTry_100 (delete100 kS k6 kne hlk) fun σ2 x2 hD => ?_
      obtain ⟨d1, d2, d3, d4⟩ := hD
      have e6 := (d2 bid (by omega) kne).trans k6
      refine KL.step rfl rfl (K.assign rfl) ?_
      refine KL.nil ?_
      refine thenK_n ?_
      refine KC.region ?_
      refine KT.step rfl rfl (K.move rfl) ?_
      refine KT.step rfl rfl (K.loadOA (w6 (tk nodes[i])) rfl e6 (by decide) Try.agg64 Try.size64 rfl) ?_
      refine KT.step rfl rfl (K.buildK rfl (by simp [w6]) Try.underlying62 Try.size64 Try.zero64 (by omega)) ?_
      refine KT.appStk rfl rfl rfl rfl (d3.keep fun j hj => List.getElem?_append_left (d3.lt hj)) (List.getElem?_concat_length ..) (fun e => by have := d3.lt e; omega) (by have := stay_len nodes[i] (grtL (nodes.take i)); omega) fun σ3 x3 s3 f3 w3 l3 => ?_
      refine KT.step rfl rfl (K.assign rfl) ?_
      refine KT.nil ?_
      refine blockK_n ?_
      refine thenK_n ?_
      refine KC.region ?_
      refine KT.step rfl rfl (K.add rfl rfl (wrap_id (by omega))) ?_
      refine KT.step rfl rfl (K.move rfl) ?_
      refine KT.nil ?_
      refine thenK_n ?_
      have hg1 : grt1 (grtL (nodes.take i)) nodes[i] = stayL nodes[i] (grtL (nodes.take i)) ++ [nodes[i]] := by unfold grt1; rw [if_neg (by rw [hc15]; decide)]
      refine ⟨(σ3, x3, i + 1), ⟨by simp only; omega, ?_, ?_⟩, by simp only; omega, rfl, by simp [Go.Vm.look, extK]⟩
      · simp only
        rw [hgt, hg1]; exact s3
      · simp only
        rw [hgt, hg1]; exact fun h => by simp at h
  · skip
    replace hc9 := of_decide_eq_false hc9
    refine KC.exit ?_
    refine thenK_x ?_
    refine thenK_x ?_
    refine blockK_e ?_
    refine thenK_n ?_
    refine KC.seq ?_
    refine KC.region ?_
    refine KT.step rfl rfl (K.move rfl) ?_
    refine KT.step rfl rfl (K.assign rfl) ?_
    refine KT.nil ?_
    refine thenK_n ?_
    refine KC.ret ?_
    obtain rfl : i = nodes.length := by omega
    rw [List.take_of_length_le (Nat.le_refl _)] at hS hn
    exact ⟨.inl rfl, _, rfl, stk_fin hS hn⟩
theorem build118_s {n : Nat} {pre post : List (List Int)} {s : List Int} : opBuild Try.prog 118 [(0, .d (sysD n pre post s))] = some (.d (.agg (sysC n pre post s ++ [Dnil, Dnil]))) := by kernel_rfl
/-- The nodes of the coverability tree. -/
def covT (pre post : List (List Int)) (start : List Int) : Option (List (List Int)) := growP (nxN pre post) pre.length 2001 [] [] start
/-- What covered returns. -/
def cvrD (pre post : List (List Int)) (start : List Int) : DV :=
  if validB pre post start then
    match covT pre post start with
    | none => .tup [zsD, Dnil, DI 3]
    | some ns => .tup [sysD start.length pre post start, flV (fun m => w6 (tk m)) (grtL ns), DI 0]
  else .tup [zsD, Dnil, DI 2]
theorem resK_ctt {P : Program} {σ : List VObj} {kn : Kn} {fn : Func} {a t e u id m md : Nat} (cs : List XV) {y z : XV} (hr : fn.results = #[.cell a t, .tmp e, .tmp u]) (hl : Go.Vm.look kn a = some (.optr id 0)) (ho : σ[id]? = some ⟨cs, md⟩) (h2 : md < 2) (ha : isAggT P t = some true) (hs : sizeT P t = some m) (hm : cs.length = m)
    (hy : Go.Vm.look kn e = some y) (hz : Go.Vm.look kn u = some z) : resK P fn σ kn = some (.tup [aggX cs, y, z]) := by
  unfold resK
  rw [hr]
  have e1 : resVarK P σ kn (.cell a t) = some (aggX cs) := by
    simp only [resVarK, hl, Option.bind_some, opLoad, ho]
    rw [if_neg (fun h => h h2)]
    simp only [takeVar, ha, hs, List.drop_zero]
    rw [if_pos (by omega), List.take_of_length_le (by omega)]; rfl
  have e3 : resVarK P σ kn (.tmp e) = some y := hy
  have e4 : resVarK P σ kn (.tmp u) = some z := hz
  simp only [List.mapM_cons, List.mapM_nil, e1, e3, e4]
  rfl
theorem cov_len {pre post : List (List Int)} {start : List Int} {ns : List (List Int)} (h : covT pre post start = some ns) : ∃ l, ns = start :: l := by
  obtain ⟨_, l, e⟩ := growP_nodes _ _ _ _ _ h
  exact ⟨l, by rw [e]; rfl⟩
set_option maxHeartbeats 2000000 in
set_option maxRecDepth 10000 in
theorem covered54 {a b c : DV} {pre post : List (List Int)} {start : List Int} (h : NetD a b c pre post start) : DeepCall Try.prog 54 [.agg [a, b, c]] (cvrD pre post start) := by
  have hN0 := h
  obtain ⟨ha, hb, hc, l1, l2, l3, r1, r2⟩ := h
  refine deepCall_K 9 Try.func54 rfl (Nat.le_of_ble_eq_true rfl) fun M W0 => ?_
  refine KC.seq ?_
  refine KC.region ?_
  refine KT.step rfl rfl (K.box rfl) ?_
  refine KT.step rfl rfl (K.alloc Try.zero66) ?_
  refine KT.step rfl rfl (K.assign rfl) ?_
  refine KT.step rfl rfl (K.assign rfl) ?_
  refine KT.nil ?_
  refine thenK_n ?_
  refine KC.seq ?_
  refine KC.seq ?_
  refine KC.region ?_
  refine KT.step rfl rfl (K.loadOAgg (m := 3) rfl rfl (by simp) Try.agg32 Try.size32 (by simp [cellsX])) ?_
  refine KT.step rfl rfl (K.call1 rfl plainTry_48 (valid48 hN0)) ?_
  refine KT.step rfl rfl (K.not rfl) ?_
  refine KT.nil ?_
  refine thenK_n ?_
  refine KC.cond rfl (fun hc8 => ?_) (fun hc8 => ?_)
  · skip
    refine KC.seq ?_
    refine KC.region ?_
    refine KT.step rfl rfl (K.buildS rfl build66_0) ?_
    refine KT.putAll (cs := ((DI 0 :: Dnil :: Dnil :: w6 fun _ => 0).map .d)) rfl rfl rfl rfl rfl rfl (by simp [zg, w6, sysC, Value.cells]) (by simp [w6, oneX, Value.oneCell']) Try.size66 ?_
    refine KT.step rfl rfl (K.assign rfl) ?_
    refine KT.step rfl rfl (K.assign rfl) ?_
    refine KT.nil ?_
    refine thenK_n ?_
    refine KC.ret ?_
    refine thenK_r ?_
    refine ⟨.inl rfl, _, resK_ctt ((DI 0 :: Dnil :: Dnil :: w6 fun _ => 0).map .d) rfl rfl rfl (by decide) Try.agg66 Try.size66 (by simp [w6]) rfl rfl, ?_⟩
    unfold cvrD
    rw [if_neg (by simpa using hc8)]; rfl
  · skip
    have hv : validB pre post start = true := by simpa using hc8
    have hN := NetOk.of hv
    have hp3 : ∀ r ∈ pre, ∀ x ∈ r, 0 ≤ x ∧ x ≤ 3 := fun r hr => fitsB_mem (allB_mem (validB_iff.1 hv).2.2.2.2.2.2.1 r hr)
    have hq3 : ∀ r ∈ post, ∀ x ∈ r, 0 ≤ x ∧ x ≤ 3 := fun r hr => fitsB_mem (allB_mem (validB_iff.1 hv).2.2.2.2.2.2.2 r hr)
    refine KC.skip ?_
    refine thenK_n ?_
    refine KC.seq ?_
    refine KC.region ?_
    refine KT.step rfl rfl (K.loadOAgg (m := 3) rfl rfl (by simp) Try.agg32 Try.size32 (by simp [cellsX])) ?_
    refine KT.step rfl rfl (K.call1 rfl plainTry_59 (systemOf59 ha hb hc hN.n0 hN.n6 hN.p0 hN.p6 hN.pp hN.rp hN.rq)) ?_
    refine KT.step rfl rfl (K.buildS rfl build118_s) ?_
    refine KT.step rfl rfl (K.alloc Try.zero118) ?_
    refine KT.putAll (cs := (treeC start.length pre post start (.d Dnil) (.d Dnil))) rfl rfl rfl rfl rfl rfl (by simp [zg, w6, treeC, sysC, Value.cells]) (by simp [treeC, sysC, w6, oneX, Value.oneCell']) Try.size118 ?_
    refine KT.nil ?_
    refine thenK_n ?_
    refine KC.seq ?_
    refine KC.seq ?_
    refine KC.regionL ?_
    refine KL.step rfl rfl (K.fieldAddrO rfl Try.fld118_0 Try.size66) ?_
    refine KL.step rfl rfl (K.fieldAddrO rfl Try.fld66_3 Try.size64) ?_
    refine KL.step rfl rfl (K.loadOAgg (m := 6) rfl rfl (by simp) Try.agg64 Try.size64 (by simp [treeC, sysC, w6])) ?_
    refine KL.call (R := _) rfl rfl rfl rfl rfl plainTry_81 (grow81 (s := start) (xn := .d Dnil) (xw := .d Dnil) (nodes := []) (way := []) (m := start) (cid := 2) hN hp3 hq3 2001 ⟨rfl, .nil, fun _ => rfl, .nil, (fun _ h => by cases h), (fun e => by cases e), (fun e => by cases e)⟩ (by simp) (by simp) (Nat.le_refl _) rfl (fun x hx => .inr (by have := start_bd hv x hx; simp only [List.length_nil]; omega)) (fun x hx => by simp at hx)) fun σ1 x1 hR => ?_
    have hRl := hR.1
    have b1 := hR.2.1 1 (by simp) ⟨by decide, (fun e => by cases e), (fun e => by cases e)⟩
    obtain ⟨cb, rfl⟩ := hR.bool
    have hR3 := hR.2.2
    refine KL.step rfl rfl (K.not rfl) ?_
    refine KL.nil ?_
    refine thenK_n ?_
    refine KC.cond rfl (fun hc17 => ?_) (fun hc17 => ?_)
    · skip
      have hcv : covT pre post start = none := by
        cases h9 : covT pre post start with
        | none => rfl
        | some r => unfold covT at h9; rw [h9] at hR3; have h8 := hR3.1; rw [show cb = false by simpa using hc17] at h8; cases h8
      refine KC.seq ?_
      refine KC.region ?_
      refine KT.step rfl rfl (K.buildS rfl build66_0) ?_
      refine KT.putAll (cs := ((DI 0 :: Dnil :: Dnil :: w6 fun _ => 0).map .d)) rfl rfl rfl rfl b1 rfl rfl (by simp [w6, oneX, Value.oneCell']) Try.size66 ?_
      obtain ⟨σ3, hσ3, u1, v1, _⟩ := obj_put b1 ⟨((DI 0 :: Dnil :: Dnil :: w6 fun _ => 0).map .d), 0⟩
      change KT _ _ _ _ (σ1.set 1 _) _ _
      rw [hσ3]
      refine KT.step rfl rfl (K.assign rfl) ?_
      refine KT.step rfl rfl (K.assign rfl) ?_
      refine KT.nil ?_
      refine thenK_n ?_
      refine KC.ret ?_
      refine thenK_r ?_
      refine ⟨.inl rfl, _, resK_ctt ((DI 0 :: Dnil :: Dnil :: w6 fun _ => 0).map .d) rfl rfl u1 (by decide) Try.agg66 Try.size66 (by simp [w6]) rfl rfl, ?_⟩
      unfold cvrD
      rw [if_pos hv, hcv]; rfl
    · skip
      obtain ⟨ns, hcv⟩ : ∃ ns, covT pre post start = some ns := by
        cases h9 : covT pre post start with
        | none => unfold covT at h9; rw [h9] at hR3; rw [show cb = true by simpa using hc17] at hR3; cases hR3
        | some r => exact ⟨r, rfl⟩
      have hcv2 := hcv
      unfold covT at hcv2
      rw [hcv2] at hR3
      obtain ⟨_, xn, xw, hT, _, hnl, hof⟩ := hR3
      have o1 := hof 1 (by simp) ⟨by decide, (fun e => by cases e), (fun e => by cases e)⟩
      refine KC.skip ?_
      refine thenK_n ?_
      refine KC.seq ?_
      obtain ⟨l9, e9⟩ := cov_len hcv
      obtain ⟨i2, rfl, h2⟩ := own_done hT.on (by rw [flatW_len, e9]; simp)
      have hi1 : i2 ≠ 1 := fun e => o1.2.1 (by rw [e]; rfl)
      have hi2 : i2 ≠ 2 := fun e => hT.cn (by rw [e]; rfl)
      have hc2 : (freezeIds σ1 [i2])[2]? = some ⟨treeC start.length pre post start (.osl i2 0 ns.length 6 ns.length false) xw, 0⟩ := (freezeIds_not (by simp; omega)).trans hT.c
      refine KC.ghostC [i2] 3 (id := 2) (i := 9) (ob := ⟨treeC start.length pre post start (.osl i2 0 ns.length 6 ns.length false) xw, 0⟩) (x := .osl i2 0 ns.length 6 ns.length false) (d := flV (fun m => w6 (tk m)) ns) hc2 (by simp) rfl ?_ ?_
      · rw [deepen_osl (freezeIds_in (by simp) h2) rfl (by rw [List.length_map, flatW_len]; omega), List.drop_zero, List.take_of_length_le (by rw [List.length_map, flatW_len]; omega), mapM_deep, e9]; rfl
      have x1 : (freezeIds σ1 [i2])[1]? = some ⟨(DI 0 :: Dnil :: Dnil :: w6 fun _ => 0).map .d, 0⟩ := (freezeIds_not (by simp; omega)).trans b1
      obtain ⟨σ2, hσ2, y2, y1, l2⟩ := obj_put hc2 ⟨(treeC start.length pre post start (.osl i2 0 ns.length 6 ns.length false) xw).set 9 (.d (flV (fun m => w6 (tk m)) ns)), 0⟩
      simp only [hσ2]
      have y1 := (y1 1 (by omega)).trans x1
      refine KC.drawZ (fun j => j = 1) Try.mixed ?_
      refine KTZ.step rfl rfl (K.fieldAddrO rfl Try.fld118_0 Try.size66) ?_
      refine KTZ.load rfl rfl rfl (by simp) (K.loadOAgg (m := 9) rfl y2 (by simp) Try.agg66 Try.size66 (by simp [treeC, sysC, w6])) ?_
      simp only
      refine KTZ.step rfl rfl (K.fieldAddrO rfl Try.fld118_1 Try.size62) ?_
      refine KTZ.load rfl rfl rfl (by simp) (K.loadO (y := .d (flV (fun m => w6 (tk m)) ns)) rfl y2 (by simp) rfl Try.agg62) ?_
      refine KTZ.step rfl rfl (K.call1 rfl plainTry_82 (greatest82 hnl)) ?_
      refine KTZ.putAll (cs := ((sysC start.length pre post start).map .d)) rfl rfl rfl rfl rfl y1 rfl (by simp [sysC, w6]) (by simp [sysC, w6, oneX, Value.oneCell']) Try.size66 ?_
      obtain ⟨σ3, hσ3, u1, v1, _⟩ := obj_put y1 ⟨((sysC start.length pre post start).map .d), 0⟩
      rw [hσ3]
      refine KTZ.step rfl rfl (K.assign rfl) ?_
      refine KTZ.step rfl rfl (K.assign rfl) ?_
      refine KTZ.nil ?_
      refine ⟨by kernel_rfl, ?_⟩
      refine thenK_n ?_
      refine KC.ret ?_
      refine ⟨.inl rfl, _, resK_ctt ((sysC start.length pre post start).map .d) rfl rfl u1 (by decide) Try.agg66 Try.size66 (by simp [sysC, w6]) rfl rfl, ?_⟩
      unfold cvrD
      rw [if_pos hv, hcv]; rfl
end Go.Proofs.Ytocgjopmlhpjdaa

