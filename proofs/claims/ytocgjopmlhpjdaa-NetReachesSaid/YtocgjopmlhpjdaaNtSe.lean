import Derived.Test.YtocgjopmlhpjdaaNtSd
/-
  Nets: Reach, Dead of the reference.
-/
namespace Go.Proofs.Ytocgjopmlhpjdaa
open Go.Vm Go.RowKit Go.Nt Go.Ht
theorem plainTry_14 : plainFn Try.prog 14 = true := by kernel_rfl
theorem plainTry_16 : plainFn Try.prog 16 = true := by kernel_rfl
def sortP (l : List (DV × List Int)) : List (DV × List Int) := l.foldl putP []
theorem sortP_take {l : List (DV × List Int)} {i : Nat} (h : i < l.length) : sortP (l.take (i + 1)) = putP (sortP (l.take i)) l[i] := by
  unfold sortP
  rw [List.take_add_one, List.getElem?_eq_getElem h, Option.toList_some, List.foldl_append]; rfl
theorem sortP_snd (l : List (DV × List Int)) : (sortP l).map (·.2) = sortM (l.map (·.2)) := by
  unfold sortP sortM
  have : ∀ (l acc : List (DV × List Int)), (l.foldl putP acc).map (·.2) = (l.map (·.2)).foldl putM (acc.map (·.2)) := by
    intro l
    induction l with
    | nil => intro acc; rfl
    | cons q l ih => intro acc; rw [List.foldl_cons, ih, putP_snd, List.map_cons, List.foldl_cons]
  exact this l []
theorem sortP_mem {l : List (DV × List Int)} {x : DV × List Int} (h : x ∈ sortP l) : x ∈ l := by
  have : ∀ (l acc : List (DV × List Int)), x ∈ l.foldl putP acc → x ∈ acc ∨ x ∈ l := by
    intro l
    induction l with
    | nil => intro acc h; exact .inl h
    | cons m l ih =>
      intro acc h
      rcases ih _ h with h | h
      · rcases putP_mem h with rfl | h
        · exact .inr List.mem_cons_self
        · exact .inl h
      · exact .inr (List.mem_cons_of_mem _ h)
  rcases this l [] h with h | h
  · simp at h
  · exact h
theorem putP_len : ∀ (l : List (DV × List Int)) (q : DV × List Int), (putP l q).length ≤ l.length + 1
  | [], q => by simp [putP]
  | x :: l, q => by
    rw [putP]
    have := putP_len l q
    split
    · simp; omega
    · split <;> simp
theorem sortP_len (l : List (DV × List Int)) : (sortP l).length ≤ l.length := by
  have : ∀ (l acc : List (DV × List Int)), (l.foldl putP acc).length ≤ acc.length + l.length := by
    intro l
    induction l with
    | nil => intro acc; simp
    | cons m l ih => intro acc; have h1 := ih (putP acc m); have h2 := putP_len acc m; simp only [List.foldl_cons, List.length_cons]; omega
  have := this l []
  simpa [sortP] using this
/-- The markings of the reference, rising. -/
def sL (pre post : List (List Int)) (c : DV) (start : List Int) : List (DV × List Int) :=
  match xOf pre post start with | none => [] | some fs => sortP ((mkV c fs).zip (marks fs))
def rrchD (pre post : List (List Int)) (c : DV) (start : List Int) : DV := .tup [slOf ((sL pre post c start).map (·.1)), DI (xE pre post start)]
theorem pairs_ok {pre post : List (List Int)} {c : DV} {start : List Int} {fs : List Ent} (hc : Ints c start) (hv : validB pre post start = true) (h : reachE (nxN pre post) pre.length 2000 start = some fs) :
    PairsOk start.length ((mkV c fs).zip (marks fs)) ∧ ((mkV c fs).zip (marks fs)).length = fs.length ∧ fs.length ≤ 2000 ∧ ((mkV c fs).zip (marks fs)).map (·.2) = marks fs := by
  have hD := done_of hv h
  obtain ⟨hlen, _⟩ := inv_bnd hD.toInvE (by have := hD.le; omega)
  have hN := NetOk.of hv
  have hl : ((mkV c fs).zip (marks fs)).length = fs.length := by rw [List.length_zip, mkV_len, marks_len, Nat.min_self]
  refine ⟨fun p hp => ?_, hl, hD.le, ?_⟩
  · obtain ⟨i, hi, rfl⟩ := List.getElem_of_mem hp
    have hif : i < fs.length := by omega
    obtain ⟨d, h1, h2⟩ := mkV_get hc (marks_get hD.hd) (fun x hx => by rw [hlen x hx]; exact hN.n0) hif
    have him : i < (marks fs).length := by rw [marks_len]; exact hif
    have e : mrk fs i = (marks fs)[i] := by unfold mrk; rw [List.getD_eq_getElem?_getD, List.getElem?_eq_getElem him]; rfl
    rw [List.getElem_zip]
    rw [List.getElem?_eq_getElem (by rw [mkV_len]; exact hif)] at h1
    simp only [Option.some.injEq] at h1
    rw [e] at h2
    simp only
    rw [h1]
    exact ⟨h2, hlen _ (List.getElem_mem him)⟩
  · exact List.map_snd_zip (by rw [mkV_len, marks_len]; exact Nat.le_refl _)
theorem sL_ok {pre post : List (List Int)} {c : DV} {start : List Int} (hc : Ints c start) {p : DV × List Int} (hp : p ∈ sL pre post c start) : validB pre post start = true ∧ Ints p.1 p.2 ∧ p.2.length = start.length := by
  unfold sL at hp
  cases h : xOf pre post start with
  | none => rw [h] at hp; cases hp
  | some fs =>
    rw [h] at hp
    obtain ⟨hv, hre, _, _⟩ := xOf_yes h
    exact ⟨hv, (pairs_ok hc hv hre).1 p (sortP_mem hp)⟩
theorem sL_len {pre post : List (List Int)} {c : DV} {start : List Int} (hc : Ints c start) : (sL pre post c start).length ≤ 2000 := by
  unfold sL
  cases h : xOf pre post start with
  | none => simp
  | some fs =>
    obtain ⟨hv, hre, _, _⟩ := xOf_yes h
    have h1 := pairs_ok hc hv hre
    have h2 := sortP_len ((mkV c fs).zip (marks fs))
    simp only
    omega
theorem fin_ownS {σ : List VObj} {x : XV} {ds : List DV} {k : Nat} (h : OwnK 1 σ x (ds.map .d)) (hn : ds = [] → x = .d Dnil) : deepen (freezeAll σ) (k + 2) x = some (slOf ds) := by
  by_cases h0 : ds = []
  · rw [hn h0, h0]; rfl
  · generalize hc : ds.map XV.d = cells at h
    cases h with
    | nil => exact absurd (List.map_eq_nil_iff.1 hc) h0
    | @sl id n _ hs hl =>
      subst hc
      rw [List.length_map] at hl
      rw [slOf_ne h0, deepen_cells (fz_get hs) rfl (by omega), show n = ds.length by omega]; rfl
set_option maxHeartbeats 4000000 in
set_option maxRecDepth 10000 in
theorem rReach14 {a b c : DV} {pre post : List (List Int)} {start : List Int} (h : NetD a b c pre post start) : DeepCall Try.prog 14 [.agg [a, b, c]] (rrchD pre post c start) := by
  have hN0 := h
  obtain ⟨ha, hb, hc, l1, l2, l3, r1, r2⟩ := h
  refine deepCall_K 9 Try.func14 rfl (Nat.le_of_ble_eq_true rfl) fun M W0 => ?_
  refine KC.seq ?_
  refine KC.region ?_
  refine KT.step rfl rfl (K.box rfl) ?_
  refine KT.step rfl rfl (K.assign rfl) ?_
  refine KT.step rfl rfl (K.assign rfl) ?_
  refine KT.nil ?_
  refine thenK_n ?_
  refine KC.seq ?_
  refine KC.seq ?_
  refine KC.region ?_
  refine KT.step rfl rfl (K.loadOA [a, b, c] rfl rfl (by decide) Try.agg25 Try.size25 rfl) ?_
  refine KT.step rfl rfl (K.call1 rfl plainTry_31 (rvalid31 hN0)) ?_
  refine KT.step rfl rfl (K.not rfl) ?_
  refine KT.nil ?_
  refine thenK_n ?_
  refine KC.cond rfl (fun hc11 => ?_) (fun hc11 => ?_)
  · skip
    refine KC.seq ?_
    refine KC.region ?_
    refine KT.step rfl rfl (K.assign rfl) ?_
    refine KT.step rfl rfl (K.assign rfl) ?_
    refine KT.nil ?_
    refine thenK_n ?_
    refine KC.ret ?_
    refine thenK_r ?_
    refine ⟨.inl rfl, _, rfl, ?_⟩
    have hv : ¬ validB pre post start = true := by intro h; rw [h] at hc11; simp at hc11
    have e1 : xOf pre post start = none := by unfold xOf; rw [if_neg hv]
    have e2 : xE pre post start = 2 := by unfold xE; rw [if_neg hv]
    unfold rrchD sL
    rw [e1, e2]; rfl
  · skip
    have hv : validB pre post start = true := by simpa using hc11
    have hN := NetOk.of hv
    have hp3 : ∀ r ∈ pre, ∀ x ∈ r, 0 ≤ x ∧ x ≤ 3 := fun r hr => fitsB_mem (allB_mem (validB_iff.1 hv).2.2.2.2.2.2.1 r hr)
    have hq3 : ∀ r ∈ post, ∀ x ∈ r, 0 ≤ x ∧ x ≤ 3 := fun r hr => fitsB_mem (allB_mem (validB_iff.1 hv).2.2.2.2.2.2.2 r hr)
    refine KC.skip ?_
    refine thenK_n ?_
    refine KC.seq ?_
    refine KC.regionL ?_
    refine KL.step rfl rfl (K.loadOA [a, b, c] rfl rfl (by decide) Try.agg25 Try.size25 rfl) ?_
    rcases hre : reachE (nxN pre post) pre.length 2000 start with _ | fs
    · skip
      refine KL.call (R := _) rfl rfl rfl rfl rfl plainTry_43 (reach43 (σ := [⟨[.d a, .d b, .d c], 0⟩]) ha hb hc hN rfl (start_bd hv) hp3 hq3) fun σ1 x1 hR => ?_
      unfold RchQ at hR
      rw [hre] at hR
      simp only at hR
      subst hR
      refine KL.step rfl rfl (K.move rfl) ?_
      refine KL.step rfl rfl (K.extractY rfl rfl) ?_
      refine KL.step rfl rfl (K.extractY rfl rfl) ?_
      refine KL.step rfl rfl (K.assign rfl) ?_
      refine KL.step rfl rfl (K.assign rfl) ?_
      refine KL.nil ?_
      refine thenK_n ?_
      refine KC.seq ?_
      refine KC.seq ?_
      refine KC.region ?_
      refine KT.step rfl rfl (K.move rfl) ?_
      refine KT.step rfl rfl (K.neq rfl rfl) ?_
      refine KT.nil ?_
      refine thenK_n ?_
      refine KC.cond rfl (fun hc18 => ?_) (fun hc18 => ?_)
      · skip
        replace hc18 := of_decide_eq_true hc18
        refine KC.seq ?_
        refine KC.region ?_
        refine KT.step rfl rfl (K.move rfl) ?_
        refine KT.step rfl rfl (K.assign rfl) ?_
        refine KT.step rfl rfl (K.assign rfl) ?_
        refine KT.nil ?_
        refine thenK_n ?_
        refine KC.ret ?_
        refine thenK_r ?_
        refine ⟨.inl rfl, _, rfl, ?_⟩
        have e1 : xOf pre post start = none := by unfold xOf; rw [if_pos hv, hre]
        have e2 : xE pre post start = 3 := by unfold xE; rw [if_pos hv, hre]
        unfold rrchD sL
        rw [e1, e2]; rfl
      · skip
        exact absurd hc18 (by decide)
    · skip
      refine KL.call (R := _) rfl rfl rfl rfl rfl plainTry_43 (reach43 (σ := [⟨[.d a, .d b, .d c], 0⟩]) ha hb hc hN rfl (start_bd hv) hp3 hq3) fun σ1 x1 hR => ?_
      unfold RchQ at hR
      rw [hre] at hR
      obtain ⟨gid, xm, xw, xr, rfl, hg, hF, hout, hgl, hog⟩ := hR
      have hD := done_of hv hre
      have hpos := obj_ltE hD.hd
      obtain ⟨hpk, hpl, hle, _⟩ := pairs_ok hc hv hre
      obtain ⟨mid, exm, rfl, hmid⟩ := OwnL.is (k := 1) (x := xm) (cells := (mkV c fs).map .d) hF.un4.1 (n := fs.length) (by rw [List.length_map, mkV_len, Nat.mul_one]) (by decide) hpos
      refine KL.step rfl rfl (K.move rfl) ?_
      refine KL.step rfl rfl (K.extractY rfl rfl) ?_
      refine KL.step rfl rfl (K.extractY rfl rfl) ?_
      refine KL.step rfl rfl (K.assign rfl) ?_
      refine KL.step rfl rfl (K.assign rfl) ?_
      refine KL.nil ?_
      refine thenK_n ?_
      refine KC.seq ?_
      refine KC.seq ?_
      refine KC.region ?_
      refine KT.step rfl rfl (K.move rfl) ?_
      refine KT.step rfl rfl (K.neq rfl rfl) ?_
      refine KT.nil ?_
      refine thenK_n ?_
      refine KC.cond rfl (fun hc18 => ?_) (fun hc18 => ?_)
      · skip
        exact absurd hc18 (by decide)
      · skip
        replace hc18 := of_decide_eq_false hc18
        refine KC.skip ?_
        refine thenK_n ?_
        refine KC.seq ?_
        refine KC.region ?_
        refine KT.step rfl rfl (K.assign rfl) ?_
        refine KT.nil ?_
        refine thenK_n ?_
        refine KC.seq ?_
        refine KC.seq ?_
        refine KC.region ?_
        refine KT.step rfl rfl (K.move rfl) ?_
        refine KT.step rfl rfl (K.nilCheckO rfl) ?_
        refine KT.step rfl rfl (K.fieldAddrO rfl Try.fld80_0 Try.size22) ?_
        refine KT.step rfl rfl (K.loadO rfl hg (by simp) rfl Try.agg22) ?_
        refine KT.step rfl rfl (K.lenO rfl Try.underlying22) ?_
        refine KT.step rfl rfl (K.move rfl) ?_
        refine KT.nil ?_
        refine thenK_n ?_
        refine KC.block ?_
        refine KC.loop (fun _ : Nat => σ1) (fun i => [(6, .d (slOf ((sortP (((mkV c fs).zip (marks fs)).take i)).map (·.1)))), (23, .osl mid 0 fs.length 1 fs.length exm), (24, .d (DI (fs.length : Nat))), (25, .d (DI (i : Nat)))]) (fun i => i ≤ fs.length) (fun i => fs.length - i) 0 (Nat.zero_le _) rfl (by simp [Go.Vm.look, extK, enterK, sortP, slOf]) ?_
        intro i hi
        refine KC.seq ?_
        refine KC.region ?_
        refine KT.step rfl rfl (K.lss rfl rfl) ?_
        refine KT.nil ?_
        refine thenK_n ?_
        refine KC.seq ?_
        refine KC.cond rfl (fun hc26 => ?_) (fun hc26 => ?_)
        · skip
          replace hc26 := of_decide_eq_true hc26
          have hil : i < fs.length := by omega
          have hip : i < ((mkV c fs).zip (marks fs)).length := by omega
          refine KC.skip ?_
          refine thenK_n ?_
          refine KC.seq ?_
          refine KC.block ?_
          refine KC.seq ?_
          refine KC.region ?_
          refine KT.step rfl rfl (K.idxO (m := i) rfl rfl hil Try.underlying22 Try.size23) ?_
          refine KT.step rfl rfl (K.loadO (y := .d ((mkV c fs).zip (marks fs))[i].1) rfl hmid (by simp) (by rw [Nat.zero_add, List.getElem?_map, List.getElem_zip, List.getElem?_eq_getElem (by rw [mkV_len]; exact hil)]; rfl) Try.agg23) ?_
          refine KT.step rfl rfl (K.assign rfl) ?_
          refine KT.nil ?_
          refine thenK_n ?_
          refine KC.region ?_
          refine KT.step rfl rfl (K.move rfl) ?_
          refine KT.step rfl rfl (K.move rfl) ?_
          refine KT.step rfl rfl (K.call2 rfl rfl plainTry_44 (put44 (n := start.length) (fun p hp => hpk p (List.mem_of_mem_take (sortP_mem hp))) (q := ((mkV c fs).zip (marks fs))[i]) (hpk _ (List.getElem_mem hip)) (by have := hN.n6; omega) (by have := sortP_len (((mkV c fs).zip (marks fs)).take i); rw [List.length_take] at this; omega))) ?_
          refine KT.step rfl rfl (K.assign rfl) ?_
          refine KT.nil ?_
          refine blockK_n ?_
          refine thenK_n ?_
          refine KC.region ?_
          refine KT.step rfl rfl (K.add rfl rfl (wrap_id (by omega))) ?_
          refine KT.step rfl rfl (K.move rfl) ?_
          refine KT.nil ?_
          refine thenK_n ?_
          refine ⟨i + 1, by omega, by omega, rfl, ?_⟩
          rw [sortP_take hip]
          simp [Go.Vm.look, extK]
        · skip
          replace hc26 := of_decide_eq_false hc26
          refine KC.exit ?_
          refine thenK_x ?_
          refine thenK_x ?_
          refine blockK_e ?_
          refine thenK_n ?_
          refine KC.seq ?_
          refine KC.region ?_
          refine KT.step rfl rfl (K.move rfl) ?_
          refine KT.step rfl rfl (K.assign rfl) ?_
          refine KT.step rfl rfl (K.assign rfl) ?_
          refine KT.nil ?_
          refine thenK_n ?_
          refine KC.ret ?_
          obtain rfl : i = fs.length := by omega
          refine ⟨.inl rfl, _, rfl, ?_⟩
          have e1 : xOf pre post start = some fs := by unfold xOf; rw [if_pos hv, hre]
          have e2 : xE pre post start = 0 := by unfold xE; rw [if_pos hv, hre]
          unfold rrchD sL
          rw [e1, e2]
          simp only
          rw [List.take_of_length_le (show ((mkV c fs).zip (marks fs)).length ≤ fs.length by omega)]; rfl
theorem stop_all {pre post : List (List Int)} {m : List Int} : stopB pre post m = (List.range pre.length).all fun u => !withinB (pre.getD u []) m := by
  have h : stopB pre post m = true ↔ ((List.range pre.length).all fun u => !withinB (pre.getD u []) m) = true := by
    unfold stopB
    rw [List.isEmpty_iff, List.all_eq_true]
    constructor
    · intro h u hu
      have hlt := List.mem_range.1 hu
      cases e : nxN pre post m u with
      | none =>
        have := (nxN_none (pre := pre) (post := post) hlt).1 e
        rw [List.getD_eq_getElem?_getD, List.getElem?_eq_getElem hlt, Option.getD_some, this]; rfl
      | some x =>
        have : (u, x) ∈ enL (nxN pre post) m pre.length := enL_mem.2 ⟨hlt, e⟩
        rw [h] at this; cases this
    · intro h
      refine List.eq_nil_iff_forall_not_mem.2 fun p hp => ?_
      obtain ⟨h1, h2⟩ := enL_mem.1 hp
      have h3 := h p.1 (List.mem_range.2 h1)
      have : nxN pre post m p.1 = none := (nxN_none (pre := pre) (post := post) h1).2 (by rw [List.getD_eq_getElem?_getD, List.getElem?_eq_getElem h1, Option.getD_some] at h3; simpa using h3)
      rw [this] at h2; cases h2
  exact Bool.eq_iff_iff.2 h
def rdedD (pre post : List (List Int)) (c : DV) (start : List Int) : DV := .tup [slOf (((sL pre post c start).filter fun p => stopB pre post p.2).map (·.1)), DI (xE pre post start)]
theorem filt_succ {α : Type} {p : α → Bool} {l : List α} {i : Nat} (h : i < l.length) : (l.take (i + 1)).filter p = if p l[i] then (l.take i).filter p ++ [l[i]] else (l.take i).filter p := by
  rw [List.take_add_one, List.getElem?_eq_getElem h, Option.toList_some, List.filter_append]
  by_cases hp : p l[i] = true
  · rw [if_pos hp, List.filter_cons_of_pos hp]; rfl
  · rw [if_neg hp, List.filter_cons_of_neg hp, List.filter_nil, List.append_nil]
theorem filt_len {α : Type} (p : α → Bool) (l : List α) (i : Nat) : ((l.take i).filter p).length ≤ l.length := Nat.le_trans (List.length_filter_le _ _) (by rw [List.length_take]; omega)
theorem range_all {p : Nat → Bool} {t : Nat} : (List.range (t + 1)).all p = ((List.range t).all p && p t) := by rw [List.range_succ, List.all_append]; simp
set_option maxHeartbeats 2000000 in
set_option maxRecDepth 10000 in
theorem rDead16 {a b c : DV} {pre post : List (List Int)} {start : List Int} (h : NetD a b c pre post start) : DeepCall Try.prog 16 [.agg [a, b, c]] (rdedD pre post c start) := by
  have hN0 := h
  obtain ⟨ha, hb, hc, l1, l2, l3, r1, r2⟩ := h
  obtain ⟨ps, hps⟩ : ∃ ps, ps = sL pre post c start := ⟨_, rfl⟩
  have hok : ∀ p ∈ ps, validB pre post start = true ∧ Ints p.1 p.2 ∧ p.2.length = start.length := fun p hp => sL_ok hc (by rw [← hps]; exact hp)
  have hpl : ps.length ≤ 2000 := by rw [hps]; exact sL_len hc
  obtain ⟨cs, hcs⟩ : ∃ cs, cs = ps.map (·.1) := ⟨_, rfl⟩
  have hcl : cs.length = ps.length := by rw [hcs, List.length_map]
  have hsc := slOf_slc cs
  have hrr : rrchD pre post c start = .tup [slOf cs, DI (xE pre post start)] := by unfold rrchD; rw [← hps, ← hcs]
  refine deepCall_K 9 Try.func16 rfl (Nat.le_of_ble_eq_true rfl) fun M W0 => ?_
  refine KC.seq ?_
  refine KC.region ?_
  refine KT.step rfl rfl (K.box rfl) ?_
  refine KT.step rfl rfl (K.assign rfl) ?_
  refine KT.step rfl rfl (K.assign rfl) ?_
  refine KT.nil ?_
  refine thenK_n ?_
  refine KC.seq ?_
  refine KC.region ?_
  refine KT.step rfl rfl (K.loadOA [a, b, c] rfl rfl (by decide) Try.agg25 Try.size25 rfl) ?_
  refine KT.step rfl rfl (K.call1 rfl plainTry_14 (rReach14 hN0)) ?_
  rw [hrr]
  refine KT.step rfl rfl (K.move rfl) ?_
  refine KT.step rfl rfl (K.extract rfl rfl) ?_
  refine KT.step rfl rfl (K.extract rfl rfl) ?_
  refine KT.step rfl rfl (K.assign rfl) ?_
  refine KT.step rfl rfl (K.assign rfl) ?_
  refine KT.nil ?_
  refine thenK_n ?_
  refine KC.seq ?_
  refine KC.region ?_
  refine KT.step rfl rfl (K.assign rfl) ?_
  refine KT.nil ?_
  refine thenK_n ?_
  refine KC.seq ?_
  refine KC.seq ?_
  refine KC.region ?_
  refine KT.step rfl rfl (K.move rfl) ?_
  refine KT.step rfl rfl (K.len (l := cs) rfl (slc_vec hsc) Try.underlying22) ?_
  refine KT.step rfl rfl (K.move rfl) ?_
  refine KT.nil ?_
  refine thenK_n ?_
  refine KC.block ?_
  refine KC.loop (fun q : List VObj × XV × Nat => q.1) (fun q => [(1, .optr 0 0), (5, .d (DI (xE pre post start))), (6, q.2.1), (16, .d (slOf cs)), (17, .d (DI (cs.length : Nat))), (18, .d (DI (q.2.2 : Nat)))]) (fun q => q.2.2 ≤ ps.length ∧ q.1[0]? = some ⟨[.d a, .d b, .d c], 0⟩ ∧ OwnK 1 q.1 q.2.1 ((((ps.take q.2.2).filter (fun p : DV × List Int => stopB pre post p.2)).map (·.1)).map .d) ∧ idX q.2.1 ≠ some 0 ∧ (((ps.take q.2.2).filter (fun p : DV × List Int => stopB pre post p.2)) = [] → q.2.1 = .d Dnil)) (fun q => ps.length - q.2.2) (_, .d Dnil, 0) ⟨Nat.zero_le _, rfl, .nil, by simp [idX], fun _ => rfl⟩ rfl (by simp [Go.Vm.look, extK, enterK]) ?_
  intro q hq
  obtain ⟨σ0, x, i⟩ := q
  obtain ⟨hi, h0, own, hx0, hnil⟩ := hq
  simp only at hi h0 own hx0 hnil ⊢
  refine KC.seq ?_
  refine KC.region ?_
  refine KT.step rfl rfl (K.lss rfl rfl) ?_
  refine KT.nil ?_
  refine thenK_n ?_
  refine KC.seq ?_
  refine KC.cond rfl (fun hc19 => ?_) (fun hc19 => ?_)
  · skip
    replace hc19 := of_decide_eq_true hc19
    have hip : i < ps.length := by omega
    have hic : i < cs.length := by omega
    have hci : cs[i] = ps[i].1 := by simp only [hcs, List.getElem_map]
    have hsl : slOf cs = .sl cs cs.length none := slOf_ne (by intro h; rw [h] at hic; simp at hic)
    obtain ⟨hv, hqi⟩ := hok _ (List.getElem_mem hip)
    have hNo := NetOk.of hv
    have hn6 := hNo.n6
    refine KC.skip ?_
    refine thenK_n ?_
    refine KC.seq ?_
    refine KC.block ?_
    refine KC.seq ?_
    refine KC.region ?_
    rw [hsl]
    refine KT.step rfl rfl (K.idxDK (k := 1) (m := i) rfl rfl hic Try.underlying22 Try.size23) ?_
    rw [Nat.mul_one, List.drop_eq_getElem_cons hic, hci]
    refine KT.step rfl rfl (K.load rfl Try.agg23) ?_
    refine KT.step rfl rfl (K.assign rfl) ?_
    refine KT.nil ?_
    refine thenK_n ?_
    refine KC.seq ?_
    refine KC.region ?_
    refine KT.step rfl rfl (K.assign rfl) ?_
    refine KT.nil ?_
    refine thenK_n ?_
    refine KC.seq ?_
    refine KC.seq ?_
    refine KC.region ?_
    refine KT.step rfl rfl (K.fieldAddrO rfl Try.fld25_0 Try.size22) ?_
    refine KT.step rfl rfl (K.loadO (y := .d a) rfl h0 (by simp) rfl Try.agg22) ?_
    refine KT.step rfl rfl (K.len rfl ha Try.underlying22) ?_
    refine KT.step rfl rfl (K.move rfl) ?_
    refine KT.nil ?_
    refine thenK_n ?_
    refine KC.block ?_
    refine KC.loop (fun _ : Nat => σ0) (fun t => [(1, .optr 0 0), (5, .d (DI (xE pre post start))), (6, x), (8, .d ps[i].1), (9, .d (DB ((List.range t).all fun u => !withinB (pre.getD u []) ps[i].2))), (16, .d (.sl cs cs.length none)), (17, .d (DI (cs.length : Nat))), (18, .d (DI (i : Nat))), (24, .d (DI (pre.length : Nat))), (25, .d (DI (t : Nat)))]) (fun t => t ≤ pre.length) (fun t => pre.length - t) 0 (Nat.zero_le _) rfl (by simp [Go.Vm.look, extK, enterK]) ?_
    intro t ht
    refine KC.seq ?_
    refine KC.region ?_
    refine KT.step rfl rfl (K.lss rfl rfl) ?_
    refine KT.nil ?_
    refine thenK_n ?_
    refine KC.seq ?_
    refine KC.cond rfl (fun hc26 => ?_) (fun hc26 => ?_)
    · skip
      replace hc26 := of_decide_eq_true hc26
      have htl : t < pre.length := by omega
      have hpr := hNo.rp _ (List.getElem_mem htl)
      refine KC.skip ?_
      refine thenK_n ?_
      refine KC.seq ?_
      refine KC.block ?_
      refine KC.seq ?_
      refine KC.region ?_
      refine KT.step rfl rfl (K.move rfl) ?_
      refine KT.step rfl rfl (K.assign rfl) ?_
      refine KT.nil ?_
      refine thenK_n ?_
      refine KC.region ?_
      refine KT.step rfl rfl (K.move rfl) ?_
      refine KT.step rfl rfl (K.move rfl) ?_
      refine KT.bcase (fun hb29 => ?_) (fun hb29 => ?_)
      · skip
        refine KT.step rfl rfl (K.fieldAddrO rfl Try.fld25_0 Try.size22) ?_
        refine KT.step rfl rfl (K.loadO (y := .d a) rfl h0 (by simp) rfl Try.agg22) ?_
        refine KT.step rfl rfl (K.move rfl) ?_
        refine KT.idx rfl rfl rfl (by assumption) rfl (by omega) Try.underlying22 Try.size23 fun c33 cs33 hq33 => ?_
        refine KT.step rfl rfl (K.load rfl Try.agg23) ?_
        refine KT.step rfl rfl (K.move rfl) ?_
        refine KT.step rfl rfl (K.call2 rfl rfl plainTry_46 (within46 hq33 hqi.1 (by rw [hpr, hqi.2]; exact Nat.le_refl _) (by rw [hpr]; omega))) ?_
        refine KT.step rfl rfl (K.not rfl) ?_
        refine KT.step rfl rfl (K.pick rfl (fun _ => rfl) (fun h => by cases h)) ?_
        refine KT.step rfl rfl (K.assign rfl) ?_
        refine KT.nil ?_
        refine blockK_n ?_
        refine thenK_n ?_
        refine KC.region ?_
        refine KT.step rfl rfl (K.add rfl rfl (wrap_id (by omega))) ?_
        refine KT.step rfl rfl (K.move rfl) ?_
        refine KT.nil ?_
        refine thenK_n ?_
        refine ⟨t + 1, by omega, by omega, rfl, ?_⟩
        rw [range_all, hb29]
        simp [Go.Vm.look, extK, List.getElem?_eq_getElem htl]
      · skip
        refine KT.skip rfl rfl ?_
        refine KT.skip rfl rfl ?_
        refine KT.skip rfl rfl ?_
        refine KT.skip rfl rfl ?_
        refine KT.skip rfl rfl ?_
        refine KT.skip rfl rfl ?_
        refine KT.skip rfl rfl ?_
        refine KT.skip rfl rfl ?_
        refine KT.step rfl rfl (K.pick rfl (fun h => by cases h) (fun _ => rfl)) ?_
        refine KT.step rfl rfl (K.assign rfl) ?_
        refine KT.nil ?_
        refine blockK_n ?_
        refine thenK_n ?_
        refine KC.region ?_
        refine KT.step rfl rfl (K.add rfl rfl (wrap_id (by omega))) ?_
        refine KT.step rfl rfl (K.move rfl) ?_
        refine KT.nil ?_
        refine thenK_n ?_
        refine ⟨t + 1, by omega, by omega, rfl, ?_⟩
        rw [range_all, hb29]
        simp [Go.Vm.look, extK, List.getElem?_eq_getElem htl]
    · skip
      replace hc26 := of_decide_eq_false hc26
      refine KC.exit ?_
      refine thenK_x ?_
      refine thenK_x ?_
      refine blockK_e ?_
      refine thenK_n ?_
      refine KC.seq ?_
      refine KC.region ?_
      refine KT.step rfl rfl (K.move rfl) ?_
      refine KT.nil ?_
      refine thenK_n ?_
      refine KC.cond rfl (fun hc40 => ?_) (fun hc40 => ?_)
      · skip
        obtain rfl : t = pre.length := by omega
        have hst : stopB pre post ps[i].2 = true := by rw [stop_all]; exact hc40
        refine KC.region ?_
        refine KT.step rfl rfl (K.move rfl) ?_
        refine KT.step rfl rfl (K.move rfl) ?_
        refine KT.step rfl rfl (K.buildC (k := 1) (cs := [.d ps[i].1]) rfl (SlD.of hqi.1).cells rfl Try.underlying22 Try.size23 Try.one23.zero (by decide)) ?_
        refine KT.appK (k := 1) rfl rfl rfl rfl (own.pushed _) (List.getElem?_concat_length ..) rfl (by simp [(SlD.of hqi.1).one]) (by rw [List.length_map, List.length_map]; have := filt_len (fun p : DV × List Int => stopB pre post p.2) ps i; omega) Try.underlying22 Try.size23 (of_decide_eq_true (by kernel_rfl)) (by kernel_rfl) (by decide) fun σ3 x3 o3 k3 w3 => ?_
        obtain ⟨j3, w31, w32⟩ := w3
        have hlt0 := obj_lt h0
        have g03 := (k3 0 hx0 (by rw [List.length_append]; omega)).trans (obj_left h0)
        refine KT.step rfl rfl (K.assign rfl) ?_
        refine KT.nil ?_
        refine blockK_n ?_
        refine thenK_n ?_
        refine KC.region ?_
        refine KT.step rfl rfl (K.add rfl rfl (wrap_id (by omega))) ?_
        refine KT.step rfl rfl (K.move rfl) ?_
        refine KT.nil ?_
        refine thenK_n ?_
        refine ⟨(σ3, x3, i + 1), ⟨by simp only; omega, g03, ?_, by rw [w31]; intro h; cases h; rw [List.length_append] at w32; omega, ?_⟩, by simp only; omega, rfl, by simp [Go.Vm.look, extK, hsl]⟩
        · simp only
          rw [filt_succ hip, if_pos hst, List.map_append, List.map_append]; exact o3
        · simp only
          rw [filt_succ hip, if_pos hst]; simp
      · skip
        obtain rfl : t = pre.length := by omega
        have hst : ¬ stopB pre post ps[i].2 = true := by rw [stop_all, hc40]; simp
        refine KC.skip ?_
        refine blockK_n ?_
        refine thenK_n ?_
        refine KC.region ?_
        refine KT.step rfl rfl (K.add rfl rfl (wrap_id (by omega))) ?_
        refine KT.step rfl rfl (K.move rfl) ?_
        refine KT.nil ?_
        refine thenK_n ?_
        refine ⟨(σ0, x, i + 1), ⟨by simp only; omega, h0, ?_, hx0, ?_⟩, by simp only; omega, rfl, by simp [Go.Vm.look, extK, hsl]⟩
        · simp only
          rw [filt_succ hip, if_neg hst]; exact own
        · simp only
          rw [filt_succ hip, if_neg hst]; exact hnil
  · skip
    replace hc19 := of_decide_eq_false hc19
    refine KC.exit ?_
    refine thenK_x ?_
    refine thenK_x ?_
    refine blockK_e ?_
    refine thenK_n ?_
    refine KC.seq ?_
    refine KC.region ?_
    refine KT.step rfl rfl (K.move rfl) ?_
    refine KT.step rfl rfl (K.move rfl) ?_
    refine KT.step rfl rfl (K.assign rfl) ?_
    refine KT.step rfl rfl (K.assign rfl) ?_
    refine KT.nil ?_
    refine thenK_n ?_
    refine KC.ret ?_
    obtain rfl : i = ps.length := by omega
    refine ⟨.inl rfl, _, rfl, ?_⟩
    unfold rdedD
    rw [← hps]
    rw [List.take_of_length_le (Nat.le_refl _)] at own hnil
    exact deepen_tup2 (fin_ownS own (fun h => hnil (List.map_eq_nil_iff.1 h)))
end Go.Proofs.Ytocgjopmlhpjdaa

