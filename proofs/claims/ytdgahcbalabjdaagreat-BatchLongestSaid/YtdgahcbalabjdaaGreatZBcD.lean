import Derived.Test.YtdgahcbalabjdaaGreatZBcC
/-
  Batch: the law of the longest ways.
-/
namespace Go.Proofs.YtdgahcbalabjdaaGreat
open Go.Vm Go.Ht Go.Ba Go.Cy
theorem wI_mf {os ar : List (Int × Int)} (hin : ArcsIn os.length ar) (h6 : os.length ≤ 6) : mf (genM 6 6 (wI os ar)) = wI os ar := by
  funext i j
  rw [mf_gen]
  by_cases h : i < 6 ∧ j < 6
  · rw [if_pos h]
  · rw [if_neg h]
    have := wI_sup (n := 6) hin h6 i j h
    unfold DM at this
    exact (dec_inj (this.trans dec_nv.symm)).symm
theorem wI_star {os ar : List (Int × Int)} {hs : List Int} (hT : Times os) (hin : ArcsIn os.length ar) (h1 : 1 ≤ os.length) (h6 : os.length ≤ 6) (hh : hds os ar = some hs) : starE (genM 6 6 (wI os ar)) = 0 ∧ starD (genM 6 6 (wI os ar)) = genD 6 6 (waysI 6 (wI os ar)) := by
  have hv : validB 1000 (genM 6 6 (wI os ar)) = true := valid_gen (by omega) (by omega) fun i j => (wI_good hT hin i j).mono (by omega)
  have hl : (genM 6 6 (wI os ar)).length = 6 := by simp [genM]
  have hmf := wI_mf hin h6
  have e : starE (genM 6 6 (wI os ar)) = 0 := by
    unfold starE measF
    rw [hv, if_pos rfl, if_pos rfl, hl, hmf, wI_mean hT hin h1 h6 (by omega) hh]; rfl
  refine ⟨e, ?_⟩
  unfold starD
  rw [e, if_pos rfl, hl, hmf]
theorem rows_mat {ds : List DV} {g : Nat → Nat → Int} (h6 : ds.length = 6) (h : ∀ (i : Nat) (c : DV), ds[i]? = some c → Ints c ((List.range 6).map (g i))) : Mat (slOf ds) (genM 6 6 g) := by
  have hl : (genM 6 6 g).length = 6 := by simp [genM]
  have e : slOf ds = .sl ds ds.length none := by
    cases ds with
    | nil => simp at h6
    | cons a ds => rfl
  rw [e, h6, ← hl]
  refine .sl (by rw [h6, hl]) fun i c x hc hx => ?_
  have hi := (List.getElem?_eq_some_iff.1 hx).1
  rw [hl] at hi
  have : x = (List.range 6).map (g i) := by
    rw [genM, List.getElem?_map, List.getElem?_range hi] at hx
    exact (Option.some.inj hx).symm
  rw [this]
  exact h i c hc
set_option maxRecDepth 10000 in
theorem law4_no {N : Int} {jd : DV} {J : List (List (Int × Int))} (hd : JbD jd J) (hl : J.length ≤ 9223372036854775807) (hr : ∀ j ∈ J, j.length ≤ 9223372036854775807) {ld : DV} {l : List (List Int)} (hm : Mat ld l) (hll : l.length ≤ 9223372036854775807) (hlr : ∀ r ∈ l, r.length ≤ 9223372036854775807) (h : stE N J l ≠ 0 ∨ wtE N J l ≠ 0) : DeepCall Tryz.prog 4 [.agg [DI N, jd], ld] (DB true) := by
  have hw2 : stE N J l = 0 → wtE N J l ≠ 0 → wtE N J l = 2 := fun a b => by
    unfold wtE at b ⊢
    rw [if_pos a] at b ⊢
    split
    · rfl
    · rename_i h9; rw [if_neg h9] at b; exact absurd rfl b
  refine deepCall_K 5 Tryz.func4 rfl (Nat.le_of_ble_eq_true rfl) fun M W0 => ?_
  refine KC.seq ?_
  refine KC.region ?_
  refine KT.step rfl rfl (K.box rfl) ?_
  refine KT.step rfl rfl (K.assign rfl) ?_
  refine KT.nil ?_
  refine thenK_n ?_
  refine KC.seq ?_
  refine KC.region ?_
  refine KT.step rfl rfl (K.loadOA [DI N, jd] rfl rfl (by decide) Tryz.agg24 Tryz.size24 rfl) ?_
  refine KT.step rfl rfl (K.call1 rfl plainTryz_6 (of16 hd hl hr)) ?_
  refine KT.step rfl rfl (K.move rfl) ?_
  refine KT.step rfl rfl (K.call1 rfl plainTryz_7 (rows17 hm hll (getD_rows hlr))) ?_
  refine KT.step rfl rfl (K.call2 rfl rfl plainTryz_12 (starts_cut hd hl hr hm hll hlr)) ?_
  refine KT.step rfl rfl (K.move rfl) ?_
  refine KT.step rfl rfl (K.extract rfl rfl) ?_
  refine KT.step rfl rfl (K.extract rfl rfl) ?_
  refine KT.step rfl rfl (K.assign rfl) ?_
  refine KT.step rfl rfl (K.assign rfl) ?_
  refine KT.nil ?_
  refine thenK_n ?_
  refine KC.seq ?_
  refine KC.region ?_
  refine KT.step rfl rfl (K.loadOA [DI N, jd] rfl rfl (by decide) Tryz.agg24 Tryz.size24 rfl) ?_
  refine KT.step rfl rfl (K.call1 rfl plainTryz_6 (of16 hd hl hr)) ?_
  refine KT.step rfl rfl (K.move rfl) ?_
  refine KT.step rfl rfl (K.call1 rfl plainTryz_7 (rows17 hm hll (getD_rows hlr))) ?_
  refine KT.step rfl rfl (K.call2 rfl rfl plainTryz_5 (weights_cut hd hl hr hm hll hlr)) ?_
  refine KT.step rfl rfl (K.move rfl) ?_
  refine KT.step rfl rfl (K.extract rfl rfl) ?_
  refine KT.step rfl rfl (K.extract rfl rfl) ?_
  refine KT.step rfl rfl (K.assign rfl) ?_
  refine KT.step rfl rfl (K.assign rfl) ?_
  refine KT.nil ?_
  refine thenK_n ?_
  refine KC.seq ?_
  refine KC.seq ?_
  refine KC.region ?_
  refine KT.step rfl rfl (K.move rfl) ?_
  refine KT.step rfl rfl (K.neq rfl rfl) ?_
  refine KT.step rfl rfl (K.move rfl) ?_
  refine KT.bcase (fun hb36 => ?_) (fun hb36 => ?_)
  · skip
    replace hb36 := of_decide_eq_true hb36
    refine KT.skip rfl rfl ?_
    refine KT.skip rfl rfl ?_
    refine KT.step rfl rfl (K.pick rfl (fun _ => rfl) (fun h => by cases h)) ?_
    refine KT.nil ?_
    refine thenK_n ?_
    refine KC.cond rfl (fun hc39 => ?_) (fun hc39 => ?_)
    · skip
      refine KC.seq ?_
      refine KC.region ?_
      refine KT.step rfl rfl (K.move rfl) ?_
      refine KT.step rfl rfl (K.neq rfl rfl) ?_
      refine KT.step rfl rfl (K.move rfl) ?_
      refine KT.bcase (fun hb42 => ?_) (fun hb42 => ?_)
      · skip
        replace hb42 := of_decide_eq_true hb42
        refine KT.skip rfl rfl ?_
        refine KT.skip rfl rfl ?_
        refine KT.step rfl rfl (K.pick rfl (fun _ => rfl) (fun h => by cases h)) ?_
        refine KT.step rfl rfl (K.move rfl) ?_
        refine KT.step rfl rfl (K.call0 plainTryz_11 (awake22)) ?_
        refine KT.step rfl rfl (K.pick rfl (fun _ => rfl) (fun h => by cases h)) ?_
        refine KT.step rfl rfl (K.assign rfl) ?_
        refine KT.nil ?_
        refine thenK_n ?_
        refine KC.ret ?_
        refine thenK_r ?_
        exact ⟨.inl rfl, _, rfl, fin_d rfl⟩
      · skip
        exact absurd (of_decide_eq_false hb42) (fun h9 => h9 hb36)
    · cases hc39
  · skip
    replace hb36 := of_decide_eq_false hb36
    refine KT.step rfl rfl (K.move rfl) ?_
    refine KT.step rfl rfl (K.neq rfl rfl) ?_
    refine KT.step rfl rfl (K.pick rfl (fun h => by cases h) (fun _ => rfl)) ?_
    refine KT.nil ?_
    refine thenK_n ?_
    refine KC.cond rfl (fun hc39 => ?_) (fun hc39 => ?_)
    · skip
      replace hc39 := of_decide_eq_true hc39
      refine KC.seq ?_
      refine KC.region ?_
      refine KT.step rfl rfl (K.move rfl) ?_
      refine KT.step rfl rfl (K.neq rfl rfl) ?_
      refine KT.step rfl rfl (K.move rfl) ?_
      refine KT.bcase (fun hb42 => ?_) (fun hb42 => ?_)
      · skip
        exact absurd (of_decide_eq_true hb42) hb36
      · skip
        replace hb42 := of_decide_eq_false hb42
        refine KT.step rfl rfl (K.move rfl) ?_
        refine KT.step rfl rfl (K.eql rfl rfl) ?_
        refine KT.step rfl rfl (K.pick rfl (fun h => by cases h) (fun _ => rfl)) ?_
        refine KT.step rfl rfl (K.move rfl) ?_
        refine KT.bcase (fun hb46 => ?_) (fun hb46 => ?_)
        · skip
          replace hb46 := of_decide_eq_true hb46
          refine KT.step rfl rfl (K.call0 plainTryz_11 (awake22)) ?_
          refine KT.step rfl rfl (K.pick rfl (fun _ => rfl) (fun h => by cases h)) ?_
          refine KT.step rfl rfl (K.assign rfl) ?_
          refine KT.nil ?_
          refine thenK_n ?_
          refine KC.ret ?_
          refine thenK_r ?_
          exact ⟨.inl rfl, _, rfl, fin_d rfl⟩
        · skip
          exact absurd (hw2 (Classical.not_not.1 hb36) hc39) (of_decide_eq_false hb46)
    · skip
      have h1 : stE N J l = 0 := Classical.not_not.1 hb36
      have h2 : wtE N J l = 0 := Classical.not_not.1 (of_decide_eq_false hc39)
      exact absurd h (by rw [h1, h2]; simp)
set_option maxHeartbeats 2000000 in
set_option maxRecDepth 10000 in
theorem law4_ok {N : Int} {jd : DV} {J : List (List (Int × Int))} (hd : JbD jd J) (hl : J.length ≤ 9223372036854775807) (hr : ∀ j ∈ J, j.length ≤ 9223372036854775807) {ld : DV} {l : List (List Int)} (hm : Mat ld l) (hll : l.length ≤ 9223372036854775807) (hlr : ∀ r ∈ l, r.length ≤ 9223372036854775807) {hs : List Int} (hst : stH N J l = some hs) (h6 : J.flatten.length ≤ 6) : DeepCall Tryz.prog 4 [.agg [DI N, jd], ld] (DB true) := by
  obtain ⟨hsb, hob, hh⟩ := stH_some hst
  have hK := stOk hsb hob
  have h0 : stE N J l = 0 := stE_zero.2 ⟨hs, hst⟩
  have hw : wtE N J l = 0 := by unfold wtE; rw [h0, if_pos rfl, if_neg (by omega)]
  have hV : wtV N J l = genD 6 6 (wI J.flatten (arcsO 0 J ++ ordA l)) := by unfold wtV; rw [if_pos hw]
  have hsl : hs.length = J.flatten.length := hds_length hh
  obtain ⟨st1, st2⟩ := wI_star hK.tms hK.inn hK.pos h6 hh
  have hcol := fun (j : Nat) (hj : j < J.flatten.length) => star_col hK.tms hK.pos hK.inn h6 (by omega : 6 ≤ 12) hh (j := j) hj
  have hcs : DeepCall Tryz.prog 12 [.agg [DI N, jobsV (cutJ J)], rows12 l ld] (.tup [hdV hs, DI 0]) := by
    have h := starts_cut (N := N) hd hl hr hm hll hlr
    unfold stV at h; rw [hst, h0] at h; exact h
  have hcw : DeepCall Tryz.prog 5 [.agg [DI N, jobsV (cutJ J)], rows12 l ld] (.tup [genD 6 6 (wI J.flatten (arcsO 0 J ++ ordA l)), DI 0]) := by
    have h := weights_cut (N := N) hd hl hr hm hll hlr
    rw [hV, hw] at h; exact h
  refine deepCall_K 5 Tryz.func4 rfl (Nat.le_of_ble_eq_true rfl) fun M W0 => ?_
  refine KC.seq ?_
  refine KC.region ?_
  refine KT.step rfl rfl (K.box rfl) ?_
  refine KT.step rfl rfl (K.assign rfl) ?_
  refine KT.nil ?_
  refine thenK_n ?_
  refine KC.seq ?_
  refine KC.region ?_
  refine KT.step rfl rfl (K.loadOA [DI N, jd] rfl rfl (by decide) Tryz.agg24 Tryz.size24 rfl) ?_
  refine KT.step rfl rfl (K.call1 rfl plainTryz_6 (of16 hd hl hr)) ?_
  refine KT.step rfl rfl (K.move rfl) ?_
  refine KT.step rfl rfl (K.call1 rfl plainTryz_7 (rows17 hm hll (getD_rows hlr))) ?_
  refine KT.step rfl rfl (K.call2 rfl rfl plainTryz_12 (hcs)) ?_
  refine KT.step rfl rfl (K.move rfl) ?_
  refine KT.step rfl rfl (K.extract rfl rfl) ?_
  refine KT.step rfl rfl (K.extract rfl rfl) ?_
  refine KT.step rfl rfl (K.assign rfl) ?_
  refine KT.step rfl rfl (K.assign rfl) ?_
  refine KT.nil ?_
  refine thenK_n ?_
  refine KC.seq ?_
  refine KC.region ?_
  refine KT.step rfl rfl (K.loadOA [DI N, jd] rfl rfl (by decide) Tryz.agg24 Tryz.size24 rfl) ?_
  refine KT.step rfl rfl (K.call1 rfl plainTryz_6 (of16 hd hl hr)) ?_
  refine KT.step rfl rfl (K.move rfl) ?_
  refine KT.step rfl rfl (K.call1 rfl plainTryz_7 (rows17 hm hll (getD_rows hlr))) ?_
  refine KT.step rfl rfl (K.call2 rfl rfl plainTryz_5 (hcw)) ?_
  refine KT.step rfl rfl (K.move rfl) ?_
  refine KT.step rfl rfl (K.extract rfl rfl) ?_
  refine KT.step rfl rfl (K.extract rfl rfl) ?_
  refine KT.step rfl rfl (K.assign rfl) ?_
  refine KT.step rfl rfl (K.assign rfl) ?_
  refine KT.nil ?_
  refine thenK_n ?_
  refine KC.seq ?_
  refine KC.seq ?_
  refine KC.region ?_
  refine KT.step rfl rfl (K.move rfl) ?_
  refine KT.step rfl rfl (K.neq rfl rfl) ?_
  refine KT.step rfl rfl (K.move rfl) ?_
  refine KT.bcase (fun hb36 => ?_) (fun hb36 => ?_)
  · skip
    exact absurd hb36 (by decide)
  · skip
    replace hb36 := of_decide_eq_false hb36
    refine KT.step rfl rfl (K.move rfl) ?_
    refine KT.step rfl rfl (K.neq rfl rfl) ?_
    refine KT.step rfl rfl (K.pick rfl (fun h => by cases h) (fun _ => rfl)) ?_
    refine KT.nil ?_
    refine thenK_n ?_
    refine KC.cond rfl (fun hc39 => ?_) (fun hc39 => ?_)
    · skip
      exact absurd hc39 (by decide)
    · skip
      replace hc39 := of_decide_eq_false hc39
      refine KC.skip ?_
      refine thenK_n ?_
      refine KC.seq ?_
      refine KC.region ?_
      refine KT.step rfl rfl (K.assign rfl) ?_
      refine KT.nil ?_
      refine thenK_n ?_
      refine KC.seq ?_
      refine KC.seq ?_
      refine KC.region ?_
      refine KT.step rfl rfl (K.move rfl) ?_
      refine KT.step rfl rfl (K.len rfl (genD_mat (R := 6) (N := 6) (f := wI J.flatten (arcsO 0 J ++ ordA l))) Tryz.underlying25) ?_
      rw [genM_len]
      refine KT.step rfl rfl (K.move rfl) ?_
      refine KT.nil ?_
      refine thenK_n ?_
      refine KC.block ?_
      refine KC.loop (fun p : List VObj × XV × List DV => p.1) (fun p => [(5, .d (hdV hs)), (49, .d (genD 6 6 (wI J.flatten (arcsO 0 J ++ ordA l)))), (50, .d (DI (6 : Nat))), (9, p.2.1), (51, .d (DI (p.2.2.length : Nat)))]) (fun p => p.2.2.length ≤ 6 ∧ Own p.1 p.2.1 (p.2.2.map .d) ∧ (∀ (i : Nat) (c : DV), p.2.2[i]? = some c → Ints c ((List.range 6).map ((wI J.flatten (arcsO 0 J ++ ordA l)) i)))) (fun p => 6 - p.2.2.length) (_, .d Dnil, []) ⟨Nat.zero_le _, .nil, fun i c h => by simp at h⟩ rfl (by simp [Go.Vm.look, extK, enterK]) ?_
      intro p hp
      obtain ⟨σ0, x0, ds⟩ := p
      obtain ⟨hk, hown, hrow⟩ := hp
      simp only at hk hown hrow ⊢
      refine KC.seq ?_
      refine KC.region ?_
      refine KT.step rfl rfl (K.lss rfl rfl) ?_
      refine KT.nil ?_
      refine thenK_n ?_
      refine KC.seq ?_
      refine KC.cond rfl (fun hc52 => ?_) (fun hc52 => ?_)
      · skip
        replace hc52 := of_decide_eq_true hc52
        have hkl : ds.length < 6 := by omega
        refine KC.skip ?_
        refine thenK_n ?_
        refine KC.seq ?_
        refine KC.block ?_
        refine KC.seq ?_
        refine KC.region ?_
        refine KT.idx rfl rfl rfl (genD_mat (R := 6) (N := 6) (f := wI J.flatten (arcsO 0 J ++ ordA l))) rfl (by rw [genM_len]; omega) Tryz.underlying25 Tryz.size36 fun c53 cs53 hq53 => ?_
        rw [genM_row] at hq53
        refine KT.step rfl rfl (K.load rfl Tryz.agg36) ?_
        refine KT.step rfl rfl (K.assign rfl) ?_
        refine KT.nil ?_
        refine thenK_n ?_
        refine KC.region ?_
        refine KT.step rfl rfl (K.move rfl) ?_
        refine KT.step rfl rfl (K.move rfl) ?_
        refine KT.step rfl rfl (K.call1 rfl plainTryz_13 (clone41 hq53 (by simp))) ?_
        refine KT.step rfl rfl (K.build1' (v := .d (cloneD c53)) rfl (cellsX_clone hq53).1 Tryz.underlying25 Tryz.one36) ?_
        refine KT.app (v := .d (cloneD c53)) rfl rfl rfl rfl (Own.pushed hown _) (by simp) (cellsX_clone hq53).2 (by simp; omega) Tryz.underlying25 Tryz.one36 fun σ1 x1 ho1 => ?_
        refine KT.step rfl rfl (K.assign rfl) ?_
        refine KT.nil ?_
        refine blockK_n ?_
        refine thenK_n ?_
        refine KC.region ?_
        refine KT.step rfl rfl (K.add rfl rfl (wrap_id (by omega))) ?_
        refine KT.step rfl rfl (K.move rfl) ?_
        refine KT.nil ?_
        refine thenK_n ?_
        refine ⟨(σ1, x1, ds ++ [cloneD c53]), ⟨by simp; omega, by simp only [List.map_append]; exact ho1, fun i c h => ?_⟩, by simp; omega, rfl, by simp [Go.Vm.look, extK]⟩
        by_cases hi : i < ds.length
        · rw [List.getElem?_append_left hi] at h; exact hrow i c h
        · rw [List.getElem?_append_right (by omega)] at h
          have e : i - ds.length = 0 := by
            by_cases e : i - ds.length = 0
            · exact e
            · rw [List.getElem?_eq_none (by simp; omega)] at h; cases h
          rw [e] at h
          simp at h
          subst h
          rw [show i = ds.length by omega]
          exact cloneD_vec hq53
      · skip
        replace hc52 := of_decide_eq_false hc52
        have hds6 : ds.length = 6 := by omega
        refine KC.exit ?_
        refine thenK_x ?_
        refine thenK_x ?_
        refine blockK_e ?_
        refine thenK_n ?_
        refine KC.seq ?_
        refine KC.region ?_
        refine KT.step rfl rfl (K.move rfl) ?_
        refine KT.step rfl rfl (K.callZ (xs := [x0]) (ds := [slOf ds]) (List.range σ0.length) 5 rfl plainTryz_14 (by rw [freeze_range, List.mapM_cons, fin_own hown (fun h => by rw [h] at hds6; simp at hds6)]; rfl) (by
            have h := Star34 (rows_mat hds6 hrow) (by simp [genM]) (fun r hr => by obtain ⟨q, _, rfl⟩ := List.mem_map.1 hr; simp)
            rw [st1, st2] at h; exact h)) ?_
        refine KT.step rfl rfl (K.move rfl) ?_
        refine KT.step rfl rfl (K.extract rfl rfl) ?_
        refine KT.step rfl rfl (K.extract rfl rfl) ?_
        refine KT.step rfl rfl (K.assign rfl) ?_
        refine KT.step rfl rfl (K.assign rfl) ?_
        refine KT.nil ?_
        refine thenK_n ?_
        refine KC.seq ?_
        refine KC.seq ?_
        refine KC.region ?_
        refine KT.step rfl rfl (K.move rfl) ?_
        refine KT.step rfl rfl (K.neq rfl rfl) ?_
        refine KT.step rfl rfl (K.move rfl) ?_
        refine KT.bcase (fun hb68 => ?_) (fun hb68 => ?_)
        · skip
          exact absurd hb68 (by decide)
        · skip
          replace hb68 := of_decide_eq_false hb68
          refine KT.step rfl rfl (K.move rfl) ?_
          refine KT.step rfl rfl (K.len rfl (genD_mat (R := 6) (N := 6) (f := waysI 6 (wI J.flatten (arcsO 0 J ++ ordA l)))) Tryz.underlying25) ?_
          rw [genM_len]
          refine KT.step rfl rfl (K.neq rfl rfl) ?_
          refine KT.step rfl rfl (K.pick rfl (fun h => by cases h) (fun _ => rfl)) ?_
          refine KT.nil ?_
          refine thenK_n ?_
          refine KC.cond rfl (fun hc72 => ?_) (fun hc72 => ?_)
          · skip
            exact absurd hc72 (by decide)
          · skip
            replace hc72 := of_decide_eq_false hc72
            refine KC.skip ?_
            refine thenK_n ?_
            refine KC.seq ?_
            refine KC.seq ?_
            refine KC.region ?_
            refine KT.step rfl rfl (K.move rfl) ?_
            refine KT.step rfl rfl (K.len rfl (hdV_ok hs) Tryz.underlying36) ?_
            refine KT.step rfl rfl (K.move rfl) ?_
            refine KT.nil ?_
            refine thenK_n ?_
            refine KC.block ?_
            refine KC.loop (fun p : List VObj × Nat => p.1) (fun p => [(5, .d (hdV hs)), (12, .d (genD 6 6 (waysI 6 (wI J.flatten (arcsO 0 J ++ ordA l))))), (73, .d (hdV hs)), (74, .d (DI (hs.length : Nat))), (75, .d (DI (p.2 : Nat)))]) (fun p => p.2 ≤ hs.length) (fun p => hs.length - p.2) (_, 0) (Nat.zero_le _) rfl (by simp [Go.Vm.look, extK]) ?_
            intro p hi
            obtain ⟨σ1, i⟩ := p
            simp only at hi ⊢
            refine KC.seq ?_
            refine KC.region ?_
            refine KT.step rfl rfl (K.lss rfl rfl) ?_
            refine KT.nil ?_
            refine thenK_n ?_
            refine KC.seq ?_
            refine KC.cond rfl (fun hc76 => ?_) (fun hc76 => ?_)
            · skip
              replace hc76 := of_decide_eq_true hc76
              have hil : i < hs.length := by omega
              refine KC.skip ?_
              refine thenK_n ?_
              refine KC.seq ?_
              refine KC.block ?_
              refine KC.seq ?_
              refine KC.region ?_
              refine KT.step rfl rfl (K.move rfl) ?_
              refine KT.idxI (m := i) rfl rfl rfl (hdV_ok hs) rfl (by omega) Tryz.underlying36 Tryz.size3 fun cs78 => ?_
              refine KT.step rfl rfl (K.load rfl Tryz.agg3) ?_
              refine KT.step rfl rfl (K.assign rfl) ?_
              refine KT.step rfl rfl (K.assign rfl) ?_
              refine KT.nil ?_
              refine thenK_n ?_
              refine KC.seq ?_
              refine KC.region ?_
              refine KT.step rfl rfl (K.assign rfl) ?_
              refine KT.nil ?_
              refine thenK_n ?_
              refine KC.seq ?_
              refine KC.seq ?_
              refine KC.region ?_
              refine KT.step rfl rfl (K.move rfl) ?_
              refine KT.step rfl rfl (K.len rfl (genD_mat (R := 6) (N := 6) (f := waysI 6 (wI J.flatten (arcsO 0 J ++ ordA l)))) Tryz.underlying25) ?_
              rw [genM_len]
              refine KT.step rfl rfl (K.move rfl) ?_
              refine KT.nil ?_
              refine thenK_n ?_
              refine KC.block ?_
              refine KC.loop (fun _ : Nat => σ1) (fun j => [(5, .d (hdV hs)), (12, .d (genD 6 6 (waysI 6 (wI J.flatten (arcsO 0 J ++ ordA l))))), (73, .d (hdV hs)), (74, .d (DI (hs.length : Nat))), (75, .d (DI (i : Nat))), (13, .d (DI (i : Nat))), (14, .d (DI hs[i])), (15, .d (DI (colI 6 (waysI 6 (wI J.flatten (arcsO 0 J ++ ordA l))) i j))), (80, .d (genD 6 6 (waysI 6 (wI J.flatten (arcsO 0 J ++ ordA l))))), (81, .d (DI (6 : Nat))), (82, .d (DI (j : Nat)))]) (fun j => j ≤ 6) (fun j => 6 - j) 0 (Nat.zero_le _) rfl (by simp [Go.Vm.look, extK, colI]) ?_
              intro j hj
              refine KC.seq ?_
              refine KC.region ?_
              refine KT.step rfl rfl (K.lss rfl rfl) ?_
              refine KT.nil ?_
              refine thenK_n ?_
              refine KC.seq ?_
              refine KC.cond rfl (fun hc83 => ?_) (fun hc83 => ?_)
              · skip
                replace hc83 := of_decide_eq_true hc83
                have hjl : j < 6 := by omega
                refine KC.skip ?_
                refine thenK_n ?_
                refine KC.seq ?_
                refine KC.block ?_
                refine KC.seq ?_
                refine KC.region ?_
                refine KT.idx rfl rfl rfl (genD_mat (R := 6) (N := 6) (f := waysI 6 (wI J.flatten (arcsO 0 J ++ ordA l)))) rfl (by rw [genM_len]; omega) Tryz.underlying25 Tryz.size36 fun c84 cs84 hq84 => ?_
                rw [genM_row] at hq84
                refine KT.step rfl rfl (K.load rfl Tryz.agg36) ?_
                refine KT.step rfl rfl (K.assign rfl) ?_
                refine KT.nil ?_
                refine thenK_n ?_
                refine KC.seq ?_
                refine KC.seq ?_
                refine KC.region ?_
                refine KT.step rfl rfl (K.move rfl) ?_
                refine KT.step rfl rfl (K.move rfl) ?_
                refine KT.step rfl rfl (K.len rfl hq84 Tryz.underlying36) ?_
                rw [List.length_map, List.length_range]
                refine KT.step rfl rfl (K.geq rfl rfl) ?_
                refine KT.nil ?_
                refine thenK_n ?_
                refine KC.cond rfl (fun hc89 => ?_) (fun hc89 => ?_)
                · skip
                  exact absurd (of_decide_eq_true hc89) (by omega)
                · skip
                  replace hc89 := of_decide_eq_false hc89
                  refine KC.skip ?_
                  refine thenK_n ?_
                  refine KC.region ?_
                  refine KT.step rfl rfl (K.move rfl) ?_
                  refine KT.step rfl rfl (K.move rfl) ?_
                  refine KT.step rfl rfl (K.move rfl) ?_
                  refine KT.idxI (m := i) rfl rfl rfl hq84 rfl (by simp; omega) Tryz.underlying36 Tryz.size3 fun cs93 => ?_
                  rw [get_range] at *
                  refine KT.step rfl rfl (K.load rfl Tryz.agg3) ?_
                  refine KT.step rfl rfl (K.max2 rfl rfl) ?_
                  refine KT.step rfl rfl (K.assign rfl) ?_
                  refine KT.nil ?_
                  refine blockK_n ?_
                  refine thenK_n ?_
                  refine KC.region ?_
                  refine KT.step rfl rfl (K.add rfl rfl (wrap_id (by omega))) ?_
                  refine KT.step rfl rfl (K.move rfl) ?_
                  refine KT.nil ?_
                  refine thenK_n ?_
                  exact ⟨j + 1, by omega, by omega, rfl, by simp [Go.Vm.look, extK, colI]⟩
              · skip
                replace hc83 := of_decide_eq_false hc83
                refine KC.exit ?_
                refine thenK_x ?_
                refine thenK_x ?_
                refine blockK_e ?_
                refine thenK_n ?_
                refine KC.seq ?_
                refine KC.region ?_
                refine KT.step rfl rfl (K.move rfl) ?_
                refine KT.step rfl rfl (K.move rfl) ?_
                refine KT.step rfl rfl (K.neq rfl rfl) ?_
                refine KT.nil ?_
                refine thenK_n ?_
                refine KC.cond rfl (fun hc99 => ?_) (fun hc99 => ?_)
                · skip
                  have hj6 : j = 6 := by omega
                  rw [hj6, hcol i (by omega)] at hc99
                  exact absurd (gt_get (by omega) rfl) (of_decide_eq_true hc99)
                · skip
                  replace hc99 := of_decide_eq_false hc99
                  refine KC.skip ?_
                  refine blockK_n ?_
                  refine thenK_n ?_
                  refine KC.region ?_
                  refine KT.step rfl rfl (K.add rfl rfl (wrap_id (by omega))) ?_
                  refine KT.step rfl rfl (K.move rfl) ?_
                  refine KT.nil ?_
                  refine thenK_n ?_
                  exact ⟨(_, i + 1), by simp only; omega, by simp only; omega, rfl, by simp [Go.Vm.look, extK]⟩
            · skip
              replace hc76 := of_decide_eq_false hc76
              refine KC.exit ?_
              refine thenK_x ?_
              refine thenK_x ?_
              refine blockK_e ?_
              refine thenK_n ?_
              refine KC.seq ?_
              refine KC.region ?_
              refine KT.step rfl rfl (K.call0 plainTryz_11 (awake22)) ?_
              refine KT.step rfl rfl (K.assign rfl) ?_
              refine KT.nil ?_
              refine thenK_n ?_
              refine KC.ret ?_
              exact ⟨.inl rfl, _, rfl, fin_d rfl⟩
theorem law4 {N : Int} {jd : DV} {J : List (List (Int × Int))} (hd : JbD jd J) (hl : J.length ≤ 9223372036854775807) (hr : ∀ j ∈ J, j.length ≤ 9223372036854775807) {ld : DV} {l : List (List Int)} (hm : Mat ld l) (hll : l.length ≤ 9223372036854775807) (hlr : ∀ r ∈ l, r.length ≤ 9223372036854775807) : DeepCall Tryz.prog 4 [.agg [DI N, jd], ld] (DB true) := by
  by_cases h0 : stE N J l = 0
  · obtain ⟨hs, hst⟩ := stE_zero.1 h0
    by_cases h6 : J.flatten.length ≤ 6
    · exact law4_ok hd hl hr hm hll hlr hst h6
    · exact law4_no hd hl hr hm hll hlr (.inr (by unfold wtE; rw [if_pos h0, if_pos (by omega)]; decide))
  · exact law4_no hd hl hr hm hll hlr (.inl h0)
end Go.Proofs.YtdgahcbalabjdaaGreat

