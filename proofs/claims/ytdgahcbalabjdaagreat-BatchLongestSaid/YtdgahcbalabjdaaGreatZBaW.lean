import Derived.Test.YtdgahcbalabjdaaGreatZBaV
/-
  Batch: starts and makespans.
-/
namespace Go.Proofs.YtdgahcbalabjdaaGreat
open Go.Vm Go.Ht Go.Ba
/-- The graph that is returned with the times. -/
def sgA (N : Int) (J : List (List (Int × Int))) (l : List (List Int)) : DV := match stH N J l with | some _ => flV c2 J.flatten | none => Dnil
def sgB (N : Int) (J : List (List (Int × Int))) (l : List (List Int)) : DV := match stH N J l with | some _ => flV c2 (arcsO 0 J ++ ordA l) | none => Dnil
def sgC (N : Int) (J : List (List (Int × Int))) (l : List (List Int)) : DV := match stH N J l with | some _ => .sl ((msO N.toNat J.flatten).map intsV) N.toNat (some N.toNat) | none => Dnil
theorem sg_sld (N : Int) (J : List (List (Int × Int))) (l : List (List Int)) : SlD (sgA N J l) ∧ SlD (sgB N J l) ∧ SlD (sgC N J l) := by
  unfold sgA sgB sgC
  cases stH N J l with
  | none => exact ⟨.nil, .nil, .nil⟩
  | some hs => exact ⟨flV_sld _, flV_sld _, .sl _ _ _⟩
def schV (N : Int) (J : List (List (Int × Int))) (l : List (List Int)) : DV := .tup [.agg [sgA N J l, sgB N J l, sgC N J l], shV (stH N J l), DI (stE N J l)]
theorem sch_no1 {N : Int} {J : List (List (Int × Int))} {l : List (List Int)} (h : shopB N J = false) : schV N J l = .tup [.agg [Dnil, Dnil, Dnil], Dnil, DI 2] := by
  have h1 : stH N J l = none := by unfold stH; simp [h]
  have h2 : stE N J l = 2 := by unfold stE; simp [h]
  unfold schV sgA sgB sgC; rw [h1, h2]; rfl
theorem sch_no2 {N : Int} {J : List (List (Int × Int))} {l : List (List Int)} (h : shopB N J = true) (h2 : ordB N.toNat J.flatten l = false) : schV N J l = .tup [.agg [Dnil, Dnil, Dnil], Dnil, DI 4] := by
  have h1 : stH N J l = none := by unfold stH; simp [h, h2]
  have h3 : stE N J l = 4 := by unfold stE; simp [h, h2]
  unfold schV sgA sgB sgC; rw [h1, h3]; rfl
theorem sch_no3 {N : Int} {J : List (List (Int × Int))} {l : List (List Int)} (h : shopB N J = true) (h2 : ordB N.toNat J.flatten l = true) (h3 : hds J.flatten (arcsO 0 J ++ ordA l) = none) : schV N J l = .tup [.agg [Dnil, Dnil, Dnil], Dnil, DI 8] := by
  have h1 : stH N J l = none := by unfold stH; simp [h, h2, h3]
  have h4 : stE N J l = 8 := by unfold stE; simp [h, h2, h3]
  unfold schV sgA sgB sgC; rw [h1, h4]; rfl
theorem sch_ok {N : Int} {J : List (List (Int × Int))} {l : List (List Int)} {hs : List Int} (h : shopB N J = true) (h2 : ordB N.toNat J.flatten l = true) (h3 : hds J.flatten (arcsO 0 J ++ ordA l) = some hs) :
    schV N J l = .tup [.agg [flV c2 J.flatten, flV c2 (arcsO 0 J ++ ordA l), .sl ((msO N.toNat J.flatten).map intsV) N.toNat (some N.toNat)], hdV hs, DI 0] := by
  have h1 : stH N J l = some hs := by unfold stH; simp [h, h2, h3]
  have h4 : stE N J l = 0 := by unfold stE; simp [h, h2, h3]
  unfold schV sgA sgB sgC; rw [h1, h4]; rfl
theorem stE_zero {N : Int} {J : List (List (Int × Int))} {l : List (List Int)} : stE N J l = 0 ↔ ∃ hs, stH N J l = some hs := by
  cases h : shopB N J with
  | false => unfold stE stH; simp [h]
  | true =>
    cases h2 : ordB N.toNat J.flatten l with
    | false => unfold stE stH; simp [h, h2]
    | true =>
      cases h3 : hds J.flatten (arcsO 0 J ++ ordA l) with
      | none => unfold stE stH; simp [h, h2, h3]
      | some hs => unfold stE stH; simp [h, h2, h3]
set_option maxRecDepth 10000 in
theorem sch1 {N : Int} {jd : DV} {J : List (List (Int × Int))} (hd : JbD jd J) (hl : J.length ≤ 9223372036854775807) (hr : ∀ j ∈ J, j.length ≤ 9223372036854775807) {ld : DV} {l : List (List Int)} (_ : Mat ld l) (_ : l.length ≤ 100) (_ : ∀ r ∈ l, r.length ≤ 1000) (hsb : shopB N J = false) : DeepCall Tryz.prog 26 [.agg [DI N, jd], ld] (schV N J l) := by
  refine deepCall_K 5 Tryz.func26 rfl (Nat.le_of_ble_eq_true rfl) fun M W0 => ?_
  refine KC.seq ?_
  refine KC.region ?_
  refine KT.step rfl rfl (K.box rfl) ?_
  refine KT.step rfl rfl (K.alloc Tryz.zero47) ?_
  refine KT.step rfl rfl (K.assign rfl) ?_
  refine KT.step rfl rfl (K.assign rfl) ?_
  refine KT.nil ?_
  refine thenK_n ?_
  refine KC.seq ?_
  refine KC.seq ?_
  refine KC.region ?_
  refine KT.step rfl rfl (K.loadOA [DI N, jd] rfl rfl (by decide) Tryz.agg31 Tryz.size31 rfl) ?_
  refine KT.step rfl rfl (K.call1 rfl plainTryz_15 ((by have h := valid47 (N := N) hd hl hr; rw [hsb] at h; exact h))) ?_
  refine KT.step rfl rfl (K.not rfl) ?_
  refine KT.nil ?_
  refine thenK_n ?_
  refine KC.cond rfl (fun hc12 => ?_) (fun hc12 => ?_)
  · skip
    refine KC.seq ?_
    refine KC.region ?_
    refine KT.step rfl rfl (K.buildL rfl zero82) ?_
    refine KT.putAll (cs := [.d Dnil, .d Dnil, .d Dnil]) rfl rfl rfl rfl rfl rfl rfl rfl Tryz.size47 ?_
    refine KT.step rfl rfl (K.assign rfl) ?_
    refine KT.step rfl rfl (K.assign rfl) ?_
    refine KT.nil ?_
    refine thenK_n ?_
    refine KC.ret ?_
    refine thenK_r ?_
    rw [sch_no1 hsb]
    exact ⟨.inl rfl, _, resK_ctt [Dnil, Dnil, Dnil] rfl rfl rfl (show (0 : Nat) < 2 by decide) Tryz.agg47 Tryz.size47 rfl rfl rfl, rfl⟩
  · skip
    exact absurd hc12 (by decide)
set_option maxRecDepth 10000 in
theorem sch2 {N : Int} {jd : DV} {J : List (List (Int × Int))} (hd : JbD jd J) (hl : J.length ≤ 9223372036854775807) (hr : ∀ j ∈ J, j.length ≤ 9223372036854775807) {ld : DV} {l : List (List Int)} (hm : Mat ld l) (hll : l.length ≤ 100) (hlr : ∀ r ∈ l, r.length ≤ 1000) (hsb : shopB N J = true) (hob : ordB N.toNat J.flatten l = false) : DeepCall Tryz.prog 26 [.agg [DI N, jd], ld] (schV N J l) := by
  have hS := shopB_iff.1 hsb
  have hal := arcsO_len 0 J
  have hn9 := hS.n9
  refine deepCall_K 5 Tryz.func26 rfl (Nat.le_of_ble_eq_true rfl) fun M W0 => ?_
  refine KC.seq ?_
  refine KC.region ?_
  refine KT.step rfl rfl (K.box rfl) ?_
  refine KT.step rfl rfl (K.alloc Tryz.zero47) ?_
  refine KT.step rfl rfl (K.assign rfl) ?_
  refine KT.step rfl rfl (K.assign rfl) ?_
  refine KT.nil ?_
  refine thenK_n ?_
  refine KC.seq ?_
  refine KC.seq ?_
  refine KC.region ?_
  refine KT.step rfl rfl (K.loadOA [DI N, jd] rfl rfl (by decide) Tryz.agg31 Tryz.size31 rfl) ?_
  refine KT.step rfl rfl (K.call1 rfl plainTryz_15 ((by have h := valid47 (N := N) hd hl hr; rw [hsb] at h; exact h))) ?_
  refine KT.step rfl rfl (K.not rfl) ?_
  refine KT.nil ?_
  refine thenK_n ?_
  refine KC.cond rfl (fun hc12 => ?_) (fun hc12 => ?_)
  · skip
    exact absurd hc12 (by decide)
  · skip
    refine KC.skip ?_
    refine thenK_n ?_
    refine KC.seq ?_
    refine KC.region ?_
    refine KT.step rfl rfl (K.loadOA [DI N, jd] rfl rfl (by decide) Tryz.agg31 Tryz.size31 rfl) ?_
    refine KT.step rfl rfl (K.call1 rfl plainTryz_16 (graph48 hd hS)) ?_
    refine KT.step rfl rfl (K.move rfl) ?_
    refine KT.step rfl rfl (K.call2 rfl rfl plainTryz_17 (ordered_no hm hll hlr (by omega) hob)) ?_
    refine KT.step rfl rfl (K.move rfl) ?_
    refine KT.step rfl rfl (K.extract rfl rfl) ?_
    refine KT.step rfl rfl (K.extract rfl rfl) ?_
    refine KT.step rfl rfl (K.alloc Tryz.zero47) ?_
    refine KT.putAll (cs := [.d Dnil, .d Dnil, .d Dnil]) rfl rfl rfl rfl rfl rfl rfl rfl Tryz.size47 ?_
    refine KT.step rfl rfl (K.assign rfl) ?_
    refine KT.nil ?_
    refine thenK_n ?_
    refine KC.seq ?_
    refine KC.seq ?_
    refine KC.region ?_
    refine KT.step rfl rfl (K.move rfl) ?_
    refine KT.step rfl rfl (K.not rfl) ?_
    refine KT.nil ?_
    refine thenK_n ?_
    refine KC.cond rfl (fun hc22 => ?_) (fun hc22 => ?_)
    · skip
      refine KC.seq ?_
      refine KC.region ?_
      refine KT.step rfl rfl (K.buildL rfl zero82) ?_
      refine KT.putAll (cs := [.d Dnil, .d Dnil, .d Dnil]) rfl rfl rfl rfl rfl rfl rfl rfl Tryz.size47 ?_
      refine KT.step rfl rfl (K.assign rfl) ?_
      refine KT.step rfl rfl (K.assign rfl) ?_
      refine KT.nil ?_
      refine thenK_n ?_
      refine KC.ret ?_
      refine thenK_r ?_
      rw [sch_no2 hsb hob]
      exact ⟨.inl rfl, _, resK_ctt [Dnil, Dnil, Dnil] rfl rfl rfl (show (0 : Nat) < 2 by decide) Tryz.agg47 Tryz.size47 rfl rfl rfl, rfl⟩
    · skip
      exact absurd hc22 (by decide)
set_option maxRecDepth 10000 in
theorem sch3 {N : Int} {jd : DV} {J : List (List (Int × Int))} (hd : JbD jd J) (hl : J.length ≤ 9223372036854775807) (hr : ∀ j ∈ J, j.length ≤ 9223372036854775807) {ld : DV} {l : List (List Int)} (hm : Mat ld l) (hll : l.length ≤ 100) (hlr : ∀ r ∈ l, r.length ≤ 1000) (hsb : shopB N J = true) (hob : ordB N.toNat J.flatten l = true) (hh : hds J.flatten (arcsO 0 J ++ ordA l) = none) : DeepCall Tryz.prog 26 [.agg [DI N, jd], ld] (schV N J l) := by
  have hS := shopB_iff.1 hsb
  have hal := arcsO_len 0 J
  have hn9 := hS.n9
  have hK := stOk hsb hob
  refine deepCall_K 5 Tryz.func26 rfl (Nat.le_of_ble_eq_true rfl) fun M W0 => ?_
  refine KC.seq ?_
  refine KC.region ?_
  refine KT.step rfl rfl (K.box rfl) ?_
  refine KT.step rfl rfl (K.alloc Tryz.zero47) ?_
  refine KT.step rfl rfl (K.assign rfl) ?_
  refine KT.step rfl rfl (K.assign rfl) ?_
  refine KT.nil ?_
  refine thenK_n ?_
  refine KC.seq ?_
  refine KC.seq ?_
  refine KC.region ?_
  refine KT.step rfl rfl (K.loadOA [DI N, jd] rfl rfl (by decide) Tryz.agg31 Tryz.size31 rfl) ?_
  refine KT.step rfl rfl (K.call1 rfl plainTryz_15 ((by have h := valid47 (N := N) hd hl hr; rw [hsb] at h; exact h))) ?_
  refine KT.step rfl rfl (K.not rfl) ?_
  refine KT.nil ?_
  refine thenK_n ?_
  refine KC.cond rfl (fun hc12 => ?_) (fun hc12 => ?_)
  · skip
    exact absurd hc12 (by decide)
  · skip
    refine KC.skip ?_
    refine thenK_n ?_
    refine KC.seq ?_
    refine KC.region ?_
    refine KT.step rfl rfl (K.loadOA [DI N, jd] rfl rfl (by decide) Tryz.agg31 Tryz.size31 rfl) ?_
    refine KT.step rfl rfl (K.call1 rfl plainTryz_16 (graph48 hd hS)) ?_
    refine KT.step rfl rfl (K.move rfl) ?_
    refine KT.step rfl rfl (K.call2 rfl rfl plainTryz_17 (ordered_ok hm hll hlr (by omega) hob)) ?_
    refine KT.step rfl rfl (K.move rfl) ?_
    refine KT.step rfl rfl (K.extract rfl rfl) ?_
    refine KT.step rfl rfl (K.extract rfl rfl) ?_
    refine KT.step rfl rfl (K.alloc Tryz.zero47) ?_
    refine KT.putAll (cs := [.d (flV c2 J.flatten), .d (flV c2 (arcsO 0 J ++ ordA l)), .d (.sl ((msO N.toNat J.flatten).map intsV) N.toNat (some N.toNat))]) rfl rfl rfl rfl rfl rfl rfl (one3 (flV_sld _) (.sl _ _ _) (flV_sld _).one) Tryz.size47 ?_
    refine KT.step rfl rfl (K.assign rfl) ?_
    refine KT.nil ?_
    refine thenK_n ?_
    refine KC.seq ?_
    refine KC.seq ?_
    refine KC.region ?_
    refine KT.step rfl rfl (K.move rfl) ?_
    refine KT.step rfl rfl (K.not rfl) ?_
    refine KT.nil ?_
    refine thenK_n ?_
    refine KC.cond rfl (fun hc22 => ?_) (fun hc22 => ?_)
    · skip
      exact absurd hc22 (by decide)
    · skip
      refine KC.skip ?_
      refine thenK_n ?_
      refine KC.seq ?_
      refine KC.region ?_
      refine KT.step rfl rfl (K.loadOA [flV c2 J.flatten, flV c2 (arcsO 0 J ++ ordA l), .sl ((msO N.toNat J.flatten).map intsV) N.toNat (some N.toNat)] rfl rfl (by decide) Tryz.agg47 Tryz.size47 rfl) ?_
      refine KT.step rfl rfl (K.call1 rfl plainTryz_50 ((by have h := heads68 (c := .sl ((msO N.toNat J.flatten).map intsV) N.toNat (some N.toNat)) (flV_ok J.flatten) (flV_ok (arcsO 0 J ++ ordA l)) hK.n9 hK.len hK.tms hK.inn; rw [hh] at h; exact h))) ?_
      refine KT.step rfl rfl (K.move rfl) ?_
      refine KT.step rfl rfl (K.extract rfl rfl) ?_
      refine KT.step rfl rfl (K.extract rfl rfl) ?_
      refine KT.step rfl rfl (K.assign rfl) ?_
      refine KT.step rfl rfl (K.assign rfl) ?_
      refine KT.nil ?_
      refine thenK_n ?_
      refine KC.seq ?_
      refine KC.seq ?_
      refine KC.region ?_
      refine KT.step rfl rfl (K.move rfl) ?_
      refine KT.step rfl rfl (K.not rfl) ?_
      refine KT.nil ?_
      refine thenK_n ?_
      refine KC.cond rfl (fun hc30 => ?_) (fun hc30 => ?_)
      · skip
        refine KC.seq ?_
        refine KC.region ?_
        refine KT.step rfl rfl (K.buildL rfl zero82) ?_
        refine KT.putAll (cs := [.d Dnil, .d Dnil, .d Dnil]) rfl rfl rfl rfl rfl rfl rfl rfl Tryz.size47 ?_
        refine KT.step rfl rfl (K.assign rfl) ?_
        refine KT.step rfl rfl (K.assign rfl) ?_
        refine KT.nil ?_
        refine thenK_n ?_
        refine KC.ret ?_
        refine thenK_r ?_
        rw [sch_no3 hsb hob hh]
        exact ⟨.inl rfl, _, resK_ctt [Dnil, Dnil, Dnil] rfl rfl rfl (show (0 : Nat) < 2 by decide) Tryz.agg47 Tryz.size47 rfl rfl rfl, rfl⟩
      · skip
        exact absurd hc30 (by decide)
set_option maxRecDepth 10000 in
theorem sch4 {N : Int} {jd : DV} {J : List (List (Int × Int))} (hd : JbD jd J) (hl : J.length ≤ 9223372036854775807) (hr : ∀ j ∈ J, j.length ≤ 9223372036854775807) {ld : DV} {l : List (List Int)} (hm : Mat ld l) (hll : l.length ≤ 100) (hlr : ∀ r ∈ l, r.length ≤ 1000) (hsb : shopB N J = true) (hob : ordB N.toNat J.flatten l = true) {hs : List Int} (hh : hds J.flatten (arcsO 0 J ++ ordA l) = some hs) : DeepCall Tryz.prog 26 [.agg [DI N, jd], ld] (schV N J l) := by
  have hS := shopB_iff.1 hsb
  have hal := arcsO_len 0 J
  have hn9 := hS.n9
  have hK := stOk hsb hob
  refine deepCall_K 5 Tryz.func26 rfl (Nat.le_of_ble_eq_true rfl) fun M W0 => ?_
  refine KC.seq ?_
  refine KC.region ?_
  refine KT.step rfl rfl (K.box rfl) ?_
  refine KT.step rfl rfl (K.alloc Tryz.zero47) ?_
  refine KT.step rfl rfl (K.assign rfl) ?_
  refine KT.step rfl rfl (K.assign rfl) ?_
  refine KT.nil ?_
  refine thenK_n ?_
  refine KC.seq ?_
  refine KC.seq ?_
  refine KC.region ?_
  refine KT.step rfl rfl (K.loadOA [DI N, jd] rfl rfl (by decide) Tryz.agg31 Tryz.size31 rfl) ?_
  refine KT.step rfl rfl (K.call1 rfl plainTryz_15 ((by have h := valid47 (N := N) hd hl hr; rw [hsb] at h; exact h))) ?_
  refine KT.step rfl rfl (K.not rfl) ?_
  refine KT.nil ?_
  refine thenK_n ?_
  refine KC.cond rfl (fun hc12 => ?_) (fun hc12 => ?_)
  · skip
    exact absurd hc12 (by decide)
  · skip
    refine KC.skip ?_
    refine thenK_n ?_
    refine KC.seq ?_
    refine KC.region ?_
    refine KT.step rfl rfl (K.loadOA [DI N, jd] rfl rfl (by decide) Tryz.agg31 Tryz.size31 rfl) ?_
    refine KT.step rfl rfl (K.call1 rfl plainTryz_16 (graph48 hd hS)) ?_
    refine KT.step rfl rfl (K.move rfl) ?_
    refine KT.step rfl rfl (K.call2 rfl rfl plainTryz_17 (ordered_ok hm hll hlr (by omega) hob)) ?_
    refine KT.step rfl rfl (K.move rfl) ?_
    refine KT.step rfl rfl (K.extract rfl rfl) ?_
    refine KT.step rfl rfl (K.extract rfl rfl) ?_
    refine KT.step rfl rfl (K.alloc Tryz.zero47) ?_
    refine KT.putAll (cs := [.d (flV c2 J.flatten), .d (flV c2 (arcsO 0 J ++ ordA l)), .d (.sl ((msO N.toNat J.flatten).map intsV) N.toNat (some N.toNat))]) rfl rfl rfl rfl rfl rfl rfl (one3 (flV_sld _) (.sl _ _ _) (flV_sld _).one) Tryz.size47 ?_
    refine KT.step rfl rfl (K.assign rfl) ?_
    refine KT.nil ?_
    refine thenK_n ?_
    refine KC.seq ?_
    refine KC.seq ?_
    refine KC.region ?_
    refine KT.step rfl rfl (K.move rfl) ?_
    refine KT.step rfl rfl (K.not rfl) ?_
    refine KT.nil ?_
    refine thenK_n ?_
    refine KC.cond rfl (fun hc22 => ?_) (fun hc22 => ?_)
    · skip
      exact absurd hc22 (by decide)
    · skip
      refine KC.skip ?_
      refine thenK_n ?_
      refine KC.seq ?_
      refine KC.region ?_
      refine KT.step rfl rfl (K.loadOA [flV c2 J.flatten, flV c2 (arcsO 0 J ++ ordA l), .sl ((msO N.toNat J.flatten).map intsV) N.toNat (some N.toNat)] rfl rfl (by decide) Tryz.agg47 Tryz.size47 rfl) ?_
      refine KT.step rfl rfl (K.call1 rfl plainTryz_50 ((by have h := heads68 (c := .sl ((msO N.toNat J.flatten).map intsV) N.toNat (some N.toNat)) (flV_ok J.flatten) (flV_ok (arcsO 0 J ++ ordA l)) hK.n9 hK.len hK.tms hK.inn; rw [hh] at h; exact h))) ?_
      refine KT.step rfl rfl (K.move rfl) ?_
      refine KT.step rfl rfl (K.extract rfl rfl) ?_
      refine KT.step rfl rfl (K.extract rfl rfl) ?_
      refine KT.step rfl rfl (K.assign rfl) ?_
      refine KT.step rfl rfl (K.assign rfl) ?_
      refine KT.nil ?_
      refine thenK_n ?_
      refine KC.seq ?_
      refine KC.seq ?_
      refine KC.region ?_
      refine KT.step rfl rfl (K.move rfl) ?_
      refine KT.step rfl rfl (K.not rfl) ?_
      refine KT.nil ?_
      refine thenK_n ?_
      refine KC.cond rfl (fun hc30 => ?_) (fun hc30 => ?_)
      · skip
        exact absurd hc30 (by decide)
      · skip
        refine KC.skip ?_
        refine thenK_n ?_
        refine KC.seq ?_
        refine KC.region ?_
        refine KT.step rfl rfl (K.loadOA [flV c2 J.flatten, flV c2 (arcsO 0 J ++ ordA l), .sl ((msO N.toNat J.flatten).map intsV) N.toNat (some N.toNat)] rfl rfl (by decide) Tryz.agg47 Tryz.size47 rfl) ?_
        refine KT.step rfl rfl (K.move rfl) ?_
        refine KT.putAll (cs := [.d (flV c2 J.flatten), .d (flV c2 (arcsO 0 J ++ ordA l)), .d (.sl ((msO N.toNat J.flatten).map intsV) N.toNat (some N.toNat))]) rfl rfl rfl rfl rfl rfl rfl (one3 (flV_sld _) (.sl _ _ _) (flV_sld _).one) Tryz.size47 ?_
        refine KT.step rfl rfl (K.assign rfl) ?_
        refine KT.step rfl rfl (K.assign rfl) ?_
        refine KT.nil ?_
        refine thenK_n ?_
        refine KC.ret ?_
        rw [sch_ok hsb hob hh]
        exact ⟨.inl rfl, _, resK_ctt [flV c2 J.flatten, flV c2 (arcsO 0 J ++ ordA l), .sl ((msO N.toNat J.flatten).map intsV) N.toNat (some N.toNat)] rfl rfl rfl (show (0 : Nat) < 2 by decide) Tryz.agg47 Tryz.size47 rfl rfl rfl, rfl⟩
theorem scheduled40 {N : Int} {jd : DV} {J : List (List (Int × Int))} (hd : JbD jd J) (hl : J.length ≤ 9223372036854775807) (hr : ∀ j ∈ J, j.length ≤ 9223372036854775807) {ld : DV} {l : List (List Int)} (hm : Mat ld l) (hll : l.length ≤ 100) (hlr : ∀ r ∈ l, r.length ≤ 1000) : DeepCall Tryz.prog 26 [.agg [DI N, jd], ld] (schV N J l) := by
  cases hsb : shopB N J with
  | false => exact sch1 hd hl hr hm hll hlr hsb
  | true =>
    cases hob : ordB N.toNat J.flatten l with
    | false => exact sch2 hd hl hr hm hll hlr hsb hob
    | true =>
      cases hh : hds J.flatten (arcsO 0 J ++ ordA l) with
      | none => exact sch3 hd hl hr hm hll hlr hsb hob hh
      | some hs => exact sch4 hd hl hr hm hll hlr hsb hob hh
set_option maxRecDepth 10000 in
theorem starts15 {N : Int} {jd : DV} {J : List (List (Int × Int))} (hd : JbD jd J) (hl : J.length ≤ 9223372036854775807) (hr : ∀ j ∈ J, j.length ≤ 9223372036854775807) {ld : DV} {l : List (List Int)} (hm : Mat ld l) (hll : l.length ≤ 100) (hlr : ∀ r ∈ l, r.length ≤ 1000) : DeepCall Tryz.prog 12 [.agg [DI N, jd], ld] (stV N J l) := by
  refine deepCall_K 5 Tryz.func12 rfl (Nat.le_of_ble_eq_true rfl) fun M W0 => ?_
  refine KC.seq ?_
  refine KC.region ?_
  refine KT.step rfl rfl (K.box rfl) ?_
  refine KT.step rfl rfl (K.assign rfl) ?_
  refine KT.step rfl rfl (K.assign rfl) ?_
  refine KT.nil ?_
  refine thenK_n ?_
  refine KC.seq ?_
  refine KC.region ?_
  refine KT.step rfl rfl (K.loadOA [DI N, jd] rfl rfl (by decide) Tryz.agg31 Tryz.size31 rfl) ?_
  refine KT.step rfl rfl (K.move rfl) ?_
  refine KT.step rfl rfl (K.call2 rfl rfl plainTryz_26 (scheduled40 hd hl hr hm hll hlr)) ?_
  refine KT.step rfl rfl (K.move rfl) ?_
  refine KT.step rfl rfl (K.extract rfl rfl) ?_
  refine KT.step rfl rfl (K.extract rfl rfl) ?_
  refine KT.step rfl rfl (K.extract rfl rfl) ?_
  refine KT.step rfl rfl (K.alloc Tryz.zero47) ?_
  refine KT.putAll (cs := [.d (sgA N J l), .d (sgB N J l), .d (sgC N J l)]) rfl rfl rfl rfl rfl rfl rfl (one3 (sg_sld N J l).1 (sg_sld N J l).2.2 (sg_sld N J l).2.1.one) Tryz.size47 ?_
  refine KT.step rfl rfl (K.assign rfl) ?_
  refine KT.step rfl rfl (K.assign rfl) ?_
  refine KT.nil ?_
  refine thenK_n ?_
  refine KC.seq ?_
  refine KC.region ?_
  refine KT.step rfl rfl (K.move rfl) ?_
  refine KT.step rfl rfl (K.move rfl) ?_
  refine KT.step rfl rfl (K.assign rfl) ?_
  refine KT.step rfl rfl (K.assign rfl) ?_
  refine KT.nil ?_
  refine thenK_n ?_
  refine KC.ret ?_
  exact ⟨.inl rfl, _, rfl, rfl⟩
end Go.Proofs.YtdgahcbalabjdaaGreat

