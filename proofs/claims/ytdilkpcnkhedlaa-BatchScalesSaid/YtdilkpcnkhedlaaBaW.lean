import Derived.Test.YtdilkpcnkhedlaaBaV
/-
  Batch: starts and makespans.
-/
namespace Go.Proofs.Ytdilkpcnkhedlaa
open Go.Vm Go.Ht Go.Ba
/-- The graph that is returned with the times. -/
def sgA (N : Int) (J : List (List (Int × Int))) (l : List (List Int)) : DV := match stH N J l with | some _ => flV c2 J.flatten | none => Dnil
def sgB (N : Int) (J : List (List (Int × Int))) (l : List (List Int)) : DV := match stH N J l with | some _ => flV c2 (arcsO 0 J ++ ordA l) | none => Dnil
def sgC (N : Int) (J : List (List (Int × Int))) (l : List (List Int)) : DV := match stH N J l with | some _ => .sl ((msO N.toNat J.flatten).map intsV) N.toNat (some N.toNat) | none => Dnil
theorem sg_sld (N : Int) (J : List (List (Int × Int))) (l : List (List Int)) : SlD (sgA N J l) ∧ SlD (sgB N J l) ∧ SlD (sgC N J l) := by
  unfold sgA sgB sgC
  cases stH N J l with
  | none => exact ⟨.nil, .nil, .nil⟩
  | some hs => exact ⟨flV_sld _, flV_sld _, .sl _ _ _⟩
def schV (N : Int) (J : List (List (Int × Int))) (l : List (List Int)) : DV := .tup [.agg [sgA N J l, sgB N J l, sgC N J l], shV (stH N J l), DI (stE N J l)]
theorem sch_no1 {N : Int} {J : List (List (Int × Int))} {l : List (List Int)} (h : shopB N J = false) : schV N J l = .tup [.agg [Dnil, Dnil, Dnil], Dnil, DI 2] := by
  have h1 : stH N J l = none := by unfold stH; simp [h]
  have h2 : stE N J l = 2 := by unfold stE; simp [h]
  unfold schV sgA sgB sgC; rw [h1, h2]; rfl
theorem sch_no2 {N : Int} {J : List (List (Int × Int))} {l : List (List Int)} (h : shopB N J = true) (h2 : ordB N.toNat J.flatten l = false) : schV N J l = .tup [.agg [Dnil, Dnil, Dnil], Dnil, DI 4] := by
  have h1 : stH N J l = none := by unfold stH; simp [h, h2]
  have h3 : stE N J l = 4 := by unfold stE; simp [h, h2]
  unfold schV sgA sgB sgC; rw [h1, h3]; rfl
theorem sch_no3 {N : Int} {J : List (List (Int × Int))} {l : List (List Int)} (h : shopB N J = true) (h2 : ordB N.toNat J.flatten l = true) (h3 : hds J.flatten (arcsO 0 J ++ ordA l) = none) : schV N J l = .tup [.agg [Dnil, Dnil, Dnil], Dnil, DI 8] := by
  have h1 : stH N J l = none := by unfold stH; simp [h, h2, h3]
  have h4 : stE N J l = 8 := by unfold stE; simp [h, h2, h3]
  unfold schV sgA sgB sgC; rw [h1, h4]; rfl
theorem sch_ok {N : Int} {J : List (List (Int × Int))} {l : List (List Int)} {hs : List Int} (h : shopB N J = true) (h2 : ordB N.toNat J.flatten l = true) (h3 : hds J.flatten (arcsO 0 J ++ ordA l) = some hs) :
    schV N J l = .tup [.agg [flV c2 J.flatten, flV c2 (arcsO 0 J ++ ordA l), .sl ((msO N.toNat J.flatten).map intsV) N.toNat (some N.toNat)], hdV hs, DI 0] := by
  have h1 : stH N J l = some hs := by unfold stH; simp [h, h2, h3]
  have h4 : stE N J l = 0 := by unfold stE; simp [h, h2, h3]
  unfold schV sgA sgB sgC; rw [h1, h4]; rfl
theorem stE_zero {N : Int} {J : List (List (Int × Int))} {l : List (List Int)} : stE N J l = 0 ↔ ∃ hs, stH N J l = some hs := by
  cases h : shopB N J with
  | false => unfold stE stH; simp [h]
  | true =>
    cases h2 : ordB N.toNat J.flatten l with
    | false => unfold stE stH; simp [h, h2]
    | true =>
      cases h3 : hds J.flatten (arcsO 0 J ++ ordA l) with
      | none => unfold stE stH; simp [h, h2, h3]
      | some hs => unfold stE stH; simp [h, h2, h3]
set_option maxRecDepth 10000 in
theorem sch1 {N : Int} {jd : DV} {J : List (List (Int × Int))} (hd : JbD jd J) (hl : J.length ≤ 9223372036854775807) (hr : ∀ j ∈ J, j.length ≤ 9223372036854775807) {ld : DV} {l : List (List Int)} (_ : Mat ld l) (_ : l.length ≤ 100) (_ : ∀ r ∈ l, r.length ≤ 1000) (hsb : shopB N J = false) : DeepCall Try.prog 44 [.agg [DI N, jd], ld] (schV N J l) := by
  refine deepCall_K 5 Try.func44 rfl (Nat.le_of_ble_eq_true rfl) fun M W0 => ?_
  refine KC.seq ?_
  refine KC.region ?_
  refine KT.step rfl rfl (K.box rfl) ?_
  refine KT.step rfl rfl (K.alloc Try.zero82) ?_
  refine KT.step rfl rfl (K.assign rfl) ?_
  refine KT.step rfl rfl (K.assign rfl) ?_
  refine KT.nil ?_
  refine thenK_n ?_
  refine KC.seq ?_
  refine KC.seq ?_
  refine KC.region ?_
  refine KT.step rfl rfl (K.loadOA [DI N, jd] rfl rfl (by decide) Try.agg32 Try.size32 rfl) ?_
  refine KT.step rfl rfl (K.call1 rfl plainTry_50 ((by have h := valid50 (N := N) hd hl hr; rw [hsb] at h; exact h))) ?_
  refine KT.step rfl rfl (K.not rfl) ?_
  refine KT.nil ?_
  refine thenK_n ?_
  refine KC.cond rfl (fun hc12 => ?_) (fun hc12 => ?_)
  · skip
    refine KC.seq ?_
    refine KC.region ?_
    refine KT.step rfl rfl (K.buildL rfl zero82) ?_
    refine KT.putAll (cs := [.d Dnil, .d Dnil, .d Dnil]) rfl rfl rfl rfl rfl rfl rfl rfl Try.size82 ?_
    refine KT.step rfl rfl (K.assign rfl) ?_
    refine KT.step rfl rfl (K.assign rfl) ?_
    refine KT.nil ?_
    refine thenK_n ?_
    refine KC.ret ?_
    refine thenK_r ?_
    rw [sch_no1 hsb]
    exact ⟨.inl rfl, _, resK_ctt [Dnil, Dnil, Dnil] rfl rfl rfl (show (0 : Nat) < 2 by decide) Try.agg82 Try.size82 rfl rfl rfl, rfl⟩
  · skip
    exact absurd hc12 (by decide)
set_option maxRecDepth 10000 in
theorem sch2 {N : Int} {jd : DV} {J : List (List (Int × Int))} (hd : JbD jd J) (hl : J.length ≤ 9223372036854775807) (hr : ∀ j ∈ J, j.length ≤ 9223372036854775807) {ld : DV} {l : List (List Int)} (hm : Mat ld l) (hll : l.length ≤ 100) (hlr : ∀ r ∈ l, r.length ≤ 1000) (hsb : shopB N J = true) (hob : ordB N.toNat J.flatten l = false) : DeepCall Try.prog 44 [.agg [DI N, jd], ld] (schV N J l) := by
  have hS := shopB_iff.1 hsb
  have hal := arcsO_len 0 J
  have hn9 := hS.n9
  refine deepCall_K 5 Try.func44 rfl (Nat.le_of_ble_eq_true rfl) fun M W0 => ?_
  refine KC.seq ?_
  refine KC.region ?_
  refine KT.step rfl rfl (K.box rfl) ?_
  refine KT.step rfl rfl (K.alloc Try.zero82) ?_
  refine KT.step rfl rfl (K.assign rfl) ?_
  refine KT.step rfl rfl (K.assign rfl) ?_
  refine KT.nil ?_
  refine thenK_n ?_
  refine KC.seq ?_
  refine KC.seq ?_
  refine KC.region ?_
  refine KT.step rfl rfl (K.loadOA [DI N, jd] rfl rfl (by decide) Try.agg32 Try.size32 rfl) ?_
  refine KT.step rfl rfl (K.call1 rfl plainTry_50 ((by have h := valid50 (N := N) hd hl hr; rw [hsb] at h; exact h))) ?_
  refine KT.step rfl rfl (K.not rfl) ?_
  refine KT.nil ?_
  refine thenK_n ?_
  refine KC.cond rfl (fun hc12 => ?_) (fun hc12 => ?_)
  · skip
    exact absurd hc12 (by decide)
  · skip
    refine KC.skip ?_
    refine thenK_n ?_
    refine KC.seq ?_
    refine KC.region ?_
    refine KT.step rfl rfl (K.loadOA [DI N, jd] rfl rfl (by decide) Try.agg32 Try.size32 rfl) ?_
    refine KT.step rfl rfl (K.call1 rfl plainTry_51 (graph51 hd hS)) ?_
    refine KT.step rfl rfl (K.move rfl) ?_
    refine KT.step rfl rfl (K.call2 rfl rfl plainTry_69 (ordered_no hm hll hlr (by omega) hob)) ?_
    refine KT.step rfl rfl (K.move rfl) ?_
    refine KT.step rfl rfl (K.extract rfl rfl) ?_
    refine KT.step rfl rfl (K.extract rfl rfl) ?_
    refine KT.step rfl rfl (K.alloc Try.zero82) ?_
    refine KT.putAll (cs := [.d Dnil, .d Dnil, .d Dnil]) rfl rfl rfl rfl rfl rfl rfl rfl Try.size82 ?_
    refine KT.step rfl rfl (K.assign rfl) ?_
    refine KT.nil ?_
    refine thenK_n ?_
    refine KC.seq ?_
    refine KC.seq ?_
    refine KC.region ?_
    refine KT.step rfl rfl (K.move rfl) ?_
    refine KT.step rfl rfl (K.not rfl) ?_
    refine KT.nil ?_
    refine thenK_n ?_
    refine KC.cond rfl (fun hc22 => ?_) (fun hc22 => ?_)
    · skip
      refine KC.seq ?_
      refine KC.region ?_
      refine KT.step rfl rfl (K.buildL rfl zero82) ?_
      refine KT.putAll (cs := [.d Dnil, .d Dnil, .d Dnil]) rfl rfl rfl rfl rfl rfl rfl rfl Try.size82 ?_
      refine KT.step rfl rfl (K.assign rfl) ?_
      refine KT.step rfl rfl (K.assign rfl) ?_
      refine KT.nil ?_
      refine thenK_n ?_
      refine KC.ret ?_
      refine thenK_r ?_
      rw [sch_no2 hsb hob]
      exact ⟨.inl rfl, _, resK_ctt [Dnil, Dnil, Dnil] rfl rfl rfl (show (0 : Nat) < 2 by decide) Try.agg82 Try.size82 rfl rfl rfl, rfl⟩
    · skip
      exact absurd hc22 (by decide)
set_option maxRecDepth 10000 in
theorem sch3 {N : Int} {jd : DV} {J : List (List (Int × Int))} (hd : JbD jd J) (hl : J.length ≤ 9223372036854775807) (hr : ∀ j ∈ J, j.length ≤ 9223372036854775807) {ld : DV} {l : List (List Int)} (hm : Mat ld l) (hll : l.length ≤ 100) (hlr : ∀ r ∈ l, r.length ≤ 1000) (hsb : shopB N J = true) (hob : ordB N.toNat J.flatten l = true) (hh : hds J.flatten (arcsO 0 J ++ ordA l) = none) : DeepCall Try.prog 44 [.agg [DI N, jd], ld] (schV N J l) := by
  have hS := shopB_iff.1 hsb
  have hal := arcsO_len 0 J
  have hn9 := hS.n9
  have hK := stOk hsb hob
  refine deepCall_K 5 Try.func44 rfl (Nat.le_of_ble_eq_true rfl) fun M W0 => ?_
  refine KC.seq ?_
  refine KC.region ?_
  refine KT.step rfl rfl (K.box rfl) ?_
  refine KT.step rfl rfl (K.alloc Try.zero82) ?_
  refine KT.step rfl rfl (K.assign rfl) ?_
  refine KT.step rfl rfl (K.assign rfl) ?_
  refine KT.nil ?_
  refine thenK_n ?_
  refine KC.seq ?_
  refine KC.seq ?_
  refine KC.region ?_
  refine KT.step rfl rfl (K.loadOA [DI N, jd] rfl rfl (by decide) Try.agg32 Try.size32 rfl) ?_
  refine KT.step rfl rfl (K.call1 rfl plainTry_50 ((by have h := valid50 (N := N) hd hl hr; rw [hsb] at h; exact h))) ?_
  refine KT.step rfl rfl (K.not rfl) ?_
  refine KT.nil ?_
  refine thenK_n ?_
  refine KC.cond rfl (fun hc12 => ?_) (fun hc12 => ?_)
  · skip
    exact absurd hc12 (by decide)
  · skip
    refine KC.skip ?_
    refine thenK_n ?_
    refine KC.seq ?_
    refine KC.region ?_
    refine KT.step rfl rfl (K.loadOA [DI N, jd] rfl rfl (by decide) Try.agg32 Try.size32 rfl) ?_
    refine KT.step rfl rfl (K.call1 rfl plainTry_51 (graph51 hd hS)) ?_
    refine KT.step rfl rfl (K.move rfl) ?_
    refine KT.step rfl rfl (K.call2 rfl rfl plainTry_69 (ordered_ok hm hll hlr (by omega) hob)) ?_
    refine KT.step rfl rfl (K.move rfl) ?_
    refine KT.step rfl rfl (K.extract rfl rfl) ?_
    refine KT.step rfl rfl (K.extract rfl rfl) ?_
    refine KT.step rfl rfl (K.alloc Try.zero82) ?_
    refine KT.putAll (cs := [.d (flV c2 J.flatten), .d (flV c2 (arcsO 0 J ++ ordA l)), .d (.sl ((msO N.toNat J.flatten).map intsV) N.toNat (some N.toNat))]) rfl rfl rfl rfl rfl rfl rfl (one3 (flV_sld _) (.sl _ _ _) (flV_sld _).one) Try.size82 ?_
    refine KT.step rfl rfl (K.assign rfl) ?_
    refine KT.nil ?_
    refine thenK_n ?_
    refine KC.seq ?_
    refine KC.seq ?_
    refine KC.region ?_
    refine KT.step rfl rfl (K.move rfl) ?_
    refine KT.step rfl rfl (K.not rfl) ?_
    refine KT.nil ?_
    refine thenK_n ?_
    refine KC.cond rfl (fun hc22 => ?_) (fun hc22 => ?_)
    · skip
      exact absurd hc22 (by decide)
    · skip
      refine KC.skip ?_
      refine thenK_n ?_
      refine KC.seq ?_
      refine KC.region ?_
      refine KT.step rfl rfl (K.loadOA [flV c2 J.flatten, flV c2 (arcsO 0 J ++ ordA l), .sl ((msO N.toNat J.flatten).map intsV) N.toNat (some N.toNat)] rfl rfl (by decide) Try.agg82 Try.size82 rfl) ?_
      refine KT.step rfl rfl (K.call1 rfl plainTry_76 ((by have h := heads76 (c := .sl ((msO N.toNat J.flatten).map intsV) N.toNat (some N.toNat)) (flV_ok J.flatten) (flV_ok (arcsO 0 J ++ ordA l)) hK.n9 hK.len hK.tms hK.inn; rw [hh] at h; exact h))) ?_
      refine KT.step rfl rfl (K.move rfl) ?_
      refine KT.step rfl rfl (K.extract rfl rfl) ?_
      refine KT.step rfl rfl (K.extract rfl rfl) ?_
      refine KT.step rfl rfl (K.assign rfl) ?_
      refine KT.step rfl rfl (K.assign rfl) ?_
      refine KT.nil ?_
      refine thenK_n ?_
      refine KC.seq ?_
      refine KC.seq ?_
      refine KC.region ?_
      refine KT.step rfl rfl (K.move rfl) ?_
      refine KT.step rfl rfl (K.not rfl) ?_
      refine KT.nil ?_
      refine thenK_n ?_
      refine KC.cond rfl (fun hc30 => ?_) (fun hc30 => ?_)
      · skip
        refine KC.seq ?_
        refine KC.region ?_
        refine KT.step rfl rfl (K.buildL rfl zero82) ?_
        refine KT.putAll (cs := [.d Dnil, .d Dnil, .d Dnil]) rfl rfl rfl rfl rfl rfl rfl rfl Try.size82 ?_
        refine KT.step rfl rfl (K.assign rfl) ?_
        refine KT.step rfl rfl (K.assign rfl) ?_
        refine KT.nil ?_
        refine thenK_n ?_
        refine KC.ret ?_
        refine thenK_r ?_
        rw [sch_no3 hsb hob hh]
        exact ⟨.inl rfl, _, resK_ctt [Dnil, Dnil, Dnil] rfl rfl rfl (show (0 : Nat) < 2 by decide) Try.agg82 Try.size82 rfl rfl rfl, rfl⟩
      · skip
        exact absurd hc30 (by decide)
set_option maxRecDepth 10000 in
theorem sch4 {N : Int} {jd : DV} {J : List (List (Int × Int))} (hd : JbD jd J) (hl : J.length ≤ 9223372036854775807) (hr : ∀ j ∈ J, j.length ≤ 9223372036854775807) {ld : DV} {l : List (List Int)} (hm : Mat ld l) (hll : l.length ≤ 100) (hlr : ∀ r ∈ l, r.length ≤ 1000) (hsb : shopB N J = true) (hob : ordB N.toNat J.flatten l = true) {hs : List Int} (hh : hds J.flatten (arcsO 0 J ++ ordA l) = some hs) : DeepCall Try.prog 44 [.agg [DI N, jd], ld] (schV N J l) := by
  have hS := shopB_iff.1 hsb
  have hal := arcsO_len 0 J
  have hn9 := hS.n9
  have hK := stOk hsb hob
  refine deepCall_K 5 Try.func44 rfl (Nat.le_of_ble_eq_true rfl) fun M W0 => ?_
  refine KC.seq ?_
  refine KC.region ?_
  refine KT.step rfl rfl (K.box rfl) ?_
  refine KT.step rfl rfl (K.alloc Try.zero82) ?_
  refine KT.step rfl rfl (K.assign rfl) ?_
  refine KT.step rfl rfl (K.assign rfl) ?_
  refine KT.nil ?_
  refine thenK_n ?_
  refine KC.seq ?_
  refine KC.seq ?_
  refine KC.region ?_
  refine KT.step rfl rfl (K.loadOA [DI N, jd] rfl rfl (by decide) Try.agg32 Try.size32 rfl) ?_
  refine KT.step rfl rfl (K.call1 rfl plainTry_50 ((by have h := valid50 (N := N) hd hl hr; rw [hsb] at h; exact h))) ?_
  refine KT.step rfl rfl (K.not rfl) ?_
  refine KT.nil ?_
  refine thenK_n ?_
  refine KC.cond rfl (fun hc12 => ?_) (fun hc12 => ?_)
  · skip
    exact absurd hc12 (by decide)
  · skip
    refine KC.skip ?_
    refine thenK_n ?_
    refine KC.seq ?_
    refine KC.region ?_
    refine KT.step rfl rfl (K.loadOA [DI N, jd] rfl rfl (by decide) Try.agg32 Try.size32 rfl) ?_
    refine KT.step rfl rfl (K.call1 rfl plainTry_51 (graph51 hd hS)) ?_
    refine KT.step rfl rfl (K.move rfl) ?_
    refine KT.step rfl rfl (K.call2 rfl rfl plainTry_69 (ordered_ok hm hll hlr (by omega) hob)) ?_
    refine KT.step rfl rfl (K.move rfl) ?_
    refine KT.step rfl rfl (K.extract rfl rfl) ?_
    refine KT.step rfl rfl (K.extract rfl rfl) ?_
    refine KT.step rfl rfl (K.alloc Try.zero82) ?_
    refine KT.putAll (cs := [.d (flV c2 J.flatten), .d (flV c2 (arcsO 0 J ++ ordA l)), .d (.sl ((msO N.toNat J.flatten).map intsV) N.toNat (some N.toNat))]) rfl rfl rfl rfl rfl rfl rfl (one3 (flV_sld _) (.sl _ _ _) (flV_sld _).one) Try.size82 ?_
    refine KT.step rfl rfl (K.assign rfl) ?_
    refine KT.nil ?_
    refine thenK_n ?_
    refine KC.seq ?_
    refine KC.seq ?_
    refine KC.region ?_
    refine KT.step rfl rfl (K.move rfl) ?_
    refine KT.step rfl rfl (K.not rfl) ?_
    refine KT.nil ?_
    refine thenK_n ?_
    refine KC.cond rfl (fun hc22 => ?_) (fun hc22 => ?_)
    · skip
      exact absurd hc22 (by decide)
    · skip
      refine KC.skip ?_
      refine thenK_n ?_
      refine KC.seq ?_
      refine KC.region ?_
      refine KT.step rfl rfl (K.loadOA [flV c2 J.flatten, flV c2 (arcsO 0 J ++ ordA l), .sl ((msO N.toNat J.flatten).map intsV) N.toNat (some N.toNat)] rfl rfl (by decide) Try.agg82 Try.size82 rfl) ?_
      refine KT.step rfl rfl (K.call1 rfl plainTry_76 ((by have h := heads76 (c := .sl ((msO N.toNat J.flatten).map intsV) N.toNat (some N.toNat)) (flV_ok J.flatten) (flV_ok (arcsO 0 J ++ ordA l)) hK.n9 hK.len hK.tms hK.inn; rw [hh] at h; exact h))) ?_
      refine KT.step rfl rfl (K.move rfl) ?_
      refine KT.step rfl rfl (K.extract rfl rfl) ?_
      refine KT.step rfl rfl (K.extract rfl rfl) ?_
      refine KT.step rfl rfl (K.assign rfl) ?_
      refine KT.step rfl rfl (K.assign rfl) ?_
      refine KT.nil ?_
      refine thenK_n ?_
      refine KC.seq ?_
      refine KC.seq ?_
      refine KC.region ?_
      refine KT.step rfl rfl (K.move rfl) ?_
      refine KT.step rfl rfl (K.not rfl) ?_
      refine KT.nil ?_
      refine thenK_n ?_
      refine KC.cond rfl (fun hc30 => ?_) (fun hc30 => ?_)
      · skip
        exact absurd hc30 (by decide)
      · skip
        refine KC.skip ?_
        refine thenK_n ?_
        refine KC.seq ?_
        refine KC.region ?_
        refine KT.step rfl rfl (K.loadOA [flV c2 J.flatten, flV c2 (arcsO 0 J ++ ordA l), .sl ((msO N.toNat J.flatten).map intsV) N.toNat (some N.toNat)] rfl rfl (by decide) Try.agg82 Try.size82 rfl) ?_
        refine KT.step rfl rfl (K.move rfl) ?_
        refine KT.putAll (cs := [.d (flV c2 J.flatten), .d (flV c2 (arcsO 0 J ++ ordA l)), .d (.sl ((msO N.toNat J.flatten).map intsV) N.toNat (some N.toNat))]) rfl rfl rfl rfl rfl rfl rfl (one3 (flV_sld _) (.sl _ _ _) (flV_sld _).one) Try.size82 ?_
        refine KT.step rfl rfl (K.assign rfl) ?_
        refine KT.step rfl rfl (K.assign rfl) ?_
        refine KT.nil ?_
        refine thenK_n ?_
        refine KC.ret ?_
        rw [sch_ok hsb hob hh]
        exact ⟨.inl rfl, _, resK_ctt [flV c2 J.flatten, flV c2 (arcsO 0 J ++ ordA l), .sl ((msO N.toNat J.flatten).map intsV) N.toNat (some N.toNat)] rfl rfl rfl (show (0 : Nat) < 2 by decide) Try.agg82 Try.size82 rfl rfl rfl, rfl⟩
theorem scheduled44 {N : Int} {jd : DV} {J : List (List (Int × Int))} (hd : JbD jd J) (hl : J.length ≤ 9223372036854775807) (hr : ∀ j ∈ J, j.length ≤ 9223372036854775807) {ld : DV} {l : List (List Int)} (hm : Mat ld l) (hll : l.length ≤ 100) (hlr : ∀ r ∈ l, r.length ≤ 1000) : DeepCall Try.prog 44 [.agg [DI N, jd], ld] (schV N J l) := by
  cases hsb : shopB N J with
  | false => exact sch1 hd hl hr hm hll hlr hsb
  | true =>
    cases hob : ordB N.toNat J.flatten l with
    | false => exact sch2 hd hl hr hm hll hlr hsb hob
    | true =>
      cases hh : hds J.flatten (arcsO 0 J ++ ordA l) with
      | none => exact sch3 hd hl hr hm hll hlr hsb hob hh
      | some hs => exact sch4 hd hl hr hm hll hlr hsb hob hh
set_option maxRecDepth 10000 in
theorem starts16 {N : Int} {jd : DV} {J : List (List (Int × Int))} (hd : JbD jd J) (hl : J.length ≤ 9223372036854775807) (hr : ∀ j ∈ J, j.length ≤ 9223372036854775807) {ld : DV} {l : List (List Int)} (hm : Mat ld l) (hll : l.length ≤ 100) (hlr : ∀ r ∈ l, r.length ≤ 1000) : DeepCall Try.prog 16 [.agg [DI N, jd], ld] (stV N J l) := by
  refine deepCall_K 5 Try.func16 rfl (Nat.le_of_ble_eq_true rfl) fun M W0 => ?_
  refine KC.seq ?_
  refine KC.region ?_
  refine KT.step rfl rfl (K.box rfl) ?_
  refine KT.step rfl rfl (K.assign rfl) ?_
  refine KT.step rfl rfl (K.assign rfl) ?_
  refine KT.nil ?_
  refine thenK_n ?_
  refine KC.seq ?_
  refine KC.region ?_
  refine KT.step rfl rfl (K.loadOA [DI N, jd] rfl rfl (by decide) Try.agg32 Try.size32 rfl) ?_
  refine KT.step rfl rfl (K.move rfl) ?_
  refine KT.step rfl rfl (K.call2 rfl rfl plainTry_44 (scheduled44 hd hl hr hm hll hlr)) ?_
  refine KT.step rfl rfl (K.move rfl) ?_
  refine KT.step rfl rfl (K.extract rfl rfl) ?_
  refine KT.step rfl rfl (K.extract rfl rfl) ?_
  refine KT.step rfl rfl (K.extract rfl rfl) ?_
  refine KT.step rfl rfl (K.alloc Try.zero82) ?_
  refine KT.putAll (cs := [.d (sgA N J l), .d (sgB N J l), .d (sgC N J l)]) rfl rfl rfl rfl rfl rfl rfl (one3 (sg_sld N J l).1 (sg_sld N J l).2.2 (sg_sld N J l).2.1.one) Try.size82 ?_
  refine KT.step rfl rfl (K.assign rfl) ?_
  refine KT.step rfl rfl (K.assign rfl) ?_
  refine KT.nil ?_
  refine thenK_n ?_
  refine KC.seq ?_
  refine KC.region ?_
  refine KT.step rfl rfl (K.move rfl) ?_
  refine KT.step rfl rfl (K.move rfl) ?_
  refine KT.step rfl rfl (K.assign rfl) ?_
  refine KT.step rfl rfl (K.assign rfl) ?_
  refine KT.nil ?_
  refine thenK_n ?_
  refine KC.ret ?_
  exact ⟨.inl rfl, _, rfl, rfl⟩
set_option maxRecDepth 10000 in
theorem makespan20 {N : Int} {jd : DV} {J : List (List (Int × Int))} (hd : JbD jd J) (hl : J.length ≤ 9223372036854775807) (hr : ∀ j ∈ J, j.length ≤ 9223372036854775807) {ld : DV} {l : List (List Int)} (hm : Mat ld l) (hll : l.length ≤ 100) (hlr : ∀ r ∈ l, r.length ≤ 1000) : DeepCall Try.prog 20 [.agg [DI N, jd], ld] (.tup [DI (spE N J l), DI (stE N J l)]) := by
  refine deepCall_K 5 Try.func20 rfl (Nat.le_of_ble_eq_true rfl) fun M W0 => ?_
  refine KC.seq ?_
  refine KC.region ?_
  refine KT.step rfl rfl (K.box rfl) ?_
  refine KT.step rfl rfl (K.assign rfl) ?_
  refine KT.step rfl rfl (K.assign rfl) ?_
  refine KT.nil ?_
  refine thenK_n ?_
  refine KC.seq ?_
  refine KC.region ?_
  refine KT.step rfl rfl (K.loadOA [DI N, jd] rfl rfl (by decide) Try.agg32 Try.size32 rfl) ?_
  refine KT.step rfl rfl (K.move rfl) ?_
  refine KT.step rfl rfl (K.call2 rfl rfl plainTry_44 (scheduled44 hd hl hr hm hll hlr)) ?_
  refine KT.step rfl rfl (K.move rfl) ?_
  refine KT.step rfl rfl (K.extract rfl rfl) ?_
  refine KT.step rfl rfl (K.extract rfl rfl) ?_
  refine KT.step rfl rfl (K.extract rfl rfl) ?_
  refine KT.step rfl rfl (K.alloc Try.zero82) ?_
  refine KT.putAll (cs := [.d (sgA N J l), .d (sgB N J l), .d (sgC N J l)]) rfl rfl rfl rfl rfl rfl rfl (one3 (sg_sld N J l).1 (sg_sld N J l).2.2 (sg_sld N J l).2.1.one) Try.size82 ?_
  refine KT.step rfl rfl (K.assign rfl) ?_
  refine KT.step rfl rfl (K.assign rfl) ?_
  refine KT.nil ?_
  refine thenK_n ?_
  refine KC.seq ?_
  refine KC.seq ?_
  refine KC.region ?_
  refine KT.step rfl rfl (K.move rfl) ?_
  refine KT.step rfl rfl (K.neq rfl rfl) ?_
  refine KT.nil ?_
  refine thenK_n ?_
  refine KC.cond rfl (fun hc17 => ?_) (fun hc17 => ?_)
  · skip
    replace hc17 := of_decide_eq_true hc17
    have hhs : stH N J l = none := by
      cases h : stH N J l with
      | none => rfl
      | some hs => exact absurd (stE_zero.2 ⟨hs, h⟩) hc17
    refine KC.seq ?_
    refine KC.region ?_
    refine KT.step rfl rfl (K.move rfl) ?_
    refine KT.step rfl rfl (K.assign rfl) ?_
    refine KT.step rfl rfl (K.assign rfl) ?_
    refine KT.nil ?_
    refine thenK_n ?_
    refine KC.ret ?_
    refine thenK_r ?_
    exact ⟨.inl rfl, _, rfl, (by unfold spE; rw [hhs]; rfl)⟩
  · skip
    replace hc17 := of_decide_eq_false hc17
    obtain ⟨hs, hhs⟩ := stE_zero.1 (Classical.not_not.1 hc17)
    obtain ⟨hsb, hob, hh⟩ := stH_some hhs
    have hK := stOk hsb hob
    refine KC.skip ?_
    refine thenK_n ?_
    refine KC.seq ?_
    refine KC.region ?_
    refine KT.step rfl rfl (K.loadOA [sgA N J l, sgB N J l, sgC N J l] rfl rfl (by decide) Try.agg82 Try.size82 rfl) ?_
    refine KT.step rfl rfl (K.move rfl) ?_
    refine KT.step rfl rfl (K.call2 rfl rfl plainTry_49 (span49 (by rw [show sgA N J l = flV c2 J.flatten by unfold sgA; rw [hhs]]; exact flV_ok J.flatten) (by rw [hhs]; exact hdV_ok hs) (hds_length hh) hK.n9 hK.tms (fun x hx => by have := hds_bd hK.tms hK.inn hh hK.n9 hK.len x hx; omega))) ?_
    refine KT.step rfl rfl (K.assign rfl) ?_
    refine KT.step rfl rfl (K.assign rfl) ?_
    refine KT.nil ?_
    refine thenK_n ?_
    refine KC.ret ?_
    exact ⟨.inl rfl, _, rfl, (by unfold spE; rw [hhs, show stE N J l = 0 from Classical.not_not.1 hc17]; rfl)⟩
end Go.Proofs.Ytdilkpcnkhedlaa

