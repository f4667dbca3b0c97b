import Derived.Test.YtdgahcbalabjdaaGreatZBcB
import Derived.Test.YtdgahcbalabjdaaGreatZBaY
import Derived.Test.YtdgahcbalabjdaaGreatZBaI
/-
  Batch: the matrix of an order: the program, the reference, the law.
-/
namespace Go.Proofs.YtdgahcbalabjdaaGreat
open Go.Vm Go.Ht Go.Ba Go.Cy

theorem plainTryz_8 : plainFn Tryz.prog 8 = true := by kernel_rfl
theorem arcsO_lt : ∀ (off : Nat) {J : List (List (Int × Int))}, J ≠ [] → (∀ j ∈ J, 1 ≤ j.length) → (arcsO off J).length + 1 ≤ J.flatten.length
  | off, [], h, _ => absurd rfl h
  | off, j :: J, _, h => by
    have h1 := arcsO_len (off + j.length) J
    have h2 := h j (by simp)
    rw [arcsO, List.length_append, arcsK_len, List.flatten_cons, List.length_append]; omega
theorem ordA_len8 : ∀ {l : List (List Int)}, (∀ r ∈ l, r.length ≤ 9) → (ordA l).length ≤ l.length * 8
  | [], _ => by simp [ordA]
  | r :: l, h => by
    have h1 := ordA_len8 (l := l) fun x hx => h x (by simp [hx])
    have h2 := h r (by simp)
    have h3 : (ordA (r :: l)).length = (r.length - 1) + (ordA l).length := by simp [ordA, consT]
    rw [h3, List.length_cons]; omega
theorem all_len40 {N : Int} {J : List (List (Int × Int))} {l : List (List Int)} (hK : StOk N J l) : (arcsO 0 J ++ ordA l).length ≤ 40 := by
  have h1 := arcsO_lt 0 (J := J) (fun h => by have := hK.sh.j1; rw [h] at this; simp at this) fun j hj => (hK.h4 j hj).1
  have h2 := ordA_len8 hK.r9
  have := hK.n9
  have := hK.l4
  rw [List.length_append]; omega
theorem dq_vq {os ar : List (Int × Int)} (hT : Times os) (hin : ArcsIn os.length ar) (h9 : os.length ≤ 9) : ∀ q ∈ ar.map (dq os), VQ q := fun q hq => by
  obtain ⟨a, ha, rfl⟩ := List.mem_map.1 hq
  obtain ⟨q1, q2, q3, q4⟩ := hin a ha
  have := tm_bd hT q1 q2
  exact ⟨⟨q1, by show a.1 ≤ 11; omega⟩, ⟨q3, by show a.2 ≤ 11; omega⟩, ⟨by show -1000 ≤ tm os a.1; omega, by show tm os a.1 ≤ 1000; omega⟩, by show (0 : Int) ≤ 0; omega, by show (0 : Int) ≤ 20; omega⟩
theorem jn_bds (ar : List (Int × Int)) : Bds 12 (jn ar) := ⟨by omega, by omega, fun i j => (jn_good ar i j).mono (by omega)⟩
theorem ratE_some {os ar : List (Int × Int)} {hs : List Int} (hT : Times os) (h1 : 1 ≤ os.length) (hin : ArcsIn os.length ar) (h9 : os.length ≤ 9) (h : hds os ar = some hs) : ratE (ar.map (dq os)) = 5 := by
  unfold ratE
  rw [dq_pr, (mean_iff (n := 12) hT h1 hin (by omega)).2 ⟨hs, h⟩]; rfl
theorem ratE_none {os ar : List (Int × Int)} (hT : Times os) (h1 : 1 ≤ os.length) (hin : ArcsIn os.length ar) (h9 : os.length ≤ 9) (h : hds os ar = none) : ratE (ar.map (dq os)) = 8 := by
  unfold ratE
  rw [dq_pr]
  cases hm : meanI 12 (jn ar) with
  | none =>
    obtain ⟨hs, e⟩ := (mean_iff (n := 12) hT h1 hin (by omega)).1 hm
    rw [h] at e; cases e
  | some m => rfl
/-- The error of Weights, and the matrix. -/
def wtE (N : Int) (J : List (List (Int × Int))) (l : List (List Int)) : Int := if stE N J l = 0 then (if 6 < J.flatten.length then 2 else 0) else stE N J l
def wtV (N : Int) (J : List (List (Int × Int))) (l : List (List Int)) : DV := if wtE N J l = 0 then genD 6 6 (wI J.flatten (arcsO 0 J ++ ordA l)) else Dnil
def wtR (N : Int) (J : List (List (Int × Int))) (l : List (List Int)) : DV := if wtE N J l = 0 then genS 6 (wI J.flatten (arcsO 0 J ++ ordA l)) 6 else Dnil
def wtM (N : Int) (J : List (List (Int × Int))) (l : List (List Int)) : List (List Int) := if wtE N J l = 0 then genM 6 6 (wI J.flatten (arcsO 0 J ++ ordA l)) else []
theorem wtV_mat (N : Int) (J : List (List (Int × Int))) (l : List (List Int)) : Mat (wtV N J l) (wtM N J l) := by unfold wtV wtM; split; exact genD_mat; exact .nil
theorem wtR_mat (N : Int) (J : List (List (Int × Int))) (l : List (List Int)) : Mat (wtR N J l) (wtM N J l) := by unfold wtR wtM; split; exact genS_mat; exact .nil
theorem wtV_no {N : Int} {J : List (List (Int × Int))} {l : List (List Int)} {e : Int} (h : wtE N J l = e) (h0 : e ≠ 0) : (.tup [wtV N J l, DI (wtE N J l)] : DV) = .tup [Dnil, DI e] := by unfold wtV; rw [h, if_neg h0]
theorem wtR_no {N : Int} {J : List (List (Int × Int))} {l : List (List Int)} {e : Int} (h : wtE N J l = e) (h0 : e ≠ 0) : (.tup [wtR N J l, DI (wtE N J l)] : DV) = .tup [Dnil, DI e] := by unfold wtR; rw [h, if_neg h0]
set_option maxRecDepth 10000 in
theorem wt1 {N : Int} {jd : DV} {J : List (List (Int × Int))} (hd : JbD jd J) (hl : J.length ≤ 9223372036854775807) (hr : ∀ j ∈ J, j.length ≤ 9223372036854775807) {ld : DV} {l : List (List Int)} (_ : Mat ld l) (_ : l.length ≤ 100) (_ : ∀ r ∈ l, r.length ≤ 1000) (hsb : shopB N J = false) : DeepCall Tryz.prog 5 [.agg [DI N, jd], ld] (.tup [wtV N J l, DI (wtE N J l)]) := by
  refine deepCall_K 5 Tryz.func5 rfl (Nat.le_of_ble_eq_true rfl) fun M W0 => ?_
  refine KC.seq ?_
  refine KC.region ?_
  refine KT.step rfl rfl (K.box rfl) ?_
  refine KT.step rfl rfl (K.assign rfl) ?_
  refine KT.step rfl rfl (K.assign rfl) ?_
  refine KT.nil ?_
  refine thenK_n ?_
  refine KC.seq ?_
  refine KC.seq ?_
  refine KC.region ?_
  refine KT.step rfl rfl (K.loadOA [DI N, jd] rfl rfl (by decide) Tryz.agg31 Tryz.size31 rfl) ?_
  refine KT.step rfl rfl (K.call1 rfl plainTryz_15 ((by have h := valid47 (N := N) hd hl hr; rw [hsb] at h; exact h))) ?_
  refine KT.step rfl rfl (K.not rfl) ?_
  refine KT.nil ?_
  refine thenK_n ?_
  refine KC.cond rfl (fun hc13 => ?_) (fun hc13 => ?_)
  · skip
    refine KC.seq ?_
    refine KC.region ?_
    refine KT.step rfl rfl (K.assign rfl) ?_
    refine KT.step rfl rfl (K.assign rfl) ?_
    refine KT.nil ?_
    refine thenK_n ?_
    refine KC.ret ?_
    refine thenK_r ?_
    rw [wtV_no (e := 2) (by unfold wtE stE; rw [hsb]; rfl) (by decide)]
    exact ⟨.inl rfl, _, rfl, rfl⟩
  · skip
    exact absurd hc13 (by decide)
set_option maxRecDepth 10000 in
theorem wt2 {N : Int} {jd : DV} {J : List (List (Int × Int))} (hd : JbD jd J) (hl : J.length ≤ 9223372036854775807) (hr : ∀ j ∈ J, j.length ≤ 9223372036854775807) {ld : DV} {l : List (List Int)} (hm : Mat ld l) (hll : l.length ≤ 100) (hlr : ∀ r ∈ l, r.length ≤ 1000) (hsb : shopB N J = true) (hob : ordB N.toNat J.flatten l = false) : DeepCall Tryz.prog 5 [.agg [DI N, jd], ld] (.tup [wtV N J l, DI (wtE N J l)]) := by
  have hS := shopB_iff.1 hsb
  have hal := arcsO_len 0 J
  have hn9 := hS.n9
  refine deepCall_K 5 Tryz.func5 rfl (Nat.le_of_ble_eq_true rfl) fun M W0 => ?_
  refine KC.seq ?_
  refine KC.region ?_
  refine KT.step rfl rfl (K.box rfl) ?_
  refine KT.step rfl rfl (K.assign rfl) ?_
  refine KT.step rfl rfl (K.assign rfl) ?_
  refine KT.nil ?_
  refine thenK_n ?_
  refine KC.seq ?_
  refine KC.seq ?_
  refine KC.region ?_
  refine KT.step rfl rfl (K.loadOA [DI N, jd] rfl rfl (by decide) Tryz.agg31 Tryz.size31 rfl) ?_
  refine KT.step rfl rfl (K.call1 rfl plainTryz_15 ((by have h := valid47 (N := N) hd hl hr; rw [hsb] at h; exact h))) ?_
  refine KT.step rfl rfl (K.not rfl) ?_
  refine KT.nil ?_
  refine thenK_n ?_
  refine KC.cond rfl (fun hc13 => ?_) (fun hc13 => ?_)
  · skip
    exact absurd hc13 (by decide)
  · skip
    refine KC.skip ?_
    refine thenK_n ?_
    refine KC.seq ?_
    refine KC.region ?_
    refine KT.step rfl rfl (K.loadOA [DI N, jd] rfl rfl (by decide) Tryz.agg31 Tryz.size31 rfl) ?_
    refine KT.step rfl rfl (K.call1 rfl plainTryz_16 (graph48 hd hS)) ?_
    refine KT.step rfl rfl (K.move rfl) ?_
    refine KT.step rfl rfl (K.call2 rfl rfl plainTryz_17 (ordered_no hm hll hlr (by omega) hob)) ?_
    refine KT.step rfl rfl (K.move rfl) ?_
    refine KT.step rfl rfl (K.extract rfl rfl) ?_
    refine KT.step rfl rfl (K.extract rfl rfl) ?_
    refine KT.step rfl rfl (K.alloc Tryz.zero47) ?_
    refine KT.putAll (cs := [.d Dnil, .d Dnil, .d Dnil]) rfl rfl rfl rfl rfl rfl rfl rfl Tryz.size47 ?_
    refine KT.step rfl rfl (K.assign rfl) ?_
    refine KT.nil ?_
    refine thenK_n ?_
    refine KC.seq ?_
    refine KC.seq ?_
    refine KC.region ?_
    refine KT.step rfl rfl (K.move rfl) ?_
    refine KT.step rfl rfl (K.not rfl) ?_
    refine KT.nil ?_
    refine thenK_n ?_
    refine KC.cond rfl (fun hc22 => ?_) (fun hc22 => ?_)
    · skip
      refine KC.seq ?_
      refine KC.region ?_
      refine KT.step rfl rfl (K.assign rfl) ?_
      refine KT.step rfl rfl (K.assign rfl) ?_
      refine KT.nil ?_
      refine thenK_n ?_
      refine KC.ret ?_
      refine thenK_r ?_
      rw [wtV_no (e := 4) (by unfold wtE stE; rw [hsb, hob]; rfl) (by decide)]
      exact ⟨.inl rfl, _, rfl, rfl⟩
    · skip
      exact absurd hc22 (by decide)
set_option maxRecDepth 10000 in
theorem wt3 {N : Int} {jd : DV} {J : List (List (Int × Int))} (hd : JbD jd J) (hl : J.length ≤ 9223372036854775807) (hr : ∀ j ∈ J, j.length ≤ 9223372036854775807) {ld : DV} {l : List (List Int)} (hm : Mat ld l) (hll : l.length ≤ 100) (hlr : ∀ r ∈ l, r.length ≤ 1000) (hsb : shopB N J = true) (hob : ordB N.toNat J.flatten l = true) (hh : hds J.flatten (arcsO 0 J ++ ordA l) = none) : DeepCall Tryz.prog 5 [.agg [DI N, jd], ld] (.tup [wtV N J l, DI (wtE N J l)]) := by
  have hS := shopB_iff.1 hsb
  have hal := arcsO_len 0 J
  have hn9 := hS.n9
  have hK := stOk hsb hob
  have h40 := all_len40 hK
  refine deepCall_K 5 Tryz.func5 rfl (Nat.le_of_ble_eq_true rfl) fun M W0 => ?_
  refine KC.seq ?_
  refine KC.region ?_
  refine KT.step rfl rfl (K.box rfl) ?_
  refine KT.step rfl rfl (K.assign rfl) ?_
  refine KT.step rfl rfl (K.assign rfl) ?_
  refine KT.nil ?_
  refine thenK_n ?_
  refine KC.seq ?_
  refine KC.seq ?_
  refine KC.region ?_
  refine KT.step rfl rfl (K.loadOA [DI N, jd] rfl rfl (by decide) Tryz.agg31 Tryz.size31 rfl) ?_
  refine KT.step rfl rfl (K.call1 rfl plainTryz_15 ((by have h := valid47 (N := N) hd hl hr; rw [hsb] at h; exact h))) ?_
  refine KT.step rfl rfl (K.not rfl) ?_
  refine KT.nil ?_
  refine thenK_n ?_
  refine KC.cond rfl (fun hc13 => ?_) (fun hc13 => ?_)
  · skip
    exact absurd hc13 (by decide)
  · skip
    refine KC.skip ?_
    refine thenK_n ?_
    refine KC.seq ?_
    refine KC.region ?_
    refine KT.step rfl rfl (K.loadOA [DI N, jd] rfl rfl (by decide) Tryz.agg31 Tryz.size31 rfl) ?_
    refine KT.step rfl rfl (K.call1 rfl plainTryz_16 (graph48 hd hS)) ?_
    refine KT.step rfl rfl (K.move rfl) ?_
    refine KT.step rfl rfl (K.call2 rfl rfl plainTryz_17 (ordered_ok hm hll hlr (by omega) hob)) ?_
    refine KT.step rfl rfl (K.move rfl) ?_
    refine KT.step rfl rfl (K.extract rfl rfl) ?_
    refine KT.step rfl rfl (K.extract rfl rfl) ?_
    refine KT.step rfl rfl (K.alloc Tryz.zero47) ?_
    refine KT.putAll (cs := [.d (flV c2 J.flatten), .d (flV c2 (arcsO 0 J ++ ordA l)), .d (.sl ((msO N.toNat J.flatten).map intsV) N.toNat (some N.toNat))]) rfl rfl rfl rfl rfl rfl rfl (one3 (flV_sld _) (.sl _ _ _) (flV_sld _).one) Tryz.size47 ?_
    refine KT.step rfl rfl (K.assign rfl) ?_
    refine KT.nil ?_
    refine thenK_n ?_
    refine KC.seq ?_
    refine KC.seq ?_
    refine KC.region ?_
    refine KT.step rfl rfl (K.move rfl) ?_
    refine KT.step rfl rfl (K.not rfl) ?_
    refine KT.nil ?_
    refine thenK_n ?_
    refine KC.cond rfl (fun hc22 => ?_) (fun hc22 => ?_)
    · skip
      exact absurd hc22 (by decide)
    · skip
      refine KC.skip ?_
      refine thenK_n ?_
      refine KC.seq ?_
      refine KC.seq ?_
      refine KC.region ?_
      refine KT.step rfl rfl (K.loadOA [flV c2 J.flatten, flV c2 (arcsO 0 J ++ ordA l), .sl ((msO N.toNat J.flatten).map intsV) N.toNat (some N.toNat)] rfl rfl (by decide) Tryz.agg47 Tryz.size47 rfl) ?_
      refine KT.step rfl rfl (K.call1 rfl plainTryz_19 (delays19 (c := .sl ((msO N.toNat J.flatten).map intsV) N.toNat (some N.toNat)) (flV_ok J.flatten) (flV_ok (arcsO 0 J ++ ordA l)) hK.len hK.inn)) ?_
      refine KT.step rfl rfl (K.call1 rfl plainTryz_18 ((by have h := ratio18 (flV_ok ((arcsO 0 J ++ ordA l).map (dq J.flatten))) (by rw [List.length_map]; exact h40) (dq_vq hK.tms hK.inn hK.n9) (fun q hq => by obtain ⟨a, _, rfl⟩ := List.mem_map.1 hq; rfl) (by rw [dq_pr]; exact jn_bds _); rw [ratE_none hK.tms hK.pos hK.inn hK.n9 hh] at h; exact h))) ?_
      refine KT.step rfl rfl (K.move rfl) ?_
      refine KT.step rfl rfl (K.extract rfl rfl) ?_
      refine KT.step rfl rfl (K.extract rfl rfl) ?_
      refine KT.step rfl rfl (K.extract rfl rfl) ?_
      refine KT.step rfl rfl (K.assign rfl) ?_
      refine KT.step rfl rfl (K.assign rfl) ?_
      refine KT.step rfl rfl (K.assign rfl) ?_
      refine KT.nil ?_
      refine thenK_n ?_
      refine KC.seq ?_
      refine KC.region ?_
      refine KT.step rfl rfl (K.move rfl) ?_
      refine KT.step rfl rfl (K.eql rfl rfl) ?_
      refine KT.nil ?_
      refine thenK_n ?_
      refine KC.cond rfl (fun hc31 => ?_) (fun hc31 => ?_)
      · skip
        replace hc31 := of_decide_eq_true hc31
        refine KC.seq ?_
        refine KC.region ?_
        refine KT.step rfl rfl (K.move rfl) ?_
        refine KT.step rfl rfl (K.assign rfl) ?_
        refine KT.step rfl rfl (K.assign rfl) ?_
        refine KT.nil ?_
        refine thenK_n ?_
        refine KC.ret ?_
        refine thenK_r ?_
        rw [wtV_no (e := 8) (by unfold wtE stE; rw [hsb, hob, hh]; rfl) (by decide)]
        exact ⟨.inl rfl, _, rfl, rfl⟩
      · skip
        exact absurd hc31 (by decide)
set_option maxRecDepth 10000 in
theorem wt4 {N : Int} {jd : DV} {J : List (List (Int × Int))} (hd : JbD jd J) (hl : J.length ≤ 9223372036854775807) (hr : ∀ j ∈ J, j.length ≤ 9223372036854775807) {ld : DV} {l : List (List Int)} (hm : Mat ld l) (hll : l.length ≤ 100) (hlr : ∀ r ∈ l, r.length ≤ 1000) (hsb : shopB N J = true) (hob : ordB N.toNat J.flatten l = true) {hs : List Int} (hh : hds J.flatten (arcsO 0 J ++ ordA l) = some hs) : DeepCall Tryz.prog 5 [.agg [DI N, jd], ld] (.tup [wtV N J l, DI (wtE N J l)]) := by
  have hS := shopB_iff.1 hsb
  have hal := arcsO_len 0 J
  have hn9 := hS.n9
  have hK := stOk hsb hob
  have h40 := all_len40 hK
  have hst : stE N J l = 0 := by unfold stE; rw [hsb, hob, hh]; rfl
  refine deepCall_K 5 Tryz.func5 rfl (Nat.le_of_ble_eq_true rfl) fun M W0 => ?_
  refine KC.seq ?_
  refine KC.region ?_
  refine KT.step rfl rfl (K.box rfl) ?_
  refine KT.step rfl rfl (K.assign rfl) ?_
  refine KT.step rfl rfl (K.assign rfl) ?_
  refine KT.nil ?_
  refine thenK_n ?_
  refine KC.seq ?_
  refine KC.seq ?_
  refine KC.region ?_
  refine KT.step rfl rfl (K.loadOA [DI N, jd] rfl rfl (by decide) Tryz.agg31 Tryz.size31 rfl) ?_
  refine KT.step rfl rfl (K.call1 rfl plainTryz_15 ((by have h := valid47 (N := N) hd hl hr; rw [hsb] at h; exact h))) ?_
  refine KT.step rfl rfl (K.not rfl) ?_
  refine KT.nil ?_
  refine thenK_n ?_
  refine KC.cond rfl (fun hc13 => ?_) (fun hc13 => ?_)
  · skip
    exact absurd hc13 (by decide)
  · skip
    refine KC.skip ?_
    refine thenK_n ?_
    refine KC.seq ?_
    refine KC.region ?_
    refine KT.step rfl rfl (K.loadOA [DI N, jd] rfl rfl (by decide) Tryz.agg31 Tryz.size31 rfl) ?_
    refine KT.step rfl rfl (K.call1 rfl plainTryz_16 (graph48 hd hS)) ?_
    refine KT.step rfl rfl (K.move rfl) ?_
    refine KT.step rfl rfl (K.call2 rfl rfl plainTryz_17 (ordered_ok hm hll hlr (by omega) hob)) ?_
    refine KT.step rfl rfl (K.move rfl) ?_
    refine KT.step rfl rfl (K.extract rfl rfl) ?_
    refine KT.step rfl rfl (K.extract rfl rfl) ?_
    refine KT.step rfl rfl (K.alloc Tryz.zero47) ?_
    refine KT.putAll (cs := [.d (flV c2 J.flatten), .d (flV c2 (arcsO 0 J ++ ordA l)), .d (.sl ((msO N.toNat J.flatten).map intsV) N.toNat (some N.toNat))]) rfl rfl rfl rfl rfl rfl rfl (one3 (flV_sld _) (.sl _ _ _) (flV_sld _).one) Tryz.size47 ?_
    refine KT.step rfl rfl (K.assign rfl) ?_
    refine KT.nil ?_
    refine thenK_n ?_
    refine KC.seq ?_
    refine KC.seq ?_
    refine KC.region ?_
    refine KT.step rfl rfl (K.move rfl) ?_
    refine KT.step rfl rfl (K.not rfl) ?_
    refine KT.nil ?_
    refine thenK_n ?_
    refine KC.cond rfl (fun hc22 => ?_) (fun hc22 => ?_)
    · skip
      exact absurd hc22 (by decide)
    · skip
      refine KC.skip ?_
      refine thenK_n ?_
      refine KC.seq ?_
      refine KC.seq ?_
      refine KC.region ?_
      refine KT.step rfl rfl (K.loadOA [flV c2 J.flatten, flV c2 (arcsO 0 J ++ ordA l), .sl ((msO N.toNat J.flatten).map intsV) N.toNat (some N.toNat)] rfl rfl (by decide) Tryz.agg47 Tryz.size47 rfl) ?_
      refine KT.step rfl rfl (K.call1 rfl plainTryz_19 (delays19 (c := .sl ((msO N.toNat J.flatten).map intsV) N.toNat (some N.toNat)) (flV_ok J.flatten) (flV_ok (arcsO 0 J ++ ordA l)) hK.len hK.inn)) ?_
      refine KT.step rfl rfl (K.call1 rfl plainTryz_18 ((by have h := ratio18 (flV_ok ((arcsO 0 J ++ ordA l).map (dq J.flatten))) (by rw [List.length_map]; exact h40) (dq_vq hK.tms hK.inn hK.n9) (fun q hq => by obtain ⟨a, _, rfl⟩ := List.mem_map.1 hq; rfl) (by rw [dq_pr]; exact jn_bds _); rw [ratE_some hK.tms hK.pos hK.inn hK.n9 hh] at h; exact h))) ?_
      refine KT.step rfl rfl (K.move rfl) ?_
      refine KT.step rfl rfl (K.extract rfl rfl) ?_
      refine KT.step rfl rfl (K.extract rfl rfl) ?_
      refine KT.step rfl rfl (K.extract rfl rfl) ?_
      refine KT.step rfl rfl (K.assign rfl) ?_
      refine KT.step rfl rfl (K.assign rfl) ?_
      refine KT.step rfl rfl (K.assign rfl) ?_
      refine KT.nil ?_
      refine thenK_n ?_
      refine KC.seq ?_
      refine KC.region ?_
      refine KT.step rfl rfl (K.move rfl) ?_
      refine KT.step rfl rfl (K.eql rfl rfl) ?_
      refine KT.nil ?_
      refine thenK_n ?_
      refine KC.cond rfl (fun hc31 => ?_) (fun hc31 => ?_)
      · skip
        exact absurd hc31 (by decide)
      · skip
        replace hc31 := of_decide_eq_false hc31
        refine KC.skip ?_
        refine thenK_n ?_
        refine KC.seq ?_
        refine KC.seq ?_
        refine KC.region ?_
        refine KT.step rfl rfl (K.loadOA [DI N, jd] rfl rfl (by decide) Tryz.agg31 Tryz.size31 rfl) ?_
        refine KT.step rfl rfl (K.call1 rfl plainTryz_20 (size70 hd hS.j3 (fun j hj => (hK.h4 j hj).2))) ?_
        refine KT.step rfl rfl (K.gtr rfl rfl) ?_
        refine KT.nil ?_
        refine thenK_n ?_
        refine KC.cond rfl (fun hc35 => ?_) (fun hc35 => ?_)
        · skip
          replace hc35 := of_decide_eq_true hc35
          refine KC.seq ?_
          refine KC.region ?_
          refine KT.step rfl rfl (K.assign rfl) ?_
          refine KT.step rfl rfl (K.assign rfl) ?_
          refine KT.nil ?_
          refine thenK_n ?_
          refine KC.ret ?_
          refine thenK_r ?_
          rw [wtV_no (e := 2) (by unfold wtE; rw [hst, if_pos rfl, if_pos (by omega)]) (by decide)]
          exact ⟨.inl rfl, _, rfl, rfl⟩
        · skip
          replace hc35 := of_decide_eq_false hc35
          refine KC.skip ?_
          refine thenK_n ?_
          refine KC.seq ?_
          refine KC.region ?_
          refine KT.step rfl rfl (K.loadOA [flV c2 J.flatten, flV c2 (arcsO 0 J ++ ordA l), .sl ((msO N.toNat J.flatten).map intsV) N.toNat (some N.toNat)] rfl rfl (by decide) Tryz.agg47 Tryz.size47 rfl) ?_
          refine KT.step rfl rfl (K.call1 rfl plainTryz_21 (weights21 (c := .sl ((msO N.toNat J.flatten).map intsV) N.toNat (some N.toNat)) (flV_ok J.flatten) (flV_ok (arcsO 0 J ++ ordA l)) hK.len hK.tms hK.inn (by omega))) ?_
          refine KT.step rfl rfl (K.assign rfl) ?_
          refine KT.step rfl rfl (K.assign rfl) ?_
          refine KT.nil ?_
          refine thenK_n ?_
          refine KC.ret ?_
          have e0 : wtE N J l = 0 := by unfold wtE; rw [hst, if_pos rfl, if_neg (by omega)]
          exact ⟨.inl rfl, _, rfl, by show some _ = some _; unfold wtV; rw [e0]; rfl⟩
theorem Weights5 {N : Int} {jd : DV} {J : List (List (Int × Int))} (hd : JbD jd J) (hl : J.length ≤ 9223372036854775807) (hr : ∀ j ∈ J, j.length ≤ 9223372036854775807) {ld : DV} {l : List (List Int)} (hm : Mat ld l) (hll : l.length ≤ 100) (hlr : ∀ r ∈ l, r.length ≤ 1000) : DeepCall Tryz.prog 5 [.agg [DI N, jd], ld] (.tup [wtV N J l, DI (wtE N J l)]) := by
  cases hsb : shopB N J with
  | false => exact wt1 hd hl hr hm hll hlr hsb
  | true =>
    cases hob : ordB N.toNat J.flatten l with
    | false => exact wt2 hd hl hr hm hll hlr hsb hob
    | true =>
      cases hh : hds J.flatten (arcsO 0 J ++ ordA l) with
      | none => exact wt3 hd hl hr hm hll hlr hsb hob hh
      | some hs => exact wt4 hd hl hr hm hll hlr hsb hob hh
theorem cut_wtE {N : Int} {J : List (List (Int × Int))} {l : List (List Int)} : wtE N (cutJ J) (cutL l) = wtE N J l ∧ wtV N (cutJ J) (cutL l) = wtV N J l := by
  have h2 := (cut_st (N := N) (J := J) (l := l)).2
  by_cases h0 : stE N J l = 0
  · obtain ⟨hs, hst⟩ := stE_zero.1 h0
    obtain ⟨a, b, _⟩ := stH_some hst
    have hS := shopB_iff.1 a
    obtain ⟨c, d⟩ := ord_rows b
    rw [cutJ_ok a, cutL_ok c (by have := hS.m4; omega) d hS.n9]
    exact ⟨rfl, rfl⟩
  · have e : wtE N (cutJ J) (cutL l) = wtE N J l := by unfold wtE; rw [h2, if_neg h0, if_neg h0]
    have e2 : wtE N J l ≠ 0 := by unfold wtE; rw [if_neg h0]; exact h0
    refine ⟨e, ?_⟩
    unfold wtV
    rw [e, if_neg e2, if_neg e2]
theorem weights_cut {N : Int} {jd : DV} {J : List (List (Int × Int))} (_ : JbD jd J) (_ : J.length ≤ 9223372036854775807) (_ : ∀ j ∈ J, j.length ≤ 9223372036854775807) {ld : DV} {l : List (List Int)} (hm : Mat ld l) (_ : l.length ≤ 9223372036854775807) (_ : ∀ r ∈ l, r.length ≤ 9223372036854775807) : DeepCall Tryz.prog 5 [.agg [DI N, jobsV (cutJ J)], rows12 l ld] (.tup [wtV N J l, DI (wtE N J l)]) := by
  have h := Weights5 (N := N) (jobsV_ok (cutJ J)) (by have := cutJ_len J; omega) (fun j hj => by have := cutJ_row j hj; omega) (rows12_mat hm) (by have := cutL_len l; unfold cutL at this; omega) (fun r hr => by have := cutL_row r hr; omega)
  rw [show (l.take 6).map (List.take 12) = cutL l from rfl, cut_wtE.1, cut_wtE.2] at h
  exact h
set_option maxRecDepth 10000 in
theorem rwt_no {N : Int} {jd : DV} {J : List (List (Int × Int))} (hd : JbD jd J) (hl : J.length ≤ 9223372036854775807) (hr : ∀ j ∈ J, j.length ≤ 9223372036854775807) {ld : DV} {l : List (List Int)} (hm : Mat ld l) (hll : l.length ≤ 9223372036854775807) (hlr : ∀ r ∈ l, r.length ≤ 9223372036854775807) (h0 : stE N J l ≠ 0) : DeepCall Tryz.prog 8 [.agg [DI N, jd], ld] (.tup [wtR N J l, DI (wtE N J l)]) := by
  refine deepCall_K 5 Tryz.func8 rfl (Nat.le_of_ble_eq_true rfl) fun M W0 => ?_
  refine KC.seq ?_
  refine KC.region ?_
  refine KT.step rfl rfl (K.box rfl) ?_
  refine KT.step rfl rfl (K.assign rfl) ?_
  refine KT.step rfl rfl (K.assign rfl) ?_
  refine KT.nil ?_
  refine thenK_n ?_
  refine KC.seq ?_
  refine KC.seq ?_
  refine KC.region ?_
  refine KT.step rfl rfl (K.loadOA [DI N, jd] rfl rfl (by decide) Tryz.agg24 Tryz.size24 rfl) ?_
  refine KT.step rfl rfl (K.move rfl) ?_
  refine KT.step rfl rfl (K.call2 rfl rfl plainTryz_22 (rstarts18 hd hl hr hm hll hlr)) ?_
  refine KT.step rfl rfl (K.move rfl) ?_
  refine KT.step rfl rfl (K.extract rfl rfl) ?_
  refine KT.step rfl rfl (K.extract rfl rfl) ?_
  refine KT.step rfl rfl (K.assign rfl) ?_
  refine KT.step rfl rfl (K.assign rfl) ?_
  refine KT.nil ?_
  refine thenK_n ?_
  refine KC.seq ?_
  refine KC.region ?_
  refine KT.step rfl rfl (K.move rfl) ?_
  refine KT.step rfl rfl (K.neq rfl rfl) ?_
  refine KT.nil ?_
  refine thenK_n ?_
  refine KC.cond rfl (fun hc21 => ?_) (fun hc21 => ?_)
  · skip
    replace hc21 := of_decide_eq_true hc21
    refine KC.seq ?_
    refine KC.region ?_
    refine KT.step rfl rfl (K.move rfl) ?_
    refine KT.step rfl rfl (K.assign rfl) ?_
    refine KT.step rfl rfl (K.assign rfl) ?_
    refine KT.nil ?_
    refine thenK_n ?_
    refine KC.ret ?_
    refine thenK_r ?_
    rw [wtR_no (e := stE N J l) (by unfold wtE; rw [if_neg h0]) h0]
    exact ⟨.inl rfl, _, rfl, rfl⟩
  · skip
    exact absurd (of_decide_eq_false hc21) (by simpa using h0)
def nvM : Nat → Nat → Int := fun _ _ => Nv
def nvX (c : Nat) : List XV := List.replicate c (.d (DI Nv)) ++ List.replicate (6 - c) (.d (.lit (.int .i64 0)))
theorem nvX_len {c : Nat} (h : c ≤ 6) : (nvX c).length = 6 := by simp [nvX]; omega
theorem nvX_set {c : Nat} (h : c < 6) : (nvX c).set (0 + c) (.d (DI Nv)) = nvX (c + 1) := by
  unfold nvX
  rw [show 6 - c = (6 - (c + 1)) + 1 by omega, List.replicate_succ, List.set_append_right _ _ (by simp)]
  simp [List.replicate_succ']
theorem nvX_full (k : Nat) : nvX 6 = rowS 6 nvM k := rfl
set_option maxHeartbeats 2000000 in
set_option maxRecDepth 10000 in
theorem rwt_ok {N : Int} {jd : DV} {J : List (List (Int × Int))} (hd : JbD jd J) (hl : J.length ≤ 9223372036854775807) (hr : ∀ j ∈ J, j.length ≤ 9223372036854775807) {ld : DV} {l : List (List Int)} (hm : Mat ld l) (hll : l.length ≤ 9223372036854775807) (hlr : ∀ r ∈ l, r.length ≤ 9223372036854775807) {hs : List Int} (hst : stH N J l = some hs) : DeepCall Tryz.prog 8 [.agg [DI N, jd], ld] (.tup [wtR N J l, DI (wtE N J l)]) := by
  obtain ⟨hsb, hob, hh⟩ := stH_some hst
  have hK := stOk hsb hob
  have hS := hK.sh
  have h0 : stE N J l = 0 := stE_zero.2 ⟨hs, hst⟩
  have hA := hK.len
  refine deepCall_K 6 Tryz.func8 rfl (Nat.le_of_ble_eq_true rfl) fun M W0 => ?_
  refine KC.seq ?_
  refine KC.region ?_
  refine KT.step rfl rfl (K.box rfl) ?_
  refine KT.step rfl rfl (K.assign rfl) ?_
  refine KT.step rfl rfl (K.assign rfl) ?_
  refine KT.nil ?_
  refine thenK_n ?_
  refine KC.seq ?_
  refine KC.seq ?_
  refine KC.region ?_
  refine KT.step rfl rfl (K.loadOA [DI N, jd] rfl rfl (by decide) Tryz.agg24 Tryz.size24 rfl) ?_
  refine KT.step rfl rfl (K.move rfl) ?_
  refine KT.step rfl rfl (K.call2 rfl rfl plainTryz_22 (rstarts18 hd hl hr hm hll hlr)) ?_
  refine KT.step rfl rfl (K.move rfl) ?_
  refine KT.step rfl rfl (K.extract rfl rfl) ?_
  refine KT.step rfl rfl (K.extract rfl rfl) ?_
  refine KT.step rfl rfl (K.assign rfl) ?_
  refine KT.step rfl rfl (K.assign rfl) ?_
  refine KT.nil ?_
  refine thenK_n ?_
  refine KC.seq ?_
  refine KC.region ?_
  refine KT.step rfl rfl (K.move rfl) ?_
  refine KT.step rfl rfl (K.neq rfl rfl) ?_
  refine KT.nil ?_
  refine thenK_n ?_
  refine KC.cond rfl (fun hc21 => ?_) (fun hc21 => ?_)
  · skip
    exact absurd (of_decide_eq_true hc21) (by simpa using h0)
  · skip
    replace hc21 := of_decide_eq_false hc21
    refine KC.skip ?_
    refine thenK_n ?_
    refine KC.seq ?_
    refine KC.region ?_
    refine KT.step rfl rfl (K.loadOA [DI N, jd] rfl rfl (by decide) Tryz.agg24 Tryz.size24 rfl) ?_
    refine KT.step rfl rfl (K.call1 rfl plainTryz_23 (rops44 hd hS.j3 hK.h4)) ?_
    refine KT.step rfl rfl (K.assign rfl) ?_
    refine KT.nil ?_
    refine thenK_n ?_
    refine KC.seq ?_
    refine KC.seq ?_
    refine KC.region ?_
    refine KT.step rfl rfl (K.move rfl) ?_
    refine KT.step rfl rfl (K.lenF rfl (flV_ok (k := 2) J.flatten) Tryz.underlying57) ?_
    refine KT.step rfl rfl (K.gtr rfl rfl) ?_
    refine KT.nil ?_
    refine thenK_n ?_
    refine KC.cond rfl (fun hc27 => ?_) (fun hc27 => ?_)
    · skip
      replace hc27 := of_decide_eq_true hc27
      refine KC.seq ?_
      refine KC.region ?_
      refine KT.step rfl rfl (K.assign rfl) ?_
      refine KT.step rfl rfl (K.assign rfl) ?_
      refine KT.nil ?_
      refine thenK_n ?_
      refine KC.ret ?_
      refine thenK_r ?_
      rw [wtR_no (e := 2) (by unfold wtE; rw [h0, if_pos rfl, if_pos (by omega)]) (by decide)]
      exact ⟨.inl rfl, _, rfl, rfl⟩
    · skip
      replace hc27 := of_decide_eq_false hc27
      refine KC.skip ?_
      refine thenK_n ?_
      refine KC.seq ?_
      refine KC.region ?_
      refine KT.step rfl rfl (K.assign rfl) ?_
      refine KT.nil ?_
      refine thenK_n ?_
      refine KC.seq ?_
      refine KC.seq ?_
      refine KC.region ?_
      refine KT.step rfl rfl (K.move rfl) ?_
      refine KT.nil ?_
      refine thenK_n ?_
      refine KC.block ?_
      refine KC.loop (fun p : List VObj × XV × List Nat => p.1) (fun p => [(2, .optr 0 0), (8, .d (flV c2 J.flatten)), (1, .d ld), (9, p.2.1), (28, .d (DI (p.2.2.length : Nat)))]) (fun p => p.2.2.length ≤ 6 ∧ p.1[0]? = some ⟨[.d (DI N), .d jd], 0⟩ ∧ RowsI 6 nvM p.1 p.2.1 p.2.2 ∧ (∀ k k' id : Nat, p.2.2[k]? = some id → p.2.2[k']? = some id → k = k') ∧ (∀ j, idX p.2.1 = some j → 1 ≤ j)) (fun p => 6 - p.2.2.length) (_, .d Dnil, []) ⟨Nat.zero_le _, rfl, .zero, fun k k' id h => by simp at h, fun j h => by cases h⟩ rfl (by simp [Go.Vm.look, extK, enterK]) ?_
      intro p hp
      obtain ⟨σ0, x0, ids⟩ := p
      obtain ⟨hi, y0, rows, nd, x1⟩ := hp
      simp only at hi y0 rows nd x1 ⊢
      refine KC.seq ?_
      refine KC.region ?_
      refine KT.step rfl rfl (K.lss rfl rfl) ?_
      refine KT.nil ?_
      refine thenK_n ?_
      refine KC.seq ?_
      refine KC.cond rfl (fun hc29 => ?_) (fun hc29 => ?_)
      · skip
        replace hc29 := of_decide_eq_true hc29
        have hil : ids.length < 6 := by omega
        refine KC.skip ?_
        refine thenK_n ?_
        refine KC.seq ?_
        refine KC.block ?_
        refine KC.seq ?_
        refine KC.region ?_
        refine KT.step rfl rfl (K.make (m := 6) (c := 6) rfl rfl (Nat.le_refl _) (by omega) Tryz.underlying36 Tryz.one3) ?_
        refine KT.step rfl rfl (K.assign rfl) ?_
        refine KT.nil ?_
        refine thenK_n ?_
        refine KC.seq ?_
        refine KC.seq ?_
        refine KC.region ?_
        refine KT.step rfl rfl (K.move rfl) ?_
        refine KT.step rfl rfl (K.lenO rfl Tryz.underlying36) ?_
        refine KT.step rfl rfl (K.move rfl) ?_
        refine KT.nil ?_
        refine thenK_n ?_
        refine KC.block ?_
        refine KC.loop (fun p : List VObj × Nat => p.1) (fun p => [(2, .optr 0 0), (8, .d (flV c2 J.flatten)), (1, .d ld), (9, x0), (28, .d (DI (ids.length : Nat))), (10, oslI 6 σ0.length), (31, oslI 6 σ0.length), (32, .d (DI (6 : Nat))), (33, .d (DI (p.2 : Nat)))]) (fun p => p.2 ≤ 6 ∧ p.1.length = σ0.length + 1 ∧ (∀ j, j < σ0.length → p.1[j]? = σ0[j]?) ∧ p.1[σ0.length]? = some ⟨nvX p.2, 0⟩) (fun p => 6 - p.2) (_, 0) ⟨Nat.zero_le _, by simp, fun j hj => List.getElem?_append_left hj, by simp; rfl⟩ rfl (by simp [Go.Vm.look, extK]) ?_
        intro p hp
        obtain ⟨σ1, c⟩ := p
        obtain ⟨hc, l1, kp, yr⟩ := hp
        simp only at hc l1 kp yr ⊢
        have rows1 := rows.keep kp
        refine KC.seq ?_
        refine KC.region ?_
        refine KT.step rfl rfl (K.lss rfl rfl) ?_
        refine KT.nil ?_
        refine thenK_n ?_
        refine KC.seq ?_
        refine KC.cond rfl (fun hc34 => ?_) (fun hc34 => ?_)
        · skip
          replace hc34 := of_decide_eq_true hc34
          have hcl : c < 6 := by omega
          refine KC.skip ?_
          refine thenK_n ?_
          refine KC.seq ?_
          refine KC.block ?_
          refine KC.seq ?_
          refine KC.region ?_
          refine KT.step rfl rfl (K.move rfl) ?_
          refine KT.step rfl rfl (K.assign rfl) ?_
          refine KT.nil ?_
          refine thenK_n ?_
          refine KC.region ?_
          refine KT.step rfl rfl (K.move rfl) ?_
          refine KT.step rfl rfl (K.move rfl) ?_
          refine KT.step rfl rfl (K.idxO (m := c) rfl rfl (by omega) Tryz.underlying36 Tryz.size3) ?_
          refine KT.storeG rfl rfl rfl rfl yr (by rw [nvX_len (by omega)]; omega) rfl rfl Tryz.size3 fun σ3 l3 u3 v3 => ?_
          replace u3 : σ3[σ0.length]? = some ⟨nvX (c + 1), 0⟩ := by rw [← nvX_set hcl]; exact u3
          refine KT.nil ?_
          refine blockK_n ?_
          refine thenK_n ?_
          refine KC.region ?_
          refine KT.step rfl rfl (K.add rfl rfl (wrap_id (by omega))) ?_
          refine KT.step rfl rfl (K.move rfl) ?_
          refine KT.nil ?_
          refine thenK_n ?_
          exact ⟨(σ3, c + 1), ⟨by simp only; omega, by simp only; omega, fun j hj => (v3 j (by omega)).trans (kp j hj), u3⟩, by simp only; omega, rfl, by simp [Go.Vm.look, extK]⟩
        · skip
          replace hc34 := of_decide_eq_false hc34
          refine KC.exit ?_
          refine thenK_x ?_
          refine thenK_x ?_
          refine blockK_e ?_
          refine thenK_n ?_
          refine KC.region ?_
          refine KT.step rfl rfl (K.move rfl) ?_
          refine KT.step rfl rfl (K.move rfl) ?_
          refine KT.step rfl rfl (K.build1' (v := oslI 6 σ0.length) rfl rfl Tryz.underlying25 Tryz.one36) ?_
          have hc6 : c = 6 := by omega
          rw [hc6, nvX_full ids.length] at yr
          refine KT.appK (k := 1) (vs := [oslI 6 σ0.length]) rfl rfl rfl rfl (rows1.own.pushed _) (List.getElem?_concat_length ..) rfl rfl (by simp; omega) Tryz.underlying25 Tryz.size36 bytes33 cells33 (by omega) fun σ2 x2 ho2 k2 w2 => ?_
          have hrows2 := rows1.push (σ1 := σ2) yr (fun e => by have := rows.own.lt e; omega) ho2 k2 w2
          refine KT.step rfl rfl (K.assign rfl) ?_
          refine KT.nil ?_
          refine blockK_n ?_
          refine thenK_n ?_
          refine KC.region ?_
          refine KT.step rfl rfl (K.add rfl rfl (wrap_id (by omega))) ?_
          refine KT.step rfl rfl (K.move rfl) ?_
          refine KT.nil ?_
          refine thenK_n ?_
          have hlt : ∀ id ∈ ids, id < σ0.length := fun id hm => by
            obtain ⟨k, hk⟩ := List.mem_iff_getElem?.1 hm
            exact lt_of_get (rows.row k id hk)
          refine ⟨(σ2, x2, ids ++ [σ0.length]), ⟨by simp; omega, ?_, hrows2, nd_snoc nd fun hm => by have := hlt _ hm; omega, fun j hj => ?_⟩, by simp; omega, rfl, by simp [Go.Vm.look, extK]⟩
          · have := lt_of_get y0
            exact (k2 0 (fun e => by have := x1 0 e; omega) (by simp <;> omega)).trans (get_left ((kp 0 this).trans y0))
          · obtain ⟨j2, e2, l2⟩ := w2
            simp only at hj
            rw [e2] at hj; cases hj
            have := lt_of_get yr
            simp at l2; omega
      · skip
        replace hc29 := of_decide_eq_false hc29
        have h6l : ids.length = 6 := by omega
        obtain ⟨oid, rfl, hW0⟩ := rows.w6 h6l nd
        refine KC.exit ?_
        refine thenK_x ?_
        refine thenK_x ?_
        refine blockK_e ?_
        refine thenK_n ?_
        refine KC.seq ?_
        refine KC.seq ?_
        refine KC.region ?_
        refine KT.step rfl rfl (K.loadOA [DI N, jd] rfl y0 (by decide) Tryz.agg24 Tryz.size24 rfl) ?_
        refine KT.step rfl rfl (K.move rfl) ?_
        refine KT.step rfl rfl (K.call2 rfl rfl plainTryz_24 (rall45 hd hS.j3 hK.h4 hm (by have := hK.l4; omega) (fun r hr => by have := hK.r9 r hr; omega))) ?_
        refine KT.step rfl rfl (K.lenF rfl (flV_ok (k := 2) (arcsO 0 J ++ ordA l)) Tryz.underlying63) ?_
        refine KT.step rfl rfl (K.move rfl) ?_
        refine KT.nil ?_
        refine thenK_n ?_
        refine KC.block ?_
        refine KC.loop (fun p : List VObj × Nat => p.1) (fun p => [(8, .d (flV c2 J.flatten)), (9, .osl oid 0 6 1 6 false), (47, .d (flV c2 (arcsO 0 J ++ ordA l))), (48, .d (DI ((arcsO 0 J ++ ordA l).length : Nat))), (49, .d (DI (p.2 : Nat)))]) (fun p => p.2 ≤ (arcsO 0 J ++ ordA l).length ∧ W6 p.1 oid ids (wI J.flatten ((arcsO 0 J ++ ordA l).take p.2))) (fun p => (arcsO 0 J ++ ordA l).length - p.2) (_, 0) ⟨Nat.zero_le _, hW0.same fun r _ j _ => wI_nil _ r j⟩ rfl (by simp [Go.Vm.look, extK]) ?_
        intro p hp
        obtain ⟨σ1, i⟩ := p
        obtain ⟨hi2, hW⟩ := hp
        simp only at hi2 hW ⊢
        refine KC.seq ?_
        refine KC.region ?_
        refine KT.step rfl rfl (K.lss rfl rfl) ?_
        refine KT.nil ?_
        refine thenK_n ?_
        refine KC.seq ?_
        refine KC.cond rfl (fun hc50 => ?_) (fun hc50 => ?_)
        · skip
          replace hc50 := of_decide_eq_true hc50
          have hil : i < (arcsO 0 J ++ ordA l).length := by omega
          obtain ⟨q1, q2, q3, q4⟩ := hK.inn _ (List.getElem_mem hil)
          have hJ6 : J.flatten.length ≤ 6 := by omega
          obtain ⟨rid, hrid, hcell, hrow⟩ := hW.id (r := (arcsO 0 J ++ ordA l)[i].1.toNat) (by omega)
          refine KC.skip ?_
          refine thenK_n ?_
          refine KC.seq ?_
          refine KC.block ?_
          refine KC.seq ?_
          refine KC.region ?_
          refine KT.step rfl rfl (K.idxF c2_len (m := i) rfl (flV_ok (arcsO 0 J ++ ordA l)) rfl (by omega) Tryz.underlying63 Tryz.size65) ?_
          refine KT.step rfl rfl (K.loadFl (cs := c2 (arcsO 0 J ++ ordA l)[i]) rfl rfl Tryz.agg65 Tryz.size65) ?_
          refine KT.step rfl rfl (K.alloc Tryz.zero65) ?_
          refine KT.storeL (cs := (c2 (arcsO 0 J ++ ordA l)[i]).map .d) rfl rfl rfl rfl rfl rfl rfl Tryz.size65 ?_
          refine KT.nil ?_
          refine thenK_n ?_
          refine KC.draw Tryz.mixed ?_
          refine KT.step rfl rfl (K.move rfl) ?_
          refine KT.step rfl rfl (K.idxA (m := 0) rfl rfl (by omega) Tryz.underlying65 Tryz.size3) ?_
          refine KT.step rfl rfl (K.loadO (y := .d (DI (arcsO 0 J ++ ordA l)[i].1)) rfl (List.getElem?_concat_length ..) (by simp) rfl Tryz.agg3) ?_
          refine KT.step rfl rfl (K.idxO (m := (arcsO 0 J ++ ordA l)[i].1.toNat) rfl (by exact congrArg (fun z => some (XV.d (DI z))) (show (arcsO 0 J ++ ordA l)[i].1 = (((arcsO 0 J ++ ordA l)[i].1).toNat : Int) by omega)) (by omega) Tryz.underlying25 Tryz.size36) ?_
          refine KT.step rfl rfl (K.loadO rfl (get_left hW.out) (by simp) hcell Tryz.agg36) ?_
          refine KT.step rfl rfl (K.idxA (m := 1) rfl rfl (by omega) Tryz.underlying65 Tryz.size3) ?_
          refine KT.step rfl rfl (K.loadO (y := .d (DI (arcsO 0 J ++ ordA l)[i].2)) rfl (List.getElem?_concat_length ..) (by simp) rfl Tryz.agg3) ?_
          refine KT.step rfl rfl (K.move rfl) ?_
          refine KT.step rfl rfl (K.idxA (m := 0) rfl rfl (by omega) Tryz.underlying65 Tryz.size3) ?_
          refine KT.step rfl rfl (K.loadO (y := .d (DI (arcsO 0 J ++ ordA l)[i].1)) rfl (List.getElem?_concat_length ..) (by simp) rfl Tryz.agg3) ?_
          refine KT.step rfl rfl (K.idxF c2_len (m := (arcsO 0 J ++ ordA l)[i].1.toNat) rfl (flV_ok J.flatten) (by exact congrArg (fun z => some (XV.d (DI z))) (show (arcsO 0 J ++ ordA l)[i].1 = (((arcsO 0 J ++ ordA l)[i].1).toNat : Int) by omega)) (by omega) Tryz.underlying57 Tryz.size59) ?_
          refine KT.step rfl rfl (K.fieldAddrD rfl Tryz.fld59_1 Tryz.size3) ?_
          refine KT.step rfl rfl (K.load rfl Tryz.agg3) ?_
          have et : J.flatten[(arcsO 0 J ++ ordA l)[i].1.toNat].2 = tm J.flatten (arcsO 0 J ++ ordA l)[i].1 := (tm_get (by omega) (by omega)).symm
          rw [et]
          refine KT.step rfl rfl (K.idxO (m := (arcsO 0 J ++ ordA l)[i].2.toNat) rfl (by exact congrArg (fun z => some (XV.d (DI z))) (show (arcsO 0 J ++ ordA l)[i].2 = (((arcsO 0 J ++ ordA l)[i].2).toNat : Int) by omega)) (by omega) Tryz.underlying36 Tryz.size3) ?_
          refine KT.storeG rfl rfl rfl rfl (get_left hrow) (by simp [rowS]; omega) rfl rfl Tryz.size3 fun σ3 l3 u3 v3 => ?_
          refine KT.nil ?_
          refine ⟨by kernel_rfl, ?_⟩
          refine blockK_n ?_
          refine thenK_n ?_
          refine KC.region ?_
          refine KT.step rfl rfl (K.add rfl rfl (wrap_id (by omega))) ?_
          refine KT.step rfl rfl (K.move rfl) ?_
          refine KT.nil ?_
          refine thenK_n ?_
          refine ⟨(σ3, i + 1), ⟨by simp only; omega, ?_⟩, by simp only; omega, rfl, by simp [Go.Vm.look, extK]⟩
          simp only
          rw [List.take_succ_eq_append_getElem hil]
          exact (hW.push [⟨(c2 (arcsO 0 J ++ ordA l)[i]).map .d, 0⟩]).put hrid u3 v3 fun r' _ j' _ => wI_snoc (by omega) (by omega) r' j'
        · skip
          replace hc50 := of_decide_eq_false hc50
          refine KC.exit ?_
          refine thenK_x ?_
          refine thenK_x ?_
          refine blockK_e ?_
          refine thenK_n ?_
          refine KC.seq ?_
          refine KC.region ?_
          refine KT.step rfl rfl (K.move rfl) ?_
          refine KT.step rfl rfl (K.assign rfl) ?_
          refine KT.step rfl rfl (K.assign rfl) ?_
          refine KT.nil ?_
          refine thenK_n ?_
          refine KC.ret ?_
          have et : (arcsO 0 J ++ ordA l).take i = (arcsO 0 J ++ ordA l) := List.take_of_length_le (by omega)
          rw [et] at hW
          have e0 : wtE N J l = 0 := by unfold wtE; rw [h0, if_pos rfl, if_neg (by omega)]
          refine ⟨.inl rfl, _, rfl, ?_⟩
          rw [e0, show wtR N J l = genS 6 (wI J.flatten (arcsO 0 J ++ ordA l)) 6 by unfold wtR; rw [if_pos e0]]
          exact deepen_tup2 (hW.fin false)
theorem rWeights8 {N : Int} {jd : DV} {J : List (List (Int × Int))} (hd : JbD jd J) (hl : J.length ≤ 9223372036854775807) (hr : ∀ j ∈ J, j.length ≤ 9223372036854775807) {ld : DV} {l : List (List Int)} (hm : Mat ld l) (hll : l.length ≤ 9223372036854775807) (hlr : ∀ r ∈ l, r.length ≤ 9223372036854775807) : DeepCall Tryz.prog 8 [.agg [DI N, jd], ld] (.tup [wtR N J l, DI (wtE N J l)]) := by
  by_cases h0 : stE N J l = 0
  · obtain ⟨hs, hst⟩ := stE_zero.1 h0
    exact rwt_ok hd hl hr hm hll hlr hst
  · exact rwt_no hd hl hr hm hll hlr h0
set_option maxRecDepth 10000 in
theorem equalFunc9 {d e : DV} {x y : List (List Int)} (hd : Mat d x) (he : Mat e y) (hl : x.length ≤ 9223372036854775807) (hr : ∀ r ∈ x, r.length ≤ 9223372036854775807) :
    DeepCall Tryz.prog 9 [d, e, .fn (.func 10) [] []] (DB (decide (x = y))) := by
  refine deepCall_K 5 Tryz.func9 rfl (Nat.le_of_ble_eq_true rfl) fun M W0 => ?_
  refine KC.seq ?_
  refine KC.region ?_
  refine KT.step rfl rfl (K.assign rfl) ?_
  refine KT.nil ?_
  refine thenK_n ?_
  refine KC.seq ?_
  refine KC.seq ?_
  refine KC.region ?_
  refine KT.step rfl rfl (K.move rfl) ?_
  refine KT.step rfl rfl (K.len rfl (by assumption) Tryz.underlying25) ?_
  refine KT.step rfl rfl (K.move rfl) ?_
  refine KT.step rfl rfl (K.len rfl (by assumption) Tryz.underlying25) ?_
  refine KT.step rfl rfl (K.neq rfl rfl) ?_
  refine KT.nil ?_
  refine thenK_n ?_
  refine KC.cond rfl (fun hc14 => ?_) (fun hc14 => ?_)
  · skip
    replace hc14 := of_decide_eq_true hc14
    refine KC.seq ?_
    refine KC.region ?_
    refine KT.step rfl rfl (K.assign rfl) ?_
    refine KT.nil ?_
    refine thenK_n ?_
    refine KC.ret ?_
    refine thenK_r ?_
    exact ⟨.inl rfl, _, rfl, fin_b (decide_eq_false fun h => by subst h; omega)⟩
  · skip
    replace hc14 := of_decide_eq_false hc14
    refine KC.skip ?_
    refine thenK_n ?_
    refine KC.seq ?_
    refine KC.seq ?_
    refine KC.region ?_
    refine KT.step rfl rfl (K.move rfl) ?_
    refine KT.step rfl rfl (K.len rfl (by assumption) Tryz.underlying25) ?_
    refine KT.step rfl rfl (K.move rfl) ?_
    refine KT.nil ?_
    refine thenK_n ?_
    refine KC.block ?_
    refine KC.loop (fun _ : Nat => []) (fun i => [(0, .d d), (1, .d e), (2, .d (.fn (.func 10) [] [])), (15, .d d), (16, .d (DI x.length)), (17, .d (DI i))]) (fun i => i ≤ x.length ∧ x.take i = y.take i) (fun i => x.length - i) 0 ⟨Nat.zero_le _, rfl⟩ rfl (by simp [Go.Vm.look, extK, enterK]) ?_
    intro i hi
    obtain ⟨hi, hall⟩ := hi
    refine KC.seq ?_
    refine KC.region ?_
    refine KT.step rfl rfl (K.lss rfl rfl) ?_
    refine KT.nil ?_
    refine thenK_n ?_
    refine KC.seq ?_
    refine KC.cond rfl (fun hc18 => ?_) (fun hc18 => ?_)
    · skip
      replace hc18 := of_decide_eq_true hc18
      refine KC.skip ?_
      refine thenK_n ?_
      refine KC.seq ?_
      refine KC.block ?_
      refine KC.seq ?_
      refine KC.region ?_
      refine KT.step rfl rfl (K.move rfl) ?_
      refine KT.idx rfl rfl rfl (by assumption) rfl (by omega) Tryz.underlying25 Tryz.size36 fun c20 cs20 hq20 => ?_
      refine KT.step rfl rfl (K.load rfl Tryz.agg36) ?_
      refine KT.step rfl rfl (K.assign rfl) ?_
      refine KT.step rfl rfl (K.assign rfl) ?_
      refine KT.nil ?_
      refine thenK_n ?_
      refine KC.seq ?_
      refine KC.region ?_
      refine KT.step rfl rfl (K.move rfl) ?_
      refine KT.step rfl rfl (K.move rfl) ?_
      refine KT.idx rfl rfl rfl (by assumption) rfl (by omega) Tryz.underlying25 Tryz.size36 fun c24 cs24 hq24 => ?_
      refine KT.step rfl rfl (K.load rfl Tryz.agg36) ?_
      refine KT.step rfl rfl (K.assign rfl) ?_
      refine KT.nil ?_
      refine thenK_n ?_
      refine KC.seq ?_
      refine KC.region ?_
      refine KT.step rfl rfl (K.move rfl) ?_
      refine KT.step rfl rfl (K.move rfl) ?_
      refine KT.step rfl rfl (K.move rfl) ?_
      refine KT.step rfl rfl (K.callW rfl rfl rfl plainTryz_10 (equal21 hq20 hq24 (hr _ (List.getElem_mem _)))) ?_
      refine KT.step rfl rfl (K.not rfl) ?_
      refine KT.nil ?_
      refine thenK_n ?_
      refine KC.cond rfl (fun hc30 => ?_) (fun hc30 => ?_)
      · skip
        replace hc30 : ¬ x[i] = y[i] := by simpa using hc30
        refine KC.seq ?_
        refine KC.region ?_
        refine KT.step rfl rfl (K.assign rfl) ?_
        refine KT.nil ?_
        refine thenK_n ?_
        refine KC.ret ?_
        refine blockK_r ?_
        refine thenK_r ?_
        refine thenK_r ?_
        refine blockK_r ?_
        refine thenK_r ?_
        exact ⟨.inl rfl, _, rfl, fin_b (decide_eq_false fun h => by subst h; exact hc30 rfl)⟩
      · skip
        replace hc30 : x[i] = y[i] := by simpa using hc30
        refine KC.skip ?_
        refine blockK_n ?_
        refine thenK_n ?_
        refine KC.region ?_
        refine KT.step rfl rfl (K.add rfl rfl (wrap_id (by omega))) ?_
        refine KT.step rfl rfl (K.move rfl) ?_
        refine KT.nil ?_
        refine thenK_n ?_
        refine ⟨i + 1, ⟨by omega, ?_⟩, by omega, rfl, by simp [Go.Vm.look, extK]⟩
        rw [List.take_succ_eq_append_getElem (by omega), List.take_succ_eq_append_getElem (by omega), hall, hc30]
    · skip
      replace hc18 := of_decide_eq_false hc18
      refine KC.exit ?_
      refine thenK_x ?_
      refine thenK_x ?_
      refine blockK_e ?_
      refine thenK_n ?_
      refine KC.seq ?_
      refine KC.region ?_
      refine KT.step rfl rfl (K.assign rfl) ?_
      refine KT.nil ?_
      refine thenK_n ?_
      refine KC.ret ?_
      have hx : x.take i = x := List.take_of_length_le (by omega)
      have hy : y.take i = y := List.take_of_length_le (by omega)
      rw [hx, hy] at hall
      exact ⟨.inl rfl, _, rfl, fin_b (decide_eq_true hall)⟩
theorem wtM_len (N : Int) (J : List (List (Int × Int))) (l : List (List Int)) : (wtM N J l).length ≤ 9223372036854775807 ∧ ∀ r ∈ wtM N J l, r.length ≤ 9223372036854775807 := by
  unfold wtM; split
  · refine ⟨by simp [genM], fun r hr => ?_⟩
    obtain ⟨i, _, rfl⟩ := List.mem_map.1 hr
    simp
  · exact ⟨by simp, fun r hr => by simp at hr⟩
set_option maxRecDepth 10000 in
theorem law3 {N : Int} {jd : DV} {J : List (List (Int × Int))} (hd : JbD jd J) (hl : J.length ≤ 9223372036854775807) (hr : ∀ j ∈ J, j.length ≤ 9223372036854775807) {ld : DV} {l : List (List Int)} (hm : Mat ld l) (hll : l.length ≤ 9223372036854775807) (hlr : ∀ r ∈ l, r.length ≤ 9223372036854775807) : DeepCall Tryz.prog 3 [.agg [DI N, jd], ld] (DB true) := by
  refine deepCall_K 5 Tryz.func3 rfl (Nat.le_of_ble_eq_true rfl) fun M W0 => ?_
  refine KC.seq ?_
  refine KC.region ?_
  refine KT.step rfl rfl (K.box rfl) ?_
  refine KT.step rfl rfl (K.assign rfl) ?_
  refine KT.nil ?_
  refine thenK_n ?_
  refine KC.seq ?_
  refine KC.region ?_
  refine KT.step rfl rfl (K.loadOA [DI N, jd] rfl rfl (by decide) Tryz.agg24 Tryz.size24 rfl) ?_
  refine KT.step rfl rfl (K.call1 rfl plainTryz_6 (of16 hd hl hr)) ?_
  refine KT.step rfl rfl (K.move rfl) ?_
  refine KT.step rfl rfl (K.call1 rfl plainTryz_7 (rows17 hm hll (getD_rows hlr))) ?_
  refine KT.step rfl rfl (K.call2 rfl rfl plainTryz_5 (weights_cut hd hl hr hm hll hlr)) ?_
  refine KT.step rfl rfl (K.move rfl) ?_
  refine KT.step rfl rfl (K.extract rfl rfl) ?_
  refine KT.step rfl rfl (K.extract rfl rfl) ?_
  refine KT.step rfl rfl (K.assign rfl) ?_
  refine KT.step rfl rfl (K.assign rfl) ?_
  refine KT.nil ?_
  refine thenK_n ?_
  refine KC.seq ?_
  refine KC.region ?_
  refine KT.step rfl rfl (K.loadOA [DI N, jd] rfl rfl (by decide) Tryz.agg24 Tryz.size24 rfl) ?_
  refine KT.step rfl rfl (K.move rfl) ?_
  refine KT.step rfl rfl (K.call2 rfl rfl plainTryz_8 (rWeights8 hd hl hr hm hll hlr)) ?_
  refine KT.step rfl rfl (K.move rfl) ?_
  refine KT.step rfl rfl (K.extract rfl rfl) ?_
  refine KT.step rfl rfl (K.extract rfl rfl) ?_
  refine KT.step rfl rfl (K.assign rfl) ?_
  refine KT.step rfl rfl (K.assign rfl) ?_
  refine KT.nil ?_
  refine thenK_n ?_
  refine KC.seq ?_
  refine KC.region ?_
  refine KT.step rfl rfl (K.move rfl) ?_
  refine KT.step rfl rfl (K.move rfl) ?_
  refine KT.step rfl rfl (K.eql rfl rfl) ?_
  refine KT.step rfl rfl (K.move rfl) ?_
  refine KT.bcase (fun hb26 => ?_) (fun hb26 => ?_)
  · skip
    replace hb26 := of_decide_eq_true hb26
    refine KT.step rfl rfl (K.move rfl) ?_
    refine KT.step rfl rfl (K.move rfl) ?_
    refine KT.step rfl rfl (K.call3 rfl rfl rfl plainTryz_9 (equalFunc9 (wtV_mat N J l) (wtR_mat N J l) (wtM_len N J l).1 (wtM_len N J l).2)) ?_
    refine KT.step rfl rfl (K.pick rfl (fun _ => rfl) (fun h => by cases h)) ?_
    refine KT.step rfl rfl (K.move rfl) ?_
    refine KT.bcase (fun hb31 => ?_) (fun hb31 => ?_)
    · skip
      refine KT.step rfl rfl (K.call0 plainTryz_11 (awake22)) ?_
      refine KT.step rfl rfl (K.pick rfl (fun _ => rfl) (fun h => by cases h)) ?_
      refine KT.step rfl rfl (K.assign rfl) ?_
      refine KT.nil ?_
      refine thenK_n ?_
      refine KC.ret ?_
      exact ⟨.inl rfl, _, rfl, fin_d rfl⟩
    · skip
      exact absurd rfl (of_decide_eq_false hb31)
  · skip
    exact absurd rfl (of_decide_eq_false hb26)
end Go.Proofs.YtdgahcbalabjdaaGreat

