import Derived.Test.YtdgahcbalabjdaaGreatZBcB
import Derived.Test.YtdgahcbalabjdaaGreatZBaY
import Derived.Test.YtdgahcbalabjdaaGreatZBaI
/-
  Batch: the matrix of an order: the program, the reference, the law.
-/
namespace Go.Proofs.YtdgahcbalabjdaaGreat
open Go.Vm Go.Ht Go.Ba Go.Cy

theorem arcsO_lt : ∀ (off : Nat) {J : List (List (Int × Int))}, J ≠ [] → (∀ j ∈ J, 1 ≤ j.length) → (arcsO off J).length + 1 ≤ J.flatten.length
  | off, [], h, _ => absurd rfl h
  | off, j :: J, _, h => by
    have h1 := arcsO_len (off + j.length) J
    have h2 := h j (by simp)
    rw [arcsO, List.length_append, arcsK_len, List.flatten_cons, List.length_append]; omega
theorem ordA_len8 : ∀ {l : List (List Int)}, (∀ r ∈ l, r.length ≤ 9) → (ordA l).length ≤ l.length * 8
  | [], _ => by simp [ordA]
  | r :: l, h => by
    have h1 := ordA_len8 (l := l) fun x hx => h x (by simp [hx])
    have h2 := h r (by simp)
    have h3 : (ordA (r :: l)).length = (r.length - 1) + (ordA l).length := by simp [ordA, consT]
    rw [h3, List.length_cons]; omega
theorem all_len40 {N : Int} {J : List (List (Int × Int))} {l : List (List Int)} (hK : StOk N J l) : (arcsO 0 J ++ ordA l).length ≤ 40 := by
  have h1 := arcsO_lt 0 (J := J) (fun h => by have := hK.sh.j1; rw [h] at this; simp at this) fun j hj => (hK.h4 j hj).1
  have h2 := ordA_len8 hK.r9
  have := hK.n9
  have := hK.l4
  rw [List.length_append]; omega
theorem dq_vq {os ar : List (Int × Int)} (hT : Times os) (hin : ArcsIn os.length ar) (h9 : os.length ≤ 9) : ∀ q ∈ ar.map (dq os), VQ q := fun q hq => by
  obtain ⟨a, ha, rfl⟩ := List.mem_map.1 hq
  obtain ⟨q1, q2, q3, q4⟩ := hin a ha
  have := tm_bd hT q1 q2
  exact ⟨⟨q1, by show a.1 ≤ 11; omega⟩, ⟨q3, by show a.2 ≤ 11; omega⟩, ⟨by show -1000 ≤ tm os a.1; omega, by show tm os a.1 ≤ 1000; omega⟩, by show (0 : Int) ≤ 0; omega, by show (0 : Int) ≤ 20; omega⟩
theorem jn_bds (ar : List (Int × Int)) : Bds 12 (jn ar) := ⟨by omega, by omega, fun i j => (jn_good ar i j).mono (by omega)⟩
theorem ratE_some {os ar : List (Int × Int)} {hs : List Int} (hT : Times os) (h1 : 1 ≤ os.length) (hin : ArcsIn os.length ar) (h9 : os.length ≤ 9) (h : hds os ar = some hs) : ratE (ar.map (dq os)) = 5 := by
  unfold ratE
  rw [dq_pr, (mean_iff (n := 12) hT h1 hin (by omega)).2 ⟨hs, h⟩]; rfl
theorem ratE_none {os ar : List (Int × Int)} (hT : Times os) (h1 : 1 ≤ os.length) (hin : ArcsIn os.length ar) (h9 : os.length ≤ 9) (h : hds os ar = none) : ratE (ar.map (dq os)) = 8 := by
  unfold ratE
  rw [dq_pr]
  cases hm : meanI 12 (jn ar) with
  | none =>
    obtain ⟨hs, e⟩ := (mean_iff (n := 12) hT h1 hin (by omega)).1 hm
    rw [h] at e; cases e
  | some m => rfl
/-- The error of Weights, and the matrix. -/
def wtE (N : Int) (J : List (List (Int × Int))) (l : List (List Int)) : Int := if stE N J l = 0 then (if 6 < J.flatten.length then 2 else 0) else stE N J l
def wtV (N : Int) (J : List (List (Int × Int))) (l : List (List Int)) : DV := if wtE N J l = 0 then genD 6 6 (wI J.flatten (arcsO 0 J ++ ordA l)) else Dnil
theorem wtV_no {N : Int} {J : List (List (Int × Int))} {l : List (List Int)} {e : Int} (h : wtE N J l = e) (h0 : e ≠ 0) : (.tup [wtV N J l, DI (wtE N J l)] : DV) = .tup [Dnil, DI e] := by unfold wtV; rw [h, if_neg h0]
set_option maxRecDepth 10000 in
theorem wt1 {N : Int} {jd : DV} {J : List (List (Int × Int))} (hd : JbD jd J) (hl : J.length ≤ 9223372036854775807) (hr : ∀ j ∈ J, j.length ≤ 9223372036854775807) {ld : DV} {l : List (List Int)} (_ : Mat ld l) (_ : l.length ≤ 100) (_ : ∀ r ∈ l, r.length ≤ 1000) (hsb : shopB N J = false) : DeepCall Tryz.prog 5 [.agg [DI N, jd], ld] (.tup [wtV N J l, DI (wtE N J l)]) := by
  refine deepCall_K 5 Tryz.func5 rfl (Nat.le_of_ble_eq_true rfl) fun M W0 => ?_
  refine KC.seq ?_
  refine KC.region ?_
  refine KT.step rfl rfl (K.box rfl) ?_
  refine KT.step rfl rfl (K.assign rfl) ?_
  refine KT.step rfl rfl (K.assign rfl) ?_
  refine KT.nil ?_
  refine thenK_n ?_
  refine KC.seq ?_
  refine KC.seq ?_
  refine KC.region ?_
  refine KT.step rfl rfl (K.loadOA [DI N, jd] rfl rfl (by decide) Tryz.agg31 Tryz.size31 rfl) ?_
  refine KT.step rfl rfl (K.call1 rfl plainTryz_15 ((by have h := valid47 (N := N) hd hl hr; rw [hsb] at h; exact h))) ?_
  refine KT.step rfl rfl (K.not rfl) ?_
  refine KT.nil ?_
  refine thenK_n ?_
  refine KC.cond rfl (fun hc13 => ?_) (fun hc13 => ?_)
  · skip
    refine KC.seq ?_
    refine KC.region ?_
    refine KT.step rfl rfl (K.assign rfl) ?_
    refine KT.step rfl rfl (K.assign rfl) ?_
    refine KT.nil ?_
    refine thenK_n ?_
    refine KC.ret ?_
    refine thenK_r ?_
    rw [wtV_no (e := 2) (by unfold wtE stE; rw [hsb]; rfl) (by decide)]
    exact ⟨.inl rfl, _, rfl, rfl⟩
  · skip
    exact absurd hc13 (by decide)
set_option maxRecDepth 10000 in
theorem wt2 {N : Int} {jd : DV} {J : List (List (Int × Int))} (hd : JbD jd J) (hl : J.length ≤ 9223372036854775807) (hr : ∀ j ∈ J, j.length ≤ 9223372036854775807) {ld : DV} {l : List (List Int)} (hm : Mat ld l) (hll : l.length ≤ 100) (hlr : ∀ r ∈ l, r.length ≤ 1000) (hsb : shopB N J = true) (hob : ordB N.toNat J.flatten l = false) : DeepCall Tryz.prog 5 [.agg [DI N, jd], ld] (.tup [wtV N J l, DI (wtE N J l)]) := by
  have hS := shopB_iff.1 hsb
  have hal := arcsO_len 0 J
  have hn9 := hS.n9
  refine deepCall_K 5 Tryz.func5 rfl (Nat.le_of_ble_eq_true rfl) fun M W0 => ?_
  refine KC.seq ?_
  refine KC.region ?_
  refine KT.step rfl rfl (K.box rfl) ?_
  refine KT.step rfl rfl (K.assign rfl) ?_
  refine KT.step rfl rfl (K.assign rfl) ?_
  refine KT.nil ?_
  refine thenK_n ?_
  refine KC.seq ?_
  refine KC.seq ?_
  refine KC.region ?_
  refine KT.step rfl rfl (K.loadOA [DI N, jd] rfl rfl (by decide) Tryz.agg31 Tryz.size31 rfl) ?_
  refine KT.step rfl rfl (K.call1 rfl plainTryz_15 ((by have h := valid47 (N := N) hd hl hr; rw [hsb] at h; exact h))) ?_
  refine KT.step rfl rfl (K.not rfl) ?_
  refine KT.nil ?_
  refine thenK_n ?_
  refine KC.cond rfl (fun hc13 => ?_) (fun hc13 => ?_)
  · skip
    exact absurd hc13 (by decide)
  · skip
    refine KC.skip ?_
    refine thenK_n ?_
    refine KC.seq ?_
    refine KC.region ?_
    refine KT.step rfl rfl (K.loadOA [DI N, jd] rfl rfl (by decide) Tryz.agg31 Tryz.size31 rfl) ?_
    refine KT.step rfl rfl (K.call1 rfl plainTryz_16 (graph48 hd hS)) ?_
    refine KT.step rfl rfl (K.move rfl) ?_
    refine KT.step rfl rfl (K.call2 rfl rfl plainTryz_17 (ordered_no hm hll hlr (by omega) hob)) ?_
    refine KT.step rfl rfl (K.move rfl) ?_
    refine KT.step rfl rfl (K.extract rfl rfl) ?_
    refine KT.step rfl rfl (K.extract rfl rfl) ?_
    refine KT.step rfl rfl (K.alloc Tryz.zero47) ?_
    refine KT.putAll (cs := [.d Dnil, .d Dnil, .d Dnil]) rfl rfl rfl rfl rfl rfl rfl rfl Tryz.size47 ?_
    refine KT.step rfl rfl (K.assign rfl) ?_
    refine KT.nil ?_
    refine thenK_n ?_
    refine KC.seq ?_
    refine KC.seq ?_
    refine KC.region ?_
    refine KT.step rfl rfl (K.move rfl) ?_
    refine KT.step rfl rfl (K.not rfl) ?_
    refine KT.nil ?_
    refine thenK_n ?_
    refine KC.cond rfl (fun hc22 => ?_) (fun hc22 => ?_)
    · skip
      refine KC.seq ?_
      refine KC.region ?_
      refine KT.step rfl rfl (K.assign rfl) ?_
      refine KT.step rfl rfl (K.assign rfl) ?_
      refine KT.nil ?_
      refine thenK_n ?_
      refine KC.ret ?_
      refine thenK_r ?_
      rw [wtV_no (e := 4) (by unfold wtE stE; rw [hsb, hob]; rfl) (by decide)]
      exact ⟨.inl rfl, _, rfl, rfl⟩
    · skip
      exact absurd hc22 (by decide)
set_option maxRecDepth 10000 in
theorem wt3 {N : Int} {jd : DV} {J : List (List (Int × Int))} (hd : JbD jd J) (hl : J.length ≤ 9223372036854775807) (hr : ∀ j ∈ J, j.length ≤ 9223372036854775807) {ld : DV} {l : List (List Int)} (hm : Mat ld l) (hll : l.length ≤ 100) (hlr : ∀ r ∈ l, r.length ≤ 1000) (hsb : shopB N J = true) (hob : ordB N.toNat J.flatten l = true) (hh : hds J.flatten (arcsO 0 J ++ ordA l) = none) : DeepCall Tryz.prog 5 [.agg [DI N, jd], ld] (.tup [wtV N J l, DI (wtE N J l)]) := by
  have hS := shopB_iff.1 hsb
  have hal := arcsO_len 0 J
  have hn9 := hS.n9
  have hK := stOk hsb hob
  have h40 := all_len40 hK
  refine deepCall_K 5 Tryz.func5 rfl (Nat.le_of_ble_eq_true rfl) fun M W0 => ?_
  refine KC.seq ?_
  refine KC.region ?_
  refine KT.step rfl rfl (K.box rfl) ?_
  refine KT.step rfl rfl (K.assign rfl) ?_
  refine KT.step rfl rfl (K.assign rfl) ?_
  refine KT.nil ?_
  refine thenK_n ?_
  refine KC.seq ?_
  refine KC.seq ?_
  refine KC.region ?_
  refine KT.step rfl rfl (K.loadOA [DI N, jd] rfl rfl (by decide) Tryz.agg31 Tryz.size31 rfl) ?_
  refine KT.step rfl rfl (K.call1 rfl plainTryz_15 ((by have h := valid47 (N := N) hd hl hr; rw [hsb] at h; exact h))) ?_
  refine KT.step rfl rfl (K.not rfl) ?_
  refine KT.nil ?_
  refine thenK_n ?_
  refine KC.cond rfl (fun hc13 => ?_) (fun hc13 => ?_)
  · skip
    exact absurd hc13 (by decide)
  · skip
    refine KC.skip ?_
    refine thenK_n ?_
    refine KC.seq ?_
    refine KC.region ?_
    refine KT.step rfl rfl (K.loadOA [DI N, jd] rfl rfl (by decide) Tryz.agg31 Tryz.size31 rfl) ?_
    refine KT.step rfl rfl (K.call1 rfl plainTryz_16 (graph48 hd hS)) ?_
    refine KT.step rfl rfl (K.move rfl) ?_
    refine KT.step rfl rfl (K.call2 rfl rfl plainTryz_17 (ordered_ok hm hll hlr (by omega) hob)) ?_
    refine KT.step rfl rfl (K.move rfl) ?_
    refine KT.step rfl rfl (K.extract rfl rfl) ?_
    refine KT.step rfl rfl (K.extract rfl rfl) ?_
    refine KT.step rfl rfl (K.alloc Tryz.zero47) ?_
    refine KT.putAll (cs := [.d (flV c2 J.flatten), .d (flV c2 (arcsO 0 J ++ ordA l)), .d (.sl ((msO N.toNat J.flatten).map intsV) N.toNat (some N.toNat))]) rfl rfl rfl rfl rfl rfl rfl (one3 (flV_sld _) (.sl _ _ _) (flV_sld _).one) Tryz.size47 ?_
    refine KT.step rfl rfl (K.assign rfl) ?_
    refine KT.nil ?_
    refine thenK_n ?_
    refine KC.seq ?_
    refine KC.seq ?_
    refine KC.region ?_
    refine KT.step rfl rfl (K.move rfl) ?_
    refine KT.step rfl rfl (K.not rfl) ?_
    refine KT.nil ?_
    refine thenK_n ?_
    refine KC.cond rfl (fun hc22 => ?_) (fun hc22 => ?_)
    · skip
      exact absurd hc22 (by decide)
    · skip
      refine KC.skip ?_
      refine thenK_n ?_
      refine KC.seq ?_
      refine KC.seq ?_
      refine KC.region ?_
      refine KT.step rfl rfl (K.loadOA [flV c2 J.flatten, flV c2 (arcsO 0 J ++ ordA l), .sl ((msO N.toNat J.flatten).map intsV) N.toNat (some N.toNat)] rfl rfl (by decide) Tryz.agg47 Tryz.size47 rfl) ?_
      refine KT.step rfl rfl (K.call1 rfl plainTryz_19 (delays19 (c := .sl ((msO N.toNat J.flatten).map intsV) N.toNat (some N.toNat)) (flV_ok J.flatten) (flV_ok (arcsO 0 J ++ ordA l)) hK.len hK.inn)) ?_
      refine KT.step rfl rfl (K.call1 rfl plainTryz_18 ((by have h := ratio18 (flV_ok ((arcsO 0 J ++ ordA l).map (dq J.flatten))) (by rw [List.length_map]; exact h40) (dq_vq hK.tms hK.inn hK.n9) (fun q hq => by obtain ⟨a, _, rfl⟩ := List.mem_map.1 hq; rfl) (by rw [dq_pr]; exact jn_bds _); rw [ratE_none hK.tms hK.pos hK.inn hK.n9 hh] at h; exact h))) ?_
      refine KT.step rfl rfl (K.move rfl) ?_
      refine KT.step rfl rfl (K.extract rfl rfl) ?_
      refine KT.step rfl rfl (K.extract rfl rfl) ?_
      refine KT.step rfl rfl (K.extract rfl rfl) ?_
      refine KT.step rfl rfl (K.assign rfl) ?_
      refine KT.step rfl rfl (K.assign rfl) ?_
      refine KT.step rfl rfl (K.assign rfl) ?_
      refine KT.nil ?_
      refine thenK_n ?_
      refine KC.seq ?_
      refine KC.region ?_
      refine KT.step rfl rfl (K.move rfl) ?_
      refine KT.step rfl rfl (K.eql rfl rfl) ?_
      refine KT.nil ?_
      refine thenK_n ?_
      refine KC.cond rfl (fun hc31 => ?_) (fun hc31 => ?_)
      · skip
        replace hc31 := of_decide_eq_true hc31
        refine KC.seq ?_
        refine KC.region ?_
        refine KT.step rfl rfl (K.move rfl) ?_
        refine KT.step rfl rfl (K.assign rfl) ?_
        refine KT.step rfl rfl (K.assign rfl) ?_
        refine KT.nil ?_
        refine thenK_n ?_
        refine KC.ret ?_
        refine thenK_r ?_
        rw [wtV_no (e := 8) (by unfold wtE stE; rw [hsb, hob, hh]; rfl) (by decide)]
        exact ⟨.inl rfl, _, rfl, rfl⟩
      · skip
        exact absurd hc31 (by decide)
set_option maxRecDepth 10000 in
theorem wt4 {N : Int} {jd : DV} {J : List (List (Int × Int))} (hd : JbD jd J) (hl : J.length ≤ 9223372036854775807) (hr : ∀ j ∈ J, j.length ≤ 9223372036854775807) {ld : DV} {l : List (List Int)} (hm : Mat ld l) (hll : l.length ≤ 100) (hlr : ∀ r ∈ l, r.length ≤ 1000) (hsb : shopB N J = true) (hob : ordB N.toNat J.flatten l = true) {hs : List Int} (hh : hds J.flatten (arcsO 0 J ++ ordA l) = some hs) : DeepCall Tryz.prog 5 [.agg [DI N, jd], ld] (.tup [wtV N J l, DI (wtE N J l)]) := by
  have hS := shopB_iff.1 hsb
  have hal := arcsO_len 0 J
  have hn9 := hS.n9
  have hK := stOk hsb hob
  have h40 := all_len40 hK
  have hst : stE N J l = 0 := by unfold stE; rw [hsb, hob, hh]; rfl
  refine deepCall_K 5 Tryz.func5 rfl (Nat.le_of_ble_eq_true rfl) fun M W0 => ?_
  refine KC.seq ?_
  refine KC.region ?_
  refine KT.step rfl rfl (K.box rfl) ?_
  refine KT.step rfl rfl (K.assign rfl) ?_
  refine KT.step rfl rfl (K.assign rfl) ?_
  refine KT.nil ?_
  refine thenK_n ?_
  refine KC.seq ?_
  refine KC.seq ?_
  refine KC.region ?_
  refine KT.step rfl rfl (K.loadOA [DI N, jd] rfl rfl (by decide) Tryz.agg31 Tryz.size31 rfl) ?_
  refine KT.step rfl rfl (K.call1 rfl plainTryz_15 ((by have h := valid47 (N := N) hd hl hr; rw [hsb] at h; exact h))) ?_
  refine KT.step rfl rfl (K.not rfl) ?_
  refine KT.nil ?_
  refine thenK_n ?_
  refine KC.cond rfl (fun hc13 => ?_) (fun hc13 => ?_)
  · skip
    exact absurd hc13 (by decide)
  · skip
    refine KC.skip ?_
    refine thenK_n ?_
    refine KC.seq ?_
    refine KC.region ?_
    refine KT.step rfl rfl (K.loadOA [DI N, jd] rfl rfl (by decide) Tryz.agg31 Tryz.size31 rfl) ?_
    refine KT.step rfl rfl (K.call1 rfl plainTryz_16 (graph48 hd hS)) ?_
    refine KT.step rfl rfl (K.move rfl) ?_
    refine KT.step rfl rfl (K.call2 rfl rfl plainTryz_17 (ordered_ok hm hll hlr (by omega) hob)) ?_
    refine KT.step rfl rfl (K.move rfl) ?_
    refine KT.step rfl rfl (K.extract rfl rfl) ?_
    refine KT.step rfl rfl (K.extract rfl rfl) ?_
    refine KT.step rfl rfl (K.alloc Tryz.zero47) ?_
    refine KT.putAll (cs := [.d (flV c2 J.flatten), .d (flV c2 (arcsO 0 J ++ ordA l)), .d (.sl ((msO N.toNat J.flatten).map intsV) N.toNat (some N.toNat))]) rfl rfl rfl rfl rfl rfl rfl (one3 (flV_sld _) (.sl _ _ _) (flV_sld _).one) Tryz.size47 ?_
    refine KT.step rfl rfl (K.assign rfl) ?_
    refine KT.nil ?_
    refine thenK_n ?_
    refine KC.seq ?_
    refine KC.seq ?_
    refine KC.region ?_
    refine KT.step rfl rfl (K.move rfl) ?_
    refine KT.step rfl rfl (K.not rfl) ?_
    refine KT.nil ?_
    refine thenK_n ?_
    refine KC.cond rfl (fun hc22 => ?_) (fun hc22 => ?_)
    · skip
      exact absurd hc22 (by decide)
    · skip
      refine KC.skip ?_
      refine thenK_n ?_
      refine KC.seq ?_
      refine KC.seq ?_
      refine KC.region ?_
      refine KT.step rfl rfl (K.loadOA [flV c2 J.flatten, flV c2 (arcsO 0 J ++ ordA l), .sl ((msO N.toNat J.flatten).map intsV) N.toNat (some N.toNat)] rfl rfl (by decide) Tryz.agg47 Tryz.size47 rfl) ?_
      refine KT.step rfl rfl (K.call1 rfl plainTryz_19 (delays19 (c := .sl ((msO N.toNat J.flatten).map intsV) N.toNat (some N.toNat)) (flV_ok J.flatten) (flV_ok (arcsO 0 J ++ ordA l)) hK.len hK.inn)) ?_
      refine KT.step rfl rfl (K.call1 rfl plainTryz_18 ((by have h := ratio18 (flV_ok ((arcsO 0 J ++ ordA l).map (dq J.flatten))) (by rw [List.length_map]; exact h40) (dq_vq hK.tms hK.inn hK.n9) (fun q hq => by obtain ⟨a, _, rfl⟩ := List.mem_map.1 hq; rfl) (by rw [dq_pr]; exact jn_bds _); rw [ratE_some hK.tms hK.pos hK.inn hK.n9 hh] at h; exact h))) ?_
      refine KT.step rfl rfl (K.move rfl) ?_
      refine KT.step rfl rfl (K.extract rfl rfl) ?_
      refine KT.step rfl rfl (K.extract rfl rfl) ?_
      refine KT.step rfl rfl (K.extract rfl rfl) ?_
      refine KT.step rfl rfl (K.assign rfl) ?_
      refine KT.step rfl rfl (K.assign rfl) ?_
      refine KT.step rfl rfl (K.assign rfl) ?_
      refine KT.nil ?_
      refine thenK_n ?_
      refine KC.seq ?_
      refine KC.region ?_
      refine KT.step rfl rfl (K.move rfl) ?_
      refine KT.step rfl rfl (K.eql rfl rfl) ?_
      refine KT.nil ?_
      refine thenK_n ?_
      refine KC.cond rfl (fun hc31 => ?_) (fun hc31 => ?_)
      · skip
        exact absurd hc31 (by decide)
      · skip
        replace hc31 := of_decide_eq_false hc31
        refine KC.skip ?_
        refine thenK_n ?_
        refine KC.seq ?_
        refine KC.seq ?_
        refine KC.region ?_
        refine KT.step rfl rfl (K.loadOA [DI N, jd] rfl rfl (by decide) Tryz.agg31 Tryz.size31 rfl) ?_
        refine KT.step rfl rfl (K.call1 rfl plainTryz_20 (size70 hd hS.j3 (fun j hj => (hK.h4 j hj).2))) ?_
        refine KT.step rfl rfl (K.gtr rfl rfl) ?_
        refine KT.nil ?_
        refine thenK_n ?_
        refine KC.cond rfl (fun hc35 => ?_) (fun hc35 => ?_)
        · skip
          replace hc35 := of_decide_eq_true hc35
          refine KC.seq ?_
          refine KC.region ?_
          refine KT.step rfl rfl (K.assign rfl) ?_
          refine KT.step rfl rfl (K.assign rfl) ?_
          refine KT.nil ?_
          refine thenK_n ?_
          refine KC.ret ?_
          refine thenK_r ?_
          rw [wtV_no (e := 2) (by unfold wtE; rw [hst, if_pos rfl, if_pos (by omega)]) (by decide)]
          exact ⟨.inl rfl, _, rfl, rfl⟩
        · skip
          replace hc35 := of_decide_eq_false hc35
          refine KC.skip ?_
          refine thenK_n ?_
          refine KC.seq ?_
          refine KC.region ?_
          refine KT.step rfl rfl (K.loadOA [flV c2 J.flatten, flV c2 (arcsO 0 J ++ ordA l), .sl ((msO N.toNat J.flatten).map intsV) N.toNat (some N.toNat)] rfl rfl (by decide) Tryz.agg47 Tryz.size47 rfl) ?_
          refine KT.step rfl rfl (K.call1 rfl plainTryz_21 (weights21 (c := .sl ((msO N.toNat J.flatten).map intsV) N.toNat (some N.toNat)) (flV_ok J.flatten) (flV_ok (arcsO 0 J ++ ordA l)) hK.len hK.tms hK.inn (by omega))) ?_
          refine KT.step rfl rfl (K.assign rfl) ?_
          refine KT.step rfl rfl (K.assign rfl) ?_
          refine KT.nil ?_
          refine thenK_n ?_
          refine KC.ret ?_
          have e0 : wtE N J l = 0 := by unfold wtE; rw [hst, if_pos rfl, if_neg (by omega)]
          exact ⟨.inl rfl, _, rfl, by show some _ = some _; unfold wtV; rw [e0]; rfl⟩
theorem Weights5 {N : Int} {jd : DV} {J : List (List (Int × Int))} (hd : JbD jd J) (hl : J.length ≤ 9223372036854775807) (hr : ∀ j ∈ J, j.length ≤ 9223372036854775807) {ld : DV} {l : List (List Int)} (hm : Mat ld l) (hll : l.length ≤ 100) (hlr : ∀ r ∈ l, r.length ≤ 1000) : DeepCall Tryz.prog 5 [.agg [DI N, jd], ld] (.tup [wtV N J l, DI (wtE N J l)]) := by
  cases hsb : shopB N J with
  | false => exact wt1 hd hl hr hm hll hlr hsb
  | true =>
    cases hob : ordB N.toNat J.flatten l with
    | false => exact wt2 hd hl hr hm hll hlr hsb hob
    | true =>
      cases hh : hds J.flatten (arcsO 0 J ++ ordA l) with
      | none => exact wt3 hd hl hr hm hll hlr hsb hob hh
      | some hs => exact wt4 hd hl hr hm hll hlr hsb hob hh
theorem cut_wtE {N : Int} {J : List (List (Int × Int))} {l : List (List Int)} : wtE N (cutJ J) (cutL l) = wtE N J l ∧ wtV N (cutJ J) (cutL l) = wtV N J l := by
  have h2 := (cut_st (N := N) (J := J) (l := l)).2
  by_cases h0 : stE N J l = 0
  · obtain ⟨hs, hst⟩ := stE_zero.1 h0
    obtain ⟨a, b, _⟩ := stH_some hst
    have hS := shopB_iff.1 a
    obtain ⟨c, d⟩ := ord_rows b
    rw [cutJ_ok a, cutL_ok c (by have := hS.m4; omega) d hS.n9]
    exact ⟨rfl, rfl⟩
  · have e : wtE N (cutJ J) (cutL l) = wtE N J l := by unfold wtE; rw [h2, if_neg h0, if_neg h0]
    have e2 : wtE N J l ≠ 0 := by unfold wtE; rw [if_neg h0]; exact h0
    refine ⟨e, ?_⟩
    unfold wtV
    rw [e, if_neg e2, if_neg e2]
theorem weights_cut {N : Int} {jd : DV} {J : List (List (Int × Int))} (_ : JbD jd J) (_ : J.length ≤ 9223372036854775807) (_ : ∀ j ∈ J, j.length ≤ 9223372036854775807) {ld : DV} {l : List (List Int)} (hm : Mat ld l) (_ : l.length ≤ 9223372036854775807) (_ : ∀ r ∈ l, r.length ≤ 9223372036854775807) : DeepCall Tryz.prog 5 [.agg [DI N, jobsV (cutJ J)], rows12 l ld] (.tup [wtV N J l, DI (wtE N J l)]) := by
  have h := Weights5 (N := N) (jobsV_ok (cutJ J)) (by have := cutJ_len J; omega) (fun j hj => by have := cutJ_row j hj; omega) (rows12_mat hm) (by have := cutL_len l; unfold cutL at this; omega) (fun r hr => by have := cutL_row r hr; omega)
  rw [show (l.take 6).map (List.take 12) = cutL l from rfl, cut_wtE.1, cut_wtE.2] at h
  exact h
end Go.Proofs.YtdgahcbalabjdaaGreat

