import Derived.Test.YtdgahcbalabjdaaGreatZBaD
/-
  Batch: the shortest of all orders.
-/
namespace Go.Proofs.YtdgahcbalabjdaaGreat
open Go.Vm Go.Ht Go.Ba
theorem plainTryz_46 : plainFn Tryz.prog 46 = true := by kernel_rfl
set_option maxRecDepth 10000 in
theorem shNone49 {a b c d : DV} {os ar ps : List (Int × Int)} (ha : PrD a os) (hb : PrD b ar) (hc : SlD c) (hd : PrD d ps) (h9 : os.length ≤ 9) (hA : ar.length + ps.length ≤ 1000000) (hT : Times os) (hin : ArcsIn os.length ar) (hps : ArcsIn os.length ps) (hh : hds os ar = none) : DeepCall Tryz.prog 46 [.agg [a, b, c], d] Dnil := by
  refine deepCall_K 5 Tryz.func46 rfl (Nat.le_of_ble_eq_true rfl) fun M W0 => ?_
  refine KC.seq ?_
  refine KC.region ?_
  refine KT.step rfl rfl (K.box rfl) ?_
  refine KT.step rfl rfl (K.assign rfl) ?_
  refine KT.nil ?_
  refine thenK_n ?_
  refine KC.seq ?_
  refine KC.region ?_
  refine KT.step rfl rfl (K.loadOA [a, b, c] rfl rfl (by decide) Tryz.agg47 Tryz.size47 rfl) ?_
  refine KT.step rfl rfl (K.call1 rfl plainTryz_50 ((by have h := heads68 (c := c) ha hb h9 (by omega) hT hin; rw [hh] at h; exact h))) ?_
  refine KT.step rfl rfl (K.move rfl) ?_
  refine KT.step rfl rfl (K.extract rfl rfl) ?_
  refine KT.step rfl rfl (K.extract rfl rfl) ?_
  refine KT.step rfl rfl (K.assign rfl) ?_
  refine KT.step rfl rfl (K.assign rfl) ?_
  refine KT.nil ?_
  refine thenK_n ?_
  refine KC.seq ?_
  refine KC.seq ?_
  refine KC.region ?_
  refine KT.step rfl rfl (K.move rfl) ?_
  refine KT.step rfl rfl (K.not rfl) ?_
  refine KT.step rfl rfl (K.move rfl) ?_
  refine KT.bcase (fun hb16 => ?_) (fun hb16 => ?_)
  · skip
    refine KT.skip rfl rfl ?_
    refine KT.skip rfl rfl ?_
    refine KT.skip rfl rfl ?_
    refine KT.step rfl rfl (K.pick rfl (fun _ => rfl) (fun h => by cases h)) ?_
    refine KT.nil ?_
    refine thenK_n ?_
    refine KC.cond rfl (fun hc20 => ?_) (fun hc20 => ?_)
    · skip
      refine KC.seq ?_
      refine KC.region ?_
      refine KT.step rfl rfl (K.move rfl) ?_
      refine KT.step rfl rfl (K.assign rfl) ?_
      refine KT.nil ?_
      refine thenK_n ?_
      refine KC.ret ?_
      refine thenK_r ?_
      exact ⟨.inl rfl, _, rfl, fin_d rfl⟩
    · cases hc20
  · skip
    exact absurd hb16 (by decide)
set_option maxRecDepth 10000 in
theorem shDone49 {a b c d : DV} {os ar ps : List (Int × Int)} (ha : PrD a os) (hb : PrD b ar) (hc : SlD c) (hd : PrD d ps) (h9 : os.length ≤ 9) (hA : ar.length + ps.length ≤ 1000000) (hT : Times os) (hin : ArcsIn os.length ar) (hps : ArcsIn os.length ps) {hs : List Int} (hh : hds os ar = some hs) (h0 : ps = []) : DeepCall Tryz.prog 46 [.agg [a, b, c], d] (hdV hs) := by
  refine deepCall_K 5 Tryz.func46 rfl (Nat.le_of_ble_eq_true rfl) fun M W0 => ?_
  refine KC.seq ?_
  refine KC.region ?_
  refine KT.step rfl rfl (K.box rfl) ?_
  refine KT.step rfl rfl (K.assign rfl) ?_
  refine KT.nil ?_
  refine thenK_n ?_
  refine KC.seq ?_
  refine KC.region ?_
  refine KT.step rfl rfl (K.loadOA [a, b, c] rfl rfl (by decide) Tryz.agg47 Tryz.size47 rfl) ?_
  refine KT.step rfl rfl (K.call1 rfl plainTryz_50 ((by have h := heads68 (c := c) ha hb h9 (by omega) hT hin; rw [hh] at h; exact h))) ?_
  refine KT.step rfl rfl (K.move rfl) ?_
  refine KT.step rfl rfl (K.extract rfl rfl) ?_
  refine KT.step rfl rfl (K.extract rfl rfl) ?_
  refine KT.step rfl rfl (K.assign rfl) ?_
  refine KT.step rfl rfl (K.assign rfl) ?_
  refine KT.nil ?_
  refine thenK_n ?_
  refine KC.seq ?_
  refine KC.seq ?_
  refine KC.region ?_
  refine KT.step rfl rfl (K.move rfl) ?_
  refine KT.step rfl rfl (K.not rfl) ?_
  refine KT.step rfl rfl (K.move rfl) ?_
  refine KT.bcase (fun hb16 => ?_) (fun hb16 => ?_)
  · skip
    exact absurd hb16 (by decide)
  · skip
    refine KT.step rfl rfl (K.move rfl) ?_
    refine KT.step rfl rfl (K.lenF rfl hd Tryz.underlying45) ?_
    refine KT.step rfl rfl (K.eql rfl rfl) ?_
    refine KT.step rfl rfl (K.pick rfl (fun h => by cases h) (fun _ => rfl)) ?_
    refine KT.nil ?_
    refine thenK_n ?_
    refine KC.cond rfl (fun hc20 => ?_) (fun hc20 => ?_)
    · skip
      replace hc20 := of_decide_eq_true hc20
      refine KC.seq ?_
      refine KC.region ?_
      refine KT.step rfl rfl (K.move rfl) ?_
      refine KT.step rfl rfl (K.assign rfl) ?_
      refine KT.nil ?_
      refine thenK_n ?_
      refine KC.ret ?_
      refine thenK_r ?_
      exact ⟨.inl rfl, _, rfl, fin_d rfl⟩
    · skip
      exact absurd (of_decide_eq_false hc20) (by simp [h0])
set_option maxHeartbeats 2000000 in
set_option maxRecDepth 10000 in
theorem shStep49 {a b c d : DV} {os ar ps : List (Int × Int)} (ha : PrD a os) (hb : PrD b ar) (hc : SlD c) (hd : PrD d ps) (h9 : os.length ≤ 9) (hA : ar.length + ps.length ≤ 1000000) (hT : Times os) (hin : ArcsIn os.length ar) (hps : ArcsIn os.length ps) {hs : List Int} (hh : hds os ar = some hs) (h1 : 0 < ps.length) {X Y : Option (List Int)}
    (ihx : ∀ b2 d2, PrD b2 (ar ++ [ps[0]]) → PrD d2 ps.tail → DeepCall Tryz.prog 46 [.agg [a, b2, c], d2] (shV X)) (ihy : ∀ b2 d2, PrD b2 (ar ++ [(ps[0].2, ps[0].1)]) → PrD d2 ps.tail → DeepCall Tryz.prog 46 [.agg [a, b2, c], d2] (shV Y))
    (hX : ∀ r, X = some r → r.length = os.length ∧ Bd 200000000 r) (hY : ∀ r, Y = some r → r.length = os.length ∧ Bd 200000000 r) : DeepCall Tryz.prog 46 [.agg [a, b, c], d] (shV (pickO os X Y)) := by
  refine deepCall_K 5 Tryz.func46 rfl (Nat.le_of_ble_eq_true rfl) fun M W0 => ?_
  refine KC.seq ?_
  refine KC.region ?_
  refine KT.step rfl rfl (K.box rfl) ?_
  refine KT.step rfl rfl (K.assign rfl) ?_
  refine KT.nil ?_
  refine thenK_n ?_
  refine KC.seq ?_
  refine KC.region ?_
  refine KT.step rfl rfl (K.loadOA [a, b, c] rfl rfl (by decide) Tryz.agg47 Tryz.size47 rfl) ?_
  refine KT.step rfl rfl (K.call1 rfl plainTryz_50 ((by have h := heads68 (c := c) ha hb h9 (by omega) hT hin; rw [hh] at h; exact h))) ?_
  refine KT.step rfl rfl (K.move rfl) ?_
  refine KT.step rfl rfl (K.extract rfl rfl) ?_
  refine KT.step rfl rfl (K.extract rfl rfl) ?_
  refine KT.step rfl rfl (K.assign rfl) ?_
  refine KT.step rfl rfl (K.assign rfl) ?_
  refine KT.nil ?_
  refine thenK_n ?_
  refine KC.seq ?_
  refine KC.seq ?_
  refine KC.region ?_
  refine KT.step rfl rfl (K.move rfl) ?_
  refine KT.step rfl rfl (K.not rfl) ?_
  refine KT.step rfl rfl (K.move rfl) ?_
  refine KT.bcase (fun hb16 => ?_) (fun hb16 => ?_)
  · skip
    exact absurd hb16 (by decide)
  · skip
    refine KT.step rfl rfl (K.move rfl) ?_
    refine KT.step rfl rfl (K.lenF rfl hd Tryz.underlying45) ?_
    refine KT.step rfl rfl (K.eql rfl rfl) ?_
    refine KT.step rfl rfl (K.pick rfl (fun h => by cases h) (fun _ => rfl)) ?_
    refine KT.nil ?_
    refine thenK_n ?_
    refine KC.cond rfl (fun hc20 => ?_) (fun hc20 => ?_)
    · skip
      exact absurd (of_decide_eq_true hc20) (by omega)
    · skip
      replace hc20 := of_decide_eq_false hc20
      refine KC.skip ?_
      refine thenK_n ?_
      refine KC.seq ?_
      refine KC.draw Tryz.mixed ?_
      refine KT.step rfl rfl (K.loadOA [a, b, c] rfl rfl (by decide) Tryz.agg47 Tryz.size47 rfl) ?_
      refine KT.step rfl rfl (K.move rfl) ?_
      refine KT.step rfl rfl (K.idxF c2_len (m := 0) rfl hd rfl (by omega) Tryz.underlying45 Tryz.size78) ?_
      refine KT.step rfl rfl (K.loadFl (cs := c2 ps[0]) rfl rfl Tryz.agg78 Tryz.size78) ?_
      refine KT.step rfl rfl (K.call2 rfl rfl plainTryz_35 (with71 (SlD.of_pr ha) hb hc (by omega) _)) ?_
      refine KT.step rfl rfl (K.move rfl) ?_
      refine KT.tailP rfl rfl rfl hd (by omega) Tryz.underlying45 Tryz.size78 fun r28 hr28 => ?_
      refine KT.step rfl rfl (K.call2 rfl rfl plainTryz_46 (ihx _ _ (pr_snoc _ _) hr28)) ?_
      refine KT.step rfl rfl (K.assign rfl) ?_
      refine KT.nil ?_
      refine ⟨by kernel_rfl, ?_⟩
      refine thenK_n ?_
      refine KC.seq ?_
      refine KC.draw Tryz.mixed ?_
      refine KT.step rfl rfl (K.loadOA [a, b, c] rfl rfl (by decide) Tryz.agg47 Tryz.size47 rfl) ?_
      refine KT.step rfl rfl (K.move rfl) ?_
      refine KT.step rfl rfl (K.idxF c2_len (m := 0) rfl hd rfl (by omega) Tryz.underlying45 Tryz.size78) ?_
      refine KT.step rfl rfl (K.loadFl (cs := c2 ps[0]) rfl rfl Tryz.agg78 Tryz.size78) ?_
      refine KT.step rfl rfl (K.call1 rfl plainTryz_68 (back72 _)) ?_
      refine KT.step rfl rfl (K.call2 rfl rfl plainTryz_35 (with71 (SlD.of_pr ha) hb hc (by omega) _)) ?_
      refine KT.step rfl rfl (K.move rfl) ?_
      refine KT.tailP rfl rfl rfl hd (by omega) Tryz.underlying45 Tryz.size78 fun r37 hr37 => ?_
      refine KT.step rfl rfl (K.call2 rfl rfl plainTryz_46 (ihy _ _ (pr_snoc _ _) hr37)) ?_
      refine KT.step rfl rfl (K.assign rfl) ?_
      refine KT.nil ?_
      refine ⟨by kernel_rfl, ?_⟩
      refine thenK_n ?_
      refine KC.seq ?_
      refine KC.seq ?_
      refine KC.draw Tryz.mixed ?_
      refine KT.step rfl rfl (K.move rfl) ?_
      refine KT.step rfl rfl (K.eqNilB rfl (shV_sld X) Tryz.underlying36) ?_
      refine KT.step rfl rfl (K.move rfl) ?_
      refine KT.bcase (fun hb41 => ?_) (fun hb41 => ?_)
      · skip
        rw [shV_nil] at hb41
        have hx : X = none := by cases X with | none => rfl | some zs => cases hb41
        refine KT.skip rfl rfl ?_
        refine KT.skip rfl rfl ?_
        refine KT.skip rfl rfl ?_
        refine KT.skip rfl rfl ?_
        refine KT.skip rfl rfl ?_
        refine KT.skip rfl rfl ?_
        refine KT.skip rfl rfl ?_
        refine KT.skip rfl rfl ?_
        refine KT.skip rfl rfl ?_
        refine KT.skip rfl rfl ?_
        refine KT.skip rfl rfl ?_
        refine KT.step rfl rfl (K.pick rfl (fun _ => rfl) (fun h => by cases h)) ?_
        refine KT.nil ?_
        refine ⟨by kernel_rfl, ?_⟩
        refine thenK_n ?_
        refine KC.cond rfl (fun hc53 => ?_) (fun hc53 => ?_)
        · skip
          refine KC.seq ?_
          refine KC.region ?_
          refine KT.step rfl rfl (K.move rfl) ?_
          refine KT.step rfl rfl (K.assign rfl) ?_
          refine KT.nil ?_
          refine thenK_n ?_
          refine KC.ret ?_
          refine thenK_r ?_
          exact ⟨.inl rfl, _, rfl, fin_d (by rw [hx]; rfl)⟩
        · cases hc53
      · skip
        rw [shV_nil] at hb41
        obtain ⟨zs, hx⟩ : ∃ zs, X = some zs := by cases X with | none => cases hb41 | some zs => exact ⟨zs, rfl⟩
        refine KT.step rfl rfl (K.move rfl) ?_
        refine KT.step rfl rfl (K.neqNilB rfl (shV_sld Y) Tryz.underlying36) ?_
        refine KT.step rfl rfl (K.move rfl) ?_
        refine KT.bcase (fun hb44 => ?_) (fun hb44 => ?_)
        · skip
          rw [shV_nil] at hb44
          obtain ⟨ys, hy⟩ : ∃ zs, Y = some zs := by cases Y with | none => cases hb44 | some zs => exact ⟨zs, rfl⟩
          refine KT.step rfl rfl (K.loadOA [a, b, c] rfl rfl (by decide) Tryz.agg47 Tryz.size47 rfl) ?_
          refine KT.step rfl rfl (K.move rfl) ?_
          refine KT.step rfl rfl (K.call2 rfl rfl plainTryz_49 (span46 ha (by rw [hy]; exact hdV_ok ys) (hY _ hy).1 h9 hT (fun z hz => by have := (hY _ hy).2 z hz; omega))) ?_
          refine KT.step rfl rfl (K.loadOA [a, b, c] rfl rfl (by decide) Tryz.agg47 Tryz.size47 rfl) ?_
          refine KT.step rfl rfl (K.move rfl) ?_
          refine KT.step rfl rfl (K.call2 rfl rfl plainTryz_49 (span46 ha (by rw [hx]; exact hdV_ok zs) (hX _ hx).1 h9 hT (fun z hz => by have := (hX _ hx).2 z hz; omega))) ?_
          refine KT.step rfl rfl (K.lss rfl rfl) ?_
          refine KT.step rfl rfl (K.pick rfl (fun _ => rfl) (fun h => by cases h)) ?_
          refine KT.step rfl rfl (K.pick rfl (fun h => by cases h) (fun _ => rfl)) ?_
          refine KT.nil ?_
          refine ⟨by kernel_rfl, ?_⟩
          refine thenK_n ?_
          refine KC.cond rfl (fun hc53 => ?_) (fun hc53 => ?_)
          · skip
            replace hc53 := of_decide_eq_true hc53
            refine KC.seq ?_
            refine KC.region ?_
            refine KT.step rfl rfl (K.move rfl) ?_
            refine KT.step rfl rfl (K.assign rfl) ?_
            refine KT.nil ?_
            refine thenK_n ?_
            refine KC.ret ?_
            refine thenK_r ?_
            exact ⟨.inl rfl, _, rfl, fin_d (by rw [hx, hy]; exact congrArg shV (show pickO os (some zs) (some ys) = some ys from if_pos hc53))⟩
          · skip
            replace hc53 := of_decide_eq_false hc53
            refine KC.skip ?_
            refine thenK_n ?_
            refine KC.seq ?_
            refine KC.region ?_
            refine KT.step rfl rfl (K.move rfl) ?_
            refine KT.step rfl rfl (K.assign rfl) ?_
            refine KT.nil ?_
            refine thenK_n ?_
            refine KC.ret ?_
            exact ⟨.inl rfl, _, rfl, fin_d (by rw [hx, hy]; exact congrArg shV (show pickO os (some zs) (some ys) = some zs from if_neg hc53))⟩
        · skip
          rw [shV_nil] at hb44
          have hy : Y = none := by cases Y with | none => rfl | some zs => cases hb44
          refine KT.skip rfl rfl ?_
          refine KT.skip rfl rfl ?_
          refine KT.skip rfl rfl ?_
          refine KT.skip rfl rfl ?_
          refine KT.skip rfl rfl ?_
          refine KT.skip rfl rfl ?_
          refine KT.skip rfl rfl ?_
          refine KT.step rfl rfl (K.pick rfl (fun h => by cases h) (fun _ => rfl)) ?_
          refine KT.step rfl rfl (K.pick rfl (fun h => by cases h) (fun _ => rfl)) ?_
          refine KT.nil ?_
          refine ⟨by kernel_rfl, ?_⟩
          refine thenK_n ?_
          refine KC.cond rfl (fun hc53 => ?_) (fun hc53 => ?_)
          · cases hc53
          · skip
            refine KC.skip ?_
            refine thenK_n ?_
            refine KC.seq ?_
            refine KC.region ?_
            refine KT.step rfl rfl (K.move rfl) ?_
            refine KT.step rfl rfl (K.assign rfl) ?_
            refine KT.nil ?_
            refine thenK_n ?_
            refine KC.ret ?_
            exact ⟨.inl rfl, _, rfl, fin_d (by rw [hx, hy]; rfl)⟩
theorem shortest49 {a c : DV} {os : List (Int × Int)} (ha : PrD a os) (hc : SlD c) (h9 : os.length ≤ 9) (hT : Times os) : ∀ (ps ar : List (Int × Int)) (b d : DV), PrD b ar → PrD d ps → ar.length + ps.length ≤ 1000000 → ArcsIn os.length ar → ArcsIn os.length ps →
    DeepCall Tryz.prog 46 [.agg [a, b, c], d] (shV (shO os ar ps))
  | [], ar, b, d, hb, hd, hA, hin, hps => by
    show DeepCall Tryz.prog 46 [.agg [a, b, c], d] (shV (hds os ar))
    cases hh : hds os ar with
    | none => exact shNone49 ha hb hc hd h9 hA hT hin hps hh
    | some hs => exact shDone49 ha hb hc hd h9 hA hT hin hps hh rfl
  | p :: ps, ar, b, d, hb, hd, hA, hin, hps => by
    unfold shO
    cases hh : hds os ar with
    | none => exact shNone49 ha hb hc hd h9 hA hT hin hps hh
    | some hs =>
      have hp := hps p (by simp)
      have hps2 : ArcsIn os.length ps := fun x hx => hps x (by simp [hx])
      have hA1 : (ar ++ [p]).length + ps.length ≤ 1000000 := by simp at hA ⊢; omega
      have hA2 : (ar ++ [(p.2, p.1)]).length + ps.length ≤ 1000000 := by simp at hA ⊢; omega
      have i1 := arcs_snoc hin hp
      have i2 := arcs_snoc (p := (p.2, p.1)) hin ⟨hp.2.2.1, hp.2.2.2, hp.1, hp.2.1⟩
      exact shStep49 ha hb hc hd h9 hA hT hin hps hh (by simp) (fun b2 d2 e1 e2 => shortest49 ha hc h9 hT ps _ b2 d2 e1 e2 hA1 i1 hps2) (fun b2 d2 e1 e2 => shortest49 ha hc h9 hT ps _ b2 d2 e1 e2 hA2 i2 hps2)
        (fun r h => shO_ok hT h9 _ _ r hA1 i1 hps2 h) (fun r h => shO_ok hT h9 _ _ r hA2 i2 hps2 h)
end Go.Proofs.YtdgahcbalabjdaaGreat

