import Derived.Test.YtdgahcbalabjdaaGreatZBaH
import Derived.Test.YtdgahcbalabjdaaGreatCyN
/-
  Batch: the best order; the example.
-/
namespace Go.Proofs.YtdgahcbalabjdaaGreat
open Go.Vm Go.Ht Go.Ba
set_option maxRecDepth 10000 in
theorem best_ok {N : Int} {jd : DV} {J : List (List (Int × Int))} (hd : JbD jd J) (hl : J.length ≤ 9223372036854775807) (hr : ∀ j ∈ J, j.length ≤ 9223372036854775807) (hok : shopB N J = true) {hs : List Int} (hs_ : shO J.flatten (arcsO 0 J) (rivO (msO N.toNat J.flatten)) = some hs) : DeepCall Tryz.prog 25 [.agg [DI N, jd]] (.tup [ordV hs (msO N.toNat J.flatten), DI (spanO J.flatten hs), DI 0]) := by
  have hS := shopB_iff.1 hok
  have hT := times_ok hS
  have h9 := hS.n9
  have hin := arcs_in (J := J)
  have hal := arcsO_len 0 J
  have hri := riv_in (M := N.toNat) (ops := J.flatten)
  have hrl := riv_len (ms := msO N.toNat J.flatten) (fun l hl => Nat.le_trans (ms_row hl).1 h9)
  rw [msO_len] at hrl
  have hm1 := hS.m1
  have hm4 := hS.m4
  obtain ⟨hsl, hsb⟩ := shO_ok hT h9 _ _ hs (by omega) hin hri hs_
  refine deepCall_K 5 Tryz.func25 rfl (Nat.le_of_ble_eq_true rfl) fun M W0 => ?_
  refine KC.seq ?_
  refine KC.region ?_
  refine KT.step rfl rfl (K.box rfl) ?_
  refine KT.step rfl rfl (K.assign rfl) ?_
  refine KT.step rfl rfl (K.assign rfl) ?_
  refine KT.step rfl rfl (K.assign rfl) ?_
  refine KT.nil ?_
  refine thenK_n ?_
  refine KC.seq ?_
  refine KC.seq ?_
  refine KC.region ?_
  refine KT.step rfl rfl (K.loadOA [DI N, jd] rfl rfl (by decide) Tryz.agg31 Tryz.size31 rfl) ?_
  refine KT.step rfl rfl (K.call1 rfl plainTryz_15 ((by have h := valid47 (N := N) hd hl hr; rw [hok] at h; exact h))) ?_
  refine KT.step rfl rfl (K.not rfl) ?_
  refine KT.nil ?_
  refine thenK_n ?_
  refine KC.cond rfl (fun hc9 => ?_) (fun hc9 => ?_)
  · skip
    exact absurd hc9 (by decide)
  · skip
    refine KC.skip ?_
    refine thenK_n ?_
    refine KC.seq ?_
    refine KC.region ?_
    refine KT.step rfl rfl (K.loadOA [DI N, jd] rfl rfl (by decide) Tryz.agg31 Tryz.size31 rfl) ?_
    refine KT.step rfl rfl (K.call1 rfl plainTryz_16 (graph48 hd hS)) ?_
    refine KT.step rfl rfl (K.alloc Tryz.zero47) ?_
    refine KT.putAll (cs := [.d (flV c2 J.flatten), .d (flV c2 (arcsO 0 J)), .d (.sl ((msO N.toNat J.flatten).map intsV) N.toNat (some N.toNat))]) rfl rfl rfl rfl rfl rfl rfl (one3 (flV_sld _) (.sl _ _ _) (flV_sld _).one) Tryz.size47 ?_
    refine KT.nil ?_
    refine thenK_n ?_
    refine KC.seq ?_
    refine KC.draw Tryz.mixed ?_
    refine KT.step rfl rfl (K.loadOA [flV c2 J.flatten, flV c2 (arcsO 0 J), .sl ((msO N.toNat J.flatten).map intsV) N.toNat (some N.toNat)] rfl rfl (by decide) Tryz.agg47 Tryz.size47 rfl) ?_
    refine KT.step rfl rfl (K.loadOA [flV c2 J.flatten, flV c2 (arcsO 0 J), .sl ((msO N.toNat J.flatten).map intsV) N.toNat (some N.toNat)] rfl rfl (by decide) Tryz.agg47 Tryz.size47 rfl) ?_
    refine KT.step rfl rfl (K.call1 rfl plainTryz_47 (rivals50 (ms_mat _ _) (by rw [msO_len]; omega) (fun l hl => Nat.le_trans (ms_row hl).1 h9))) ?_
    refine KT.step rfl rfl (K.call2 rfl rfl plainTryz_46 ((by have h := shortest49 (c := .sl ((msO N.toNat J.flatten).map intsV) N.toNat (some N.toNat)) (flV_ok J.flatten) (.sl _ _ _) h9 hT _ _ _ _ (flV_ok (arcsO 0 J)) (flV_ok (rivO (msO N.toNat J.flatten))) (by omega) hin hri; rw [hs_] at h; exact h))) ?_
    refine KT.step rfl rfl (K.assign rfl) ?_
    refine KT.nil ?_
    refine ⟨by kernel_rfl, ?_⟩
    refine thenK_n ?_
    refine KC.seq ?_
    refine KC.draw Tryz.mixed ?_
    refine KT.step rfl rfl (K.loadOA [flV c2 J.flatten, flV c2 (arcsO 0 J), .sl ((msO N.toNat J.flatten).map intsV) N.toNat (some N.toNat)] rfl rfl (by decide) Tryz.agg47 Tryz.size47 rfl) ?_
    refine KT.step rfl rfl (K.move rfl) ?_
    refine KT.step rfl rfl (K.call2 rfl rfl plainTryz_48 (orderBy51 (ms_mat _ _) (hdV_ok hs) (by rw [msO_len]; omega) (fun l hl => ⟨Nat.le_trans (ms_row hl).1 h9, fun x hx => by have := (ms_row hl).2 x hx; rw [hsl]; exact this⟩))) ?_
    refine KT.step rfl rfl (K.loadOA [flV c2 J.flatten, flV c2 (arcsO 0 J), .sl ((msO N.toNat J.flatten).map intsV) N.toNat (some N.toNat)] rfl rfl (by decide) Tryz.agg47 Tryz.size47 rfl) ?_
    refine KT.step rfl rfl (K.move rfl) ?_
    refine KT.step rfl rfl (K.call2 rfl rfl plainTryz_49 (span46 (flV_ok J.flatten) (hdV_ok hs) hsl h9 hT (fun x hx => by have := hsb x hx; omega))) ?_
    refine KT.step rfl rfl (K.assign rfl) ?_
    refine KT.step rfl rfl (K.assign rfl) ?_
    refine KT.step rfl rfl (K.assign rfl) ?_
    refine KT.nil ?_
    refine ⟨by kernel_rfl, ?_⟩
    refine thenK_n ?_
    refine KC.ret ?_
    exact ⟨.inl rfl, _, rfl, rfl⟩
theorem build75_2 (x y : Int) : opBuild Tryz.prog 60 [(0, .d (DI x)), (1, .d (DI y))] = some (.d (.agg [DI x, DI y])) := by kernel_rfl
def exD : DV := .sl [.sl [DI 0, DI 3, DI 1, DI 2] 2 (some 2), .sl [DI 0, DI 2, DI 1, DI 4] 2 (some 2)] 2 (some 2)
def exJ : List (List (Int × Int)) := [[(0, 3), (1, 2)], [(0, 2), (1, 4)]]
theorem exJb : JbD exD exJ := by
  refine (Vec.sl (l := exJ) (cap := some 2) rfl fun i c y hc hy => ?_ : Vec PrD (.sl [.sl [DI 0, DI 3, DI 1, DI 2] 2 (some 2), .sl [DI 0, DI 2, DI 1, DI 4] 2 (some 2)] exJ.length (some 2)) exJ)
  match i with
  | 0 => cases hc; cases hy; exact (FlD.sl (l := [(0, 3), (1, 2)]) (cap := some 2) : PrD (.sl ([((0 : Int), (3 : Int)), (1, 2)].flatMap c2) 2 (some 2)) _)
  | 1 => cases hc; cases hy; exact (FlD.sl (l := [(0, 2), (1, 4)]) (cap := some 2) : PrD (.sl ([((0 : Int), (2 : Int)), (1, 4)].flatMap c2) 2 (some 2)) _)
  | i + 2 => simp [exJ] at hy
theorem exS : shO exJ.flatten (arcsO 0 exJ) (rivO (msO (2 : Int).toNat exJ.flatten)) = some [2, 6, 0, 2] := by decide
theorem exBuild : opBuild Tryz.prog 31 [(0, .d (DI 2)), (1, .d exD)] = some (.d (.agg [DI 2, exD])) := by kernel_rfl
set_option maxRecDepth 10000 in
theorem awake22 : DeepCall Tryz.prog 11 [] (DB true) := by
  refine deepCall_K 5 Tryz.func11 rfl (Nat.le_of_ble_eq_true rfl) fun M W0 => ?_
  refine KC.seq ?_
  refine KC.region ?_
  refine KT.step rfl rfl (K.assign rfl) ?_
  refine KT.nil ?_
  refine thenK_n ?_
  refine KC.seq ?_
  refine KC.region ?_
  refine KT.step rfl rfl (K.buildS rfl (build75_2 _ _)) ?_
  refine KT.step rfl rfl (K.buildS rfl (build75_2 _ _)) ?_
  refine KT.step rfl rfl (K.litSl (m := 2) (k := 2) (lo := 2) (qs := [(0, .d (.agg [DI 0, DI 3])), (1, .d (.agg [DI 1, DI 2]))]) (cells := [.d (DI 0), .d (DI 3), .d (DI 1), .d (DI 2)]) (d := .sl [DI 0, DI 3, DI 1, DI 2] 2 (some 2)) rfl (fun q hq => by simp only [List.mem_cons, List.not_mem_nil, or_false] at hq; rcases hq with rfl | rfl <;> exact ⟨_, rfl⟩) (by kernel_rfl) (by kernel_rfl)) ?_
  refine KT.step rfl rfl (K.buildS rfl (build75_2 _ _)) ?_
  refine KT.step rfl rfl (K.buildS rfl (build75_2 _ _)) ?_
  refine KT.step rfl rfl (K.litSl (m := 2) (k := 2) (lo := 2) (qs := [(0, .d (.agg [DI 0, DI 2])), (1, .d (.agg [DI 1, DI 4]))]) (cells := [.d (DI 0), .d (DI 2), .d (DI 1), .d (DI 4)]) (d := .sl [DI 0, DI 2, DI 1, DI 4] 2 (some 2)) rfl (fun q hq => by simp only [List.mem_cons, List.not_mem_nil, or_false] at hq; rcases hq with rfl | rfl <;> exact ⟨_, rfl⟩) (by kernel_rfl) (by kernel_rfl)) ?_
  refine KT.step rfl rfl (K.litSl (m := 2) (k := 1) (lo := 2) (qs := [(0, .d (.sl [DI 0, DI 3, DI 1, DI 2] 2 (some 2))), (1, .d (.sl [DI 0, DI 2, DI 1, DI 4] 2 (some 2)))]) (cells := [.d (.sl [DI 0, DI 3, DI 1, DI 2] 2 (some 2)), .d (.sl [DI 0, DI 2, DI 1, DI 4] 2 (some 2))]) (d := exD) rfl (fun q hq => by simp only [List.mem_cons, List.not_mem_nil, or_false] at hq; rcases hq with rfl | rfl <;> exact ⟨_, rfl⟩) (by kernel_rfl) (by kernel_rfl)) ?_
  refine KT.step rfl rfl (K.buildS rfl exBuild) ?_
  refine KT.step rfl rfl (K.call1 rfl plainTryz_25 (best_ok (N := 2) (J := exJ) exJb (by decide) (by decide) (by decide) exS)) ?_
  refine KT.step rfl rfl (K.move rfl) ?_
  refine KT.step rfl rfl (K.extract rfl rfl) ?_
  refine KT.step rfl rfl (K.extract rfl rfl) ?_
  refine KT.step rfl rfl (K.extract rfl rfl) ?_
  refine KT.step rfl rfl (K.assign rfl) ?_
  refine KT.step rfl rfl (K.assign rfl) ?_
  refine KT.step rfl rfl (K.assign rfl) ?_
  refine KT.nil ?_
  refine thenK_n ?_
  refine KC.seq ?_
  refine KC.region ?_
  refine KT.step rfl rfl (K.move rfl) ?_
  refine KT.step rfl rfl (K.eql rfl rfl) ?_
  refine KT.step rfl rfl (K.move rfl) ?_
  refine KT.bcase (fun hb19 => ?_) (fun hb19 => ?_)
  · skip
    replace hb19 := of_decide_eq_true hb19
    refine KT.step rfl rfl (K.move rfl) ?_
    refine KT.step rfl rfl (K.eql rfl rfl) ?_
    refine KT.step rfl rfl (K.pick rfl (fun _ => rfl) (fun h => by cases h)) ?_
    refine KT.step rfl rfl (K.assign rfl) ?_
    refine KT.nil ?_
    refine thenK_n ?_
    refine KC.ret ?_
    exact ⟨.inl rfl, _, rfl, rfl⟩
  · skip
    exact absurd (of_decide_eq_false hb19) (by decide)
end Go.Proofs.YtdgahcbalabjdaaGreat

