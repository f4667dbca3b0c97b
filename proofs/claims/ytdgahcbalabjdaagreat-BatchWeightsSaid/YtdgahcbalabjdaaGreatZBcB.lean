import Derived.Test.YtdgahcbalabjdaaGreatZBcA
import Derived.Test.YtdgahcbalabjdaaGreatBcN
/-
  Batch: the matrix of an order.
-/
namespace Go.Proofs.YtdgahcbalabjdaaGreat
open Go.Vm Go.Ht Go.Ba Go.Cy
theorem plainTryz_19 : plainFn Tryz.prog 19 = true := by kernel_rfl
theorem plainTryz_41 : plainFn Tryz.prog 41 = true := by kernel_rfl
theorem plainTryz_67 : plainFn Tryz.prog 67 = true := by kernel_rfl
theorem plainTryz_21 : plainFn Tryz.prog 21 = true := by kernel_rfl
theorem plainTryz_5 : plainFn Tryz.prog 5 = true := by kernel_rfl
theorem build86_4 (x y z w : Int) : opBuild Tryz.prog 86 [(0, .d (DI x)), (1, .d (DI y)), (2, .d (DI z)), (3, .d (DI w))] = some (.d (.agg [DI x, DI y, DI z, DI w])) := by kernel_rfl
set_option maxHeartbeats 1000000 in
set_option maxRecDepth 10000 in
theorem delays19 {a b c : DV} {os ar : List (Int × Int)} (ha : PrD a os) (hb : PrD b ar) (hA : ar.length ≤ 1000000) (hin : ArcsIn os.length ar) : DeepCall Tryz.prog 19 [.agg [a, b, c]] (flV c4 (ar.map (dq os))) := by
  refine deepCall_K 5 Tryz.func19 rfl (Nat.le_of_ble_eq_true rfl) fun M W0 => ?_
  refine KC.seq ?_
  refine KC.region ?_
  refine KT.step rfl rfl (K.box rfl) ?_
  refine KT.step rfl rfl (K.assign rfl) ?_
  refine KT.nil ?_
  refine thenK_n ?_
  refine KC.seq ?_
  refine KC.region ?_
  refine KT.step rfl rfl (K.assign rfl) ?_
  refine KT.nil ?_
  refine thenK_n ?_
  refine KC.seq ?_
  refine KC.seq ?_
  refine KC.region ?_
  refine KT.step rfl rfl (K.fieldAddrO rfl Tryz.fld47_1 Tryz.size45) ?_
  refine KT.step rfl rfl (K.loadO rfl rfl (by simp) rfl Tryz.agg45) ?_
  refine KT.step rfl rfl (K.lenF rfl hb Tryz.underlying45) ?_
  refine KT.step rfl rfl (K.move rfl) ?_
  refine KT.nil ?_
  refine thenK_n ?_
  refine KC.block ?_
  refine KC.loop (fun p : List VObj × XV × Nat => p.1) (fun p => [(1, .optr 0 0), (7, .d b), (8, .d (DI (ar.length : Nat))), (9, .d (DI (p.2.2 : Nat))), (3, p.2.1)]) (fun p => p.2.2 ≤ ar.length ∧ (p.1[0]? = some ⟨[.d a, .d b, .d c], 0⟩ ∧ OwnK 4 p.1 p.2.1 ((((ar.take p.2.2).map (dq os)).flatMap c4).map .d) ∧ (∀ j, idX p.2.1 = some j → 1 ≤ j) ∧ ((ar.take p.2.2).map (dq os) = [] → p.2.1 = .d Dnil))) (fun p => ar.length - p.2.2) (_, .d Dnil, 0) ⟨Nat.zero_le _, rfl, .nil, fun j hj => (by cases hj), fun _ => rfl⟩ rfl (by simp [Go.Vm.look, extK, enterK]) ?_
  intro p hp
  obtain ⟨σ0, x0, i⟩ := p
  obtain ⟨hi, y0, o0, d0, n0⟩ := hp
  simp only at hi y0 o0 d0 n0 ⊢
  refine KC.seq ?_
  refine KC.region ?_
  refine KT.step rfl rfl (K.lss rfl rfl) ?_
  refine KT.nil ?_
  refine thenK_n ?_
  refine KC.seq ?_
  refine KC.cond rfl (fun hc10 => ?_) (fun hc10 => ?_)
  · skip
    replace hc10 := of_decide_eq_true hc10
    have hil : i < ar.length := by omega
    obtain ⟨q1, q2, q3, q4⟩ := hin _ (List.getElem_mem hil)
    refine KC.skip ?_
    refine thenK_n ?_
    refine KC.seq ?_
    refine KC.block ?_
    refine KC.seq ?_
    refine KC.region ?_
    refine KT.step rfl rfl (K.idxF c2_len (m := i) rfl hb rfl (by omega) Tryz.underlying45 Tryz.size78) ?_
    refine KT.step rfl rfl (K.loadFl (cs := c2 ar[i]) rfl rfl Tryz.agg78 Tryz.size78) ?_
    refine KT.step rfl rfl (K.alloc Tryz.zero78) ?_
    refine KT.storeL (cs := (c2 ar[i]).map .d) rfl rfl rfl rfl rfl rfl rfl Tryz.size78 ?_
    refine KT.nil ?_
    refine thenK_n ?_
    refine KC.draw Tryz.mixed ?_
    refine KT.step rfl rfl (K.move rfl) ?_
    refine KT.step rfl rfl (K.fieldAddrO rfl Tryz.fld78_0 Tryz.size3) ?_
    refine KT.step rfl rfl (K.loadO rfl (List.getElem?_concat_length ..) (by simp) rfl Tryz.agg3) ?_
    refine KT.step rfl rfl (K.fieldAddrO rfl Tryz.fld78_1 Tryz.size3) ?_
    refine KT.step rfl rfl (K.loadO rfl (List.getElem?_concat_length ..) (by simp) rfl Tryz.agg3) ?_
    refine KT.step rfl rfl (K.fieldAddrO rfl Tryz.fld47_0 Tryz.size44) ?_
    refine KT.step rfl rfl (K.loadO rfl (get_left y0) (by simp) rfl Tryz.agg44) ?_
    refine KT.step rfl rfl (K.fieldAddrO rfl Tryz.fld78_0 Tryz.size3) ?_
    refine KT.step rfl rfl (K.loadO rfl (List.getElem?_concat_length ..) (by simp) rfl Tryz.agg3) ?_
    refine KT.step rfl rfl (K.idxF c2_len (m := ar[i].1.toNat) rfl ha (by exact congrArg (fun z => some (XV.d (DI z))) (show ar[i].1 = ((ar[i].1).toNat : Int) by omega)) (by omega) Tryz.underlying44 Tryz.size60) ?_
    refine KT.step rfl rfl (K.fieldAddrD rfl Tryz.fld60_1 Tryz.size3) ?_
    refine KT.step rfl rfl (K.load rfl Tryz.agg3) ?_
    have et : os[ar[i].1.toNat].2 = tm os ar[i].1 := (tm_get (by omega) (by omega)).symm
    rw [et]
    refine KT.step rfl rfl (K.buildS rfl (build86_4 _ _ _ _)) ?_
    refine KT.step rfl rfl (K.buildK (k := 4) (ds := c4 (dq os ar[i])) rfl rfl Tryz.underlying53 Tryz.size86 Tryz.zero86 (by decide)) ?_
    refine KT.appK (k := 4) rfl rfl rfl rfl ((o0.pushed _).pushed _) (List.getElem?_concat_length ..) rfl rfl (by rw [List.length_map, flat_len c4_len, List.length_map, List.length_take]; omega) Tryz.underlying53 Tryz.size86 (of_decide_eq_true (by kernel_rfl)) (by kernel_rfl) (by decide) fun σ4 x4 ho4 k4 w4 => ?_
    obtain ⟨j4, w5, w6⟩ := w4
    simp only [List.length_append, List.length_cons, List.length_nil] at w6
    refine KT.step rfl rfl (K.assign rfl) ?_
    refine KT.nil ?_
    refine ⟨by kernel_rfl, ?_⟩
    refine blockK_n ?_
    refine thenK_n ?_
    refine KC.region ?_
    refine KT.step rfl rfl (K.add rfl rfl (wrap_id (by omega))) ?_
    refine KT.step rfl rfl (K.move rfl) ?_
    refine KT.nil ?_
    refine thenK_n ?_
    have e1 : (ar.take (i + 1)).map (dq os) = (ar.take i).map (dq os) ++ [dq os ar[i]] := by
      rw [List.take_succ_eq_append_getElem hil, List.map_append]; rfl
    refine ⟨(σ4, x4, i + 1), ⟨by simp only; omega, ?_, ?_, fun j hj => ?_, fun h => ?_⟩, by simp only; omega, rfl, by simp [Go.Vm.look, extK]⟩
    · exact (k4 0 (fun h => by have := d0 0 h; omega) (by simp)).trans (get_left (get_left y0))
    · simp only [e1]
      rw [List.flatMap_append, List.map_append, List.flatMap_cons, List.flatMap_nil, List.append_nil]
      exact ho4
    · simp only at hj; rw [w5] at hj; cases hj; omega
    · simp only [e1] at h; simp at h
  · skip
    replace hc10 := of_decide_eq_false hc10
    refine KC.exit ?_
    refine thenK_x ?_
    refine thenK_x ?_
    refine blockK_e ?_
    refine thenK_n ?_
    refine KC.seq ?_
    refine KC.region ?_
    refine KT.step rfl rfl (K.move rfl) ?_
    refine KT.step rfl rfl (K.assign rfl) ?_
    refine KT.nil ?_
    refine thenK_n ?_
    refine KC.ret ?_
    have et : ar.take i = ar := List.take_of_length_le (by omega)
    rw [et] at o0 n0
    exact ⟨.inl rfl, _, rfl, own_fl c4_len (by decide) o0 n0⟩
theorem mul67_16 : DeepCall Tryz.prog 67 [.lit (.int .u64 1), .lit (.int .u64 6)] (.tup [.lit (.int .u64 0), .lit (.int .u64 6)]) := runFn_sound (inl := fun f => f == 9999) (len := 200) (k := 20) (f := 67) Tryz.mixed (by kernel_rfl)
set_option maxHeartbeats 1000000 in
set_option maxRecDepth 10000 in
theorem repeat41 {σ : List VObj} {id lo : Nat} {ex : Bool} {z : Int} (hid : σ[id]? = some ⟨[.d (DI z)], 0⟩) : OwnCall Tryz.prog 41 σ [.osl id 0 1 1 lo ex, .d (DI 6)] (σ ++ [⟨[.d (DI z), .d (DI z), .d (DI z), .d (DI z), .d (DI z), .d (DI z)], 0⟩]) (.osl σ.length 0 6 1 6 true) := by
  refine ownCall_K Tryz.func41 rfl (Nat.le_of_ble_eq_true rfl) fun M W0 => ?_
  refine KC.seq ?_
  refine KC.region ?_
  refine KT.step rfl rfl (K.assign rfl) ?_
  refine KT.nil ?_
  refine thenK_n ?_
  refine KC.seq ?_
  refine KC.seq ?_
  refine KC.region ?_
  refine KT.step rfl rfl (K.move rfl) ?_
  refine KT.step rfl rfl (K.lss rfl rfl) ?_
  refine KT.nil ?_
  refine thenK_n ?_
  refine KC.cond rfl (fun hc10 => ?_) (fun hc10 => ?_)
  · skip
    exact absurd hc10 (by decide)
  · skip
    replace hc10 := of_decide_eq_false hc10
    refine KC.skip ?_
    refine thenK_n ?_
    refine KC.seq ?_
    refine KC.region ?_
    refine KT.step rfl rfl (K.move rfl) ?_
    refine KT.step rfl rfl (K.lenO rfl Tryz.underlying36) ?_
    refine KT.step rfl rfl (K.conv rfl Tryz.underlying3 Tryz.underlying113 (show IntKind.u64.wrap ((1 : Nat) : Int) = 1 from by decide)) ?_
    refine KT.step rfl rfl (K.move rfl) ?_
    refine KT.step rfl rfl (K.conv rfl Tryz.underlying3 Tryz.underlying113 (show IntKind.u64.wrap (6 : Int) = 6 from by decide)) ?_
    refine KT.step rfl rfl (K.call2 rfl rfl plainTryz_67 mul67_16) ?_
    refine KT.step rfl rfl (K.move rfl) ?_
    refine KT.step rfl rfl (K.extract rfl rfl) ?_
    refine KT.step rfl rfl (K.extract rfl rfl) ?_
    refine KT.step rfl rfl (K.assign rfl) ?_
    refine KT.step rfl rfl (K.assign rfl) ?_
    refine KT.nil ?_
    refine thenK_n ?_
    refine KC.seq ?_
    refine KC.seq ?_
    refine KC.region ?_
    refine KT.step rfl rfl (K.move rfl) ?_
    refine KT.step rfl rfl (K.gtr rfl rfl) ?_
    refine KT.step rfl rfl (K.move rfl) ?_
    refine KT.bcase (fun hb23 => ?_) (fun hb23 => ?_)
    · skip
      exact absurd hb23 (by decide)
    · skip
      replace hb23 := of_decide_eq_false hb23
      refine KT.step rfl rfl (K.move rfl) ?_
      refine KT.step rfl rfl (K.gtr rfl rfl) ?_
      refine KT.step rfl rfl (K.pick rfl (fun h => by cases h) (fun _ => rfl)) ?_
      refine KT.nil ?_
      refine thenK_n ?_
      refine KC.cond rfl (fun hc26 => ?_) (fun hc26 => ?_)
      · skip
        exact absurd hc26 (by decide)
      · skip
        replace hc26 := of_decide_eq_false hc26
        refine KC.skip ?_
        refine thenK_n ?_
        refine KC.seq ?_
        refine KC.region ?_
        refine KT.step rfl rfl (K.move rfl) ?_
        refine KT.step rfl rfl (K.conv rfl Tryz.underlying113 Tryz.underlying3 (show IntKind.i64.wrap (6 : Int) = 6 from by decide)) ?_
        refine KT.step rfl rfl (K.make (m := 6) (c := 6) rfl rfl (Nat.le_refl _) (by omega) Tryz.underlying36 Tryz.one3) ?_
        refine KT.step rfl rfl (K.assign rfl) ?_
        refine KT.nil ?_
        refine thenK_n ?_
        refine KC.seq ?_
        refine KC.region ?_
        refine KT.step rfl rfl (K.move rfl) ?_
        refine KT.step rfl rfl (K.move rfl) ?_
        refine KT.step rfl rfl (K.copyO (m := 1) rfl rfl rfl Tryz.underlying36 Tryz.size3 (List.getElem?_concat_length ..) rfl (get_left hid) (by simp) (by simp) (by decide) (by decide) (by simp) rfl (show _ = [.d (DI z), .d (.lit (.int .i64 0)), .d (.lit (.int .i64 0)), .d (.lit (.int .i64 0)), .d (.lit (.int .i64 0)), .d (.lit (.int .i64 0))] from rfl) set_last6) ?_
        refine KT.step rfl rfl (K.assign rfl) ?_
        refine KT.nil ?_
        refine thenK_n ?_
        refine KC.seq ?_
        refine KC.block ?_
        refine KC.loopN 4 ?_
        refine RK.succ ?_
        refine KC.seq ?_
        refine KC.seq ?_
        refine KC.region ?_
        refine KT.step rfl rfl (K.move rfl) ?_
        refine KT.step rfl rfl (K.move rfl) ?_
        refine KT.step rfl rfl (K.lenO rfl Tryz.underlying36) ?_
        refine KT.step rfl rfl (K.lss rfl rfl) ?_
        refine KT.nil ?_
        refine thenK_n ?_
        refine KC.cond rfl (fun hc37 => ?_) (fun hc37 => ?_)
        · skip
          replace hc37 := of_decide_eq_true hc37
          refine KC.skip ?_
          refine thenK_n ?_
          refine KC.block ?_
          refine KC.draw Tryz.mixed ?_
          refine KT.step rfl rfl (K.move rfl) ?_
          refine KT.step rfl rfl (K.move rfl) ?_
          refine KT.step rfl rfl (K.move rfl) ?_
          refine KT.step rfl rfl (K.sliceOF (m := 1) rfl rfl (by decide) (by decide) (by decide) Tryz.underlying36 Tryz.size3) ?_
          refine KT.step rfl rfl (K.move rfl) ?_
          refine KT.step rfl rfl (K.move rfl) ?_
          refine KT.step rfl rfl (K.sliceOT (m := 1) rfl rfl (by decide) Tryz.underlying36 Tryz.size3) ?_
          refine KT.step rfl rfl (K.copyO (m := 1) rfl rfl rfl Tryz.underlying36 Tryz.size3 (List.getElem?_concat_length ..) rfl (List.getElem?_concat_length ..) (by simp) (by simp) (by decide) (by decide) (by simp) rfl (show _ = [.d (DI z), .d (DI z), .d (.lit (.int .i64 0)), .d (.lit (.int .i64 0)), .d (.lit (.int .i64 0)), .d (.lit (.int .i64 0))] from rfl) set_last6) ?_
          refine KT.step rfl rfl (K.add rfl rfl (show IntKind.i64.wrap (((1 : Nat) : Int) + ((1 : Nat) : Int)) = ((2 : Nat) : Int) from by decide)) ?_
          refine KT.step rfl rfl (K.assign rfl) ?_
          refine KT.nil ?_
          refine ⟨by kernel_rfl, ?_⟩
          refine blockK_n ?_
          refine thenK_n ?_
          refine RK.succ ?_
          refine KC.seq ?_
          refine KC.seq ?_
          refine KC.region ?_
          refine KT.step rfl rfl (K.move rfl) ?_
          refine KT.step rfl rfl (K.move rfl) ?_
          refine KT.step rfl rfl (K.lenO rfl Tryz.underlying36) ?_
          refine KT.step rfl rfl (K.lss rfl rfl) ?_
          refine KT.nil ?_
          refine thenK_n ?_
          refine KC.cond rfl (fun hc37 => ?_) (fun hc37 => ?_)
          · skip
            replace hc37 := of_decide_eq_true hc37
            refine KC.skip ?_
            refine thenK_n ?_
            refine KC.block ?_
            refine KC.draw Tryz.mixed ?_
            refine KT.step rfl rfl (K.move rfl) ?_
            refine KT.step rfl rfl (K.move rfl) ?_
            refine KT.step rfl rfl (K.move rfl) ?_
            refine KT.step rfl rfl (K.sliceOF (m := 2) rfl rfl (by decide) (by decide) (by decide) Tryz.underlying36 Tryz.size3) ?_
            refine KT.step rfl rfl (K.move rfl) ?_
            refine KT.step rfl rfl (K.move rfl) ?_
            refine KT.step rfl rfl (K.sliceOT (m := 2) rfl rfl (by decide) Tryz.underlying36 Tryz.size3) ?_
            refine KT.step rfl rfl (K.copyO (m := 2) rfl rfl rfl Tryz.underlying36 Tryz.size3 (List.getElem?_concat_length ..) rfl (List.getElem?_concat_length ..) (by simp) (by simp) (by decide) (by decide) (by simp) rfl (show _ = [.d (DI z), .d (DI z), .d (DI z), .d (DI z), .d (.lit (.int .i64 0)), .d (.lit (.int .i64 0))] from rfl) set_last6) ?_
            refine KT.step rfl rfl (K.add rfl rfl (show IntKind.i64.wrap (((2 : Nat) : Int) + ((2 : Nat) : Int)) = ((4 : Nat) : Int) from by decide)) ?_
            refine KT.step rfl rfl (K.assign rfl) ?_
            refine KT.nil ?_
            refine ⟨by kernel_rfl, ?_⟩
            refine blockK_n ?_
            refine thenK_n ?_
            refine RK.succ ?_
            refine KC.seq ?_
            refine KC.seq ?_
            refine KC.region ?_
            refine KT.step rfl rfl (K.move rfl) ?_
            refine KT.step rfl rfl (K.move rfl) ?_
            refine KT.step rfl rfl (K.lenO rfl Tryz.underlying36) ?_
            refine KT.step rfl rfl (K.lss rfl rfl) ?_
            refine KT.nil ?_
            refine thenK_n ?_
            refine KC.cond rfl (fun hc37 => ?_) (fun hc37 => ?_)
            · skip
              replace hc37 := of_decide_eq_true hc37
              refine KC.skip ?_
              refine thenK_n ?_
              refine KC.block ?_
              refine KC.draw Tryz.mixed ?_
              refine KT.step rfl rfl (K.move rfl) ?_
              refine KT.step rfl rfl (K.move rfl) ?_
              refine KT.step rfl rfl (K.move rfl) ?_
              refine KT.step rfl rfl (K.sliceOF (m := 4) rfl rfl (by decide) (by decide) (by decide) Tryz.underlying36 Tryz.size3) ?_
              refine KT.step rfl rfl (K.move rfl) ?_
              refine KT.step rfl rfl (K.move rfl) ?_
              refine KT.step rfl rfl (K.sliceOT (m := 4) rfl rfl (by decide) Tryz.underlying36 Tryz.size3) ?_
              refine KT.step rfl rfl (K.copyO (m := 2) rfl rfl rfl Tryz.underlying36 Tryz.size3 (List.getElem?_concat_length ..) rfl (List.getElem?_concat_length ..) (by simp) (by simp) (by decide) (by decide) (by simp) rfl (show _ = [.d (DI z), .d (DI z), .d (DI z), .d (DI z), .d (DI z), .d (DI z)] from rfl) set_last6) ?_
              refine KT.step rfl rfl (K.add rfl rfl (show IntKind.i64.wrap (((4 : Nat) : Int) + ((2 : Nat) : Int)) = ((6 : Nat) : Int) from by decide)) ?_
              refine KT.step rfl rfl (K.assign rfl) ?_
              refine KT.nil ?_
              refine ⟨by kernel_rfl, ?_⟩
              refine blockK_n ?_
              refine thenK_n ?_
              refine RK.succ ?_
              refine KC.seq ?_
              refine KC.seq ?_
              refine KC.region ?_
              refine KT.step rfl rfl (K.move rfl) ?_
              refine KT.step rfl rfl (K.move rfl) ?_
              refine KT.step rfl rfl (K.lenO rfl Tryz.underlying36) ?_
              refine KT.step rfl rfl (K.lss rfl rfl) ?_
              refine KT.nil ?_
              refine thenK_n ?_
              refine KC.cond rfl (fun hc37 => ?_) (fun hc37 => ?_)
              · skip
                exact absurd hc37 (by decide)
              · skip
                replace hc37 := of_decide_eq_false hc37
                refine KC.exit ?_
                refine thenK_x ?_
                refine thenK_x ?_
                refine blockK_e ?_
                refine thenK_n ?_
                refine KC.seq ?_
                refine KC.region ?_
                refine KT.step rfl rfl (K.move rfl) ?_
                refine KT.step rfl rfl (K.assign rfl) ?_
                refine KT.nil ?_
                refine thenK_n ?_
                refine KC.ret ?_
                exact ⟨.inl rfl, rfl, rfl⟩
            · skip
              exact absurd hc37 (by decide)
          · skip
            exact absurd hc37 (by decide)
        · skip
          exact absurd hc37 (by decide)
set_option maxHeartbeats 2000000 in
set_option maxRecDepth 10000 in
theorem weights21 {a b c : DV} {os ar : List (Int × Int)} (ha : PrD a os) (hb : PrD b ar) (hA : ar.length ≤ 1000000) (_ : Times os) (hin : ArcsIn os.length ar) (h6 : os.length ≤ 6) : DeepCall Tryz.prog 21 [.agg [a, b, c]] (genD 6 6 (wI os ar)) := by
  refine deepCall_K 5 Tryz.func21 rfl (Nat.le_of_ble_eq_true rfl) fun M W0 => ?_
  refine KC.seq ?_
  refine KC.region ?_
  refine KT.step rfl rfl (K.box rfl) ?_
  refine KT.step rfl rfl (K.assign rfl) ?_
  refine KT.nil ?_
  refine thenK_n ?_
  refine KC.seq ?_
  refine KC.region ?_
  refine KT.step rfl rfl (K.make (m := 6) (c := 6) rfl rfl (Nat.le_refl _) (by omega) Tryz.underlying25 Tryz.one36) ?_
  refine KT.step rfl rfl (K.assign rfl) ?_
  refine KT.nil ?_
  refine thenK_n ?_
  refine KC.seq ?_
  refine KC.seq ?_
  refine KC.region ?_
  refine KT.step rfl rfl (K.move rfl) ?_
  refine KT.step rfl rfl (K.lenO rfl Tryz.underlying25) ?_
  refine KT.step rfl rfl (K.move rfl) ?_
  refine KT.nil ?_
  refine thenK_n ?_
  refine KC.block ?_
  refine KC.loop (fun p : List VObj × List Nat => p.1) (fun p => [(1, .optr 0 0), (3, .osl 1 0 6 1 6 true), (9, .d (DI (6 : Nat))), (10, .d (DI (p.2.length : Nat)))]) (fun p => p.2.length ≤ 6 ∧ p.1[0]? = some ⟨[.d a, .d b, .d c], 0⟩ ∧ p.1[1]? = some ⟨p.2.map (oslI 6) ++ List.replicate (6 - p.2.length) (.d Dnil), 0⟩ ∧ (∀ k id, p.2[k]? = some id → p.1[id]? = some (⟨rowS 6 (fun _ _ => Nv) k, 0⟩ : VObj)) ∧ (∀ id ∈ p.2, 2 ≤ id) ∧ (∀ k k' id : Nat, p.2[k]? = some id → p.2[k']? = some id → k = k')) (fun p => 6 - p.2.length) (_, []) ⟨Nat.zero_le _, rfl, rfl, fun k id h => by simp at h, fun id h => by simp at h, fun k k' id h => by simp at h⟩ rfl (by simp [Go.Vm.look, extK, enterK]) ?_
  intro p hp
  obtain ⟨σ0, ids⟩ := p
  obtain ⟨hi, y0, y1, rw0, lo, nd⟩ := hp
  simp only at hi y0 y1 rw0 lo nd ⊢
  refine KC.seq ?_
  refine KC.region ?_
  refine KT.step rfl rfl (K.lss rfl rfl) ?_
  refine KT.nil ?_
  refine thenK_n ?_
  refine KC.seq ?_
  refine KC.cond rfl (fun hc11 => ?_) (fun hc11 => ?_)
  · skip
    replace hc11 := of_decide_eq_true hc11
    have hil : ids.length < 6 := by omega
    refine KC.skip ?_
    refine thenK_n ?_
    refine KC.seq ?_
    refine KC.block ?_
    refine KC.seq ?_
    refine KC.region ?_
    refine KT.step rfl rfl (K.move rfl) ?_
    refine KT.step rfl rfl (K.assign rfl) ?_
    refine KT.nil ?_
    refine thenK_n ?_
    refine KC.region ?_
    refine KT.step rfl rfl (K.move rfl) ?_
    refine KT.step rfl rfl (K.move rfl) ?_
    refine KT.step rfl rfl (K.build1' (v := .d (DI Nv)) rfl rfl Tryz.underlying36 Tryz.one3) ?_
    refine KT.step rfl rfl (K.callO rfl plainTryz_41 (repeat41 (z := Nv) (List.getElem?_concat_length ..))) ?_
    refine KT.step rfl rfl (K.idxO (m := ids.length) rfl rfl (by omega) Tryz.underlying25 Tryz.size36) ?_
    refine KT.storeG rfl rfl rfl rfl (get_left (get_left y1)) (by simp; omega) rfl rfl Tryz.size36 fun σ3 l3 u3 v3 => ?_
    refine KT.nil ?_
    refine blockK_n ?_
    refine thenK_n ?_
    refine KC.region ?_
    refine KT.step rfl rfl (K.add rfl rfl (wrap_id (by omega))) ?_
    refine KT.step rfl rfl (K.move rfl) ?_
    refine KT.nil ?_
    refine thenK_n ?_
    have hl2 := lt_of_get y1
    have hlt : ∀ id ∈ ids, id < σ0.length := fun id hm => by
      obtain ⟨k, hk⟩ := List.mem_iff_getElem?.1 hm
      exact lt_of_get (rw0 k id hk)
    refine ⟨(σ3, ids ++ [σ0.length + 1]), ⟨by simp; omega, ?_, ?_, fun k id hk => ?_, fun id hm => ?_, nd_snoc nd fun hm => by have := hlt _ hm; omega⟩, by simp; omega, rfl, by simp [Go.Vm.look, extK]⟩
    · exact (v3 0 (by decide)).trans (get_left (get_left y0))
    · simp only
      rw [u3]
      congr 2
      have e6 : 6 - ids.length = (6 - (ids ++ [σ0.length + 1]).length) + 1 := by simp; omega
      rw [e6, List.replicate_succ, List.map_append, List.append_assoc]
      rw [List.set_append_right _ _ (by simp)]
      simp
    · simp only at hk ⊢
      by_cases hk2 : k < ids.length
      · rw [List.getElem?_append_left hk2] at hk
        have hm := List.mem_of_getElem? hk
        have := lo id hm
        rw [v3 id (by omega)]
        exact get_left (get_left (rw0 k id hk))
      · rw [List.getElem?_append_right (by omega)] at hk
        by_cases e : k - ids.length = 0
        · rw [e] at hk
          simp at hk
          subst hk
          rw [v3 _ (by omega), List.getElem?_append_right (by simp)]
          simp; rfl
        · rw [List.getElem?_eq_none (by simp; omega)] at hk; cases hk
    · rcases List.mem_append.1 hm with h | h
      · exact lo id h
      · simp at h; omega
  · skip
    replace hc11 := of_decide_eq_false hc11
    have h6l : ids.length = 6 := by omega
    have hW0 : W6 σ0 1 ids (fun _ _ => Nv) := ⟨by rw [y1, h6l]; simp, h6l, rw0, fun hm => by have := lo 1 hm; omega, nd⟩
    refine KC.exit ?_
    refine thenK_x ?_
    refine thenK_x ?_
    refine blockK_e ?_
    refine thenK_n ?_
    refine KC.seq ?_
    refine KC.seq ?_
    refine KC.region ?_
    refine KT.step rfl rfl (K.fieldAddrO rfl Tryz.fld47_1 Tryz.size45) ?_
    refine KT.step rfl rfl (K.loadO rfl y0 (by simp) rfl Tryz.agg45) ?_
    refine KT.step rfl rfl (K.lenF rfl hb Tryz.underlying45) ?_
    refine KT.step rfl rfl (K.move rfl) ?_
    refine KT.nil ?_
    refine thenK_n ?_
    refine KC.block ?_
    refine KC.loop (fun p : List VObj × Nat => p.1) (fun p => [(1, .optr 0 0), (3, .osl 1 0 6 1 6 true), (20, .d b), (21, .d (DI (ar.length : Nat))), (22, .d (DI (p.2 : Nat)))]) (fun p => p.2 ≤ ar.length ∧ p.1[0]? = some ⟨[.d a, .d b, .d c], 0⟩ ∧ W6 p.1 1 ids (wI os (ar.take p.2))) (fun p => ar.length - p.2) (σ0, 0) ⟨Nat.zero_le _, y0, hW0.same fun r _ j _ => wI_nil os r j⟩ rfl (by simp [Go.Vm.look, extK]) ?_
    clear y0 y1 rw0 hW0
    intro p hp
    obtain ⟨σ1, i⟩ := p
    obtain ⟨hi2, y0, hW⟩ := hp
    simp only at hi2 y0 hW ⊢
    refine KC.seq ?_
    refine KC.region ?_
    refine KT.step rfl rfl (K.lss rfl rfl) ?_
    refine KT.nil ?_
    refine thenK_n ?_
    refine KC.seq ?_
    refine KC.cond rfl (fun hc23 => ?_) (fun hc23 => ?_)
    · skip
      replace hc23 := of_decide_eq_true hc23
      have hil : i < ar.length := by omega
      obtain ⟨q1, q2, q3, q4⟩ := hin _ (List.getElem_mem hil)
      obtain ⟨rid, hrid, hcell, hrow⟩ := hW.id (r := ar[i].1.toNat) (by omega)
      refine KC.skip ?_
      refine thenK_n ?_
      refine KC.seq ?_
      refine KC.block ?_
      refine KC.seq ?_
      refine KC.region ?_
      refine KT.step rfl rfl (K.idxF c2_len (m := i) rfl hb rfl (by omega) Tryz.underlying45 Tryz.size78) ?_
      refine KT.step rfl rfl (K.loadFl (cs := c2 ar[i]) rfl rfl Tryz.agg78 Tryz.size78) ?_
      refine KT.step rfl rfl (K.alloc Tryz.zero78) ?_
      refine KT.storeL (cs := (c2 ar[i]).map .d) rfl rfl rfl rfl rfl rfl rfl Tryz.size78 ?_
      refine KT.nil ?_
      refine thenK_n ?_
      refine KC.draw Tryz.mixed ?_
      refine KT.step rfl rfl (K.move rfl) ?_
      refine KT.step rfl rfl (K.fieldAddrO rfl Tryz.fld78_0 Tryz.size3) ?_
      refine KT.step rfl rfl (K.loadO rfl (List.getElem?_concat_length ..) (by simp) rfl Tryz.agg3) ?_
      refine KT.step rfl rfl (K.idxO (m := ar[i].1.toNat) rfl (by exact congrArg (fun z => some (XV.d (DI z))) (show ar[i].1 = ((ar[i].1).toNat : Int) by omega)) (by omega) Tryz.underlying25 Tryz.size36) ?_
      refine KT.step rfl rfl (K.loadO rfl (get_left hW.out) (by simp) hcell Tryz.agg36) ?_
      refine KT.step rfl rfl (K.fieldAddrO rfl Tryz.fld78_1 Tryz.size3) ?_
      refine KT.step rfl rfl (K.loadO rfl (List.getElem?_concat_length ..) (by simp) rfl Tryz.agg3) ?_
      refine KT.step rfl rfl (K.fieldAddrO rfl Tryz.fld47_0 Tryz.size44) ?_
      refine KT.step rfl rfl (K.loadO rfl (get_left y0) (by simp) rfl Tryz.agg44) ?_
      refine KT.step rfl rfl (K.fieldAddrO rfl Tryz.fld78_0 Tryz.size3) ?_
      refine KT.step rfl rfl (K.loadO rfl (List.getElem?_concat_length ..) (by simp) rfl Tryz.agg3) ?_
      refine KT.step rfl rfl (K.idxF c2_len (m := ar[i].1.toNat) rfl ha (by exact congrArg (fun z => some (XV.d (DI z))) (show ar[i].1 = ((ar[i].1).toNat : Int) by omega)) (by omega) Tryz.underlying44 Tryz.size60) ?_
      refine KT.step rfl rfl (K.fieldAddrD rfl Tryz.fld60_1 Tryz.size3) ?_
      refine KT.step rfl rfl (K.load rfl Tryz.agg3) ?_
      have et : os[ar[i].1.toNat].2 = tm os ar[i].1 := (tm_get (by omega) (by omega)).symm
      rw [et]
      refine KT.step rfl rfl (K.idxO (m := ar[i].2.toNat) rfl (by exact congrArg (fun z => some (XV.d (DI z))) (show ar[i].2 = ((ar[i].2).toNat : Int) by omega)) (by omega) Tryz.underlying36 Tryz.size3) ?_
      refine KT.storeG rfl rfl rfl rfl (get_left hrow) (by simp [rowS]; omega) rfl rfl Tryz.size3 fun σ3 l3 u3 v3 => ?_
      refine KT.nil ?_
      refine ⟨by kernel_rfl, ?_⟩
      refine blockK_n ?_
      refine thenK_n ?_
      refine KC.region ?_
      refine KT.step rfl rfl (K.add rfl rfl (wrap_id (by omega))) ?_
      refine KT.step rfl rfl (K.move rfl) ?_
      refine KT.nil ?_
      refine thenK_n ?_
      refine ⟨(σ3, i + 1), ⟨by simp only; omega, ?_, ?_⟩, by simp only; omega, rfl, by simp [Go.Vm.look, extK]⟩
      · have := lo rid (List.mem_of_getElem? hrid)
        exact (v3 0 (by omega)).trans (get_left y0)
      · simp only
        rw [List.take_succ_eq_append_getElem hil]
        exact (hW.push [⟨(c2 ar[i]).map .d, 0⟩]).put hrid u3 v3 fun r' _ j' _ => wI_snoc (by omega) (by omega) r' j'
    · skip
      replace hc23 := of_decide_eq_false hc23
      refine KC.exit ?_
      refine thenK_x ?_
      refine thenK_x ?_
      refine blockK_e ?_
      refine thenK_n ?_
      refine KC.seq ?_
      refine KC.region ?_
      refine KT.step rfl rfl (K.move rfl) ?_
      refine KT.step rfl rfl (K.assign rfl) ?_
      refine KT.nil ?_
      refine thenK_n ?_
      refine KC.ret ?_
      have et : ar.take i = ar := List.take_of_length_le (by omega)
      rw [et] at hW
      exact ⟨.inl rfl, _, rfl, hW.fin true⟩
end Go.Proofs.YtdgahcbalabjdaaGreat

