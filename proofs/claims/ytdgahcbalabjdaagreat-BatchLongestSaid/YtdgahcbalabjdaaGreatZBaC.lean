import Derived.Test.YtdgahcbalabjdaaGreatZBaB
import Derived.Test.YtdgahcbalabjdaaGreatCyN
/-
  Batch: arcs that are added, pairs.
-/
namespace Go.Proofs.YtdgahcbalabjdaaGreat
open Go.Vm Go.Ht Go.Ba
theorem plainTryz_63 : plainFn Tryz.prog 63 = true := by kernel_rfl
theorem plainTryz_35 : plainFn Tryz.prog 35 = true := by kernel_rfl
theorem plainTryz_47 : plainFn Tryz.prog 47 = true := by kernel_rfl
set_option maxRecDepth 10000 in
theorem clip94_nil : DeepCall Tryz.prog 63 [Dnil] Dnil := by
  refine deepCall_K 5 Tryz.func63 rfl (Nat.le_of_ble_eq_true rfl) fun M W0 => ?_
  refine KC.seq ?_
  refine KC.region ?_
  refine KT.step rfl rfl (K.assign rfl) ?_
  refine KT.nil ?_
  refine thenK_n ?_
  refine KC.seq ?_
  refine KC.region ?_
  refine KT.step rfl rfl (K.move rfl) ?_
  refine KT.step rfl rfl (K.move rfl) ?_
  refine KT.step rfl rfl (K.len (R := fun _ (_ : Nat) => True) (l := []) rfl .nil Tryz.underlying45) ?_
  refine KT.step rfl rfl (K.move rfl) ?_
  refine KT.step rfl rfl (K.len (R := fun _ (_ : Nat) => True) (l := []) rfl .nil Tryz.underlying45) ?_
  refine KT.step rfl rfl (K.lit (v := .slice none 0 0) (ρ := fun x => match x with | .tmp 3 => .slice none 0 0 | _ => .int .i64 0) (fun x hx => by simp [Op.operands] at hx; rcases hx with rfl | rfl | rfl <;> rfl) rfl (by kernel_rfl)) ?_
  refine KT.step rfl rfl (K.assign rfl) ?_
  refine KT.nil ?_
  refine thenK_n ?_
  refine KC.ret ?_
  exact ⟨.inl rfl, _, rfl, fin_d rfl⟩
set_option maxRecDepth 10000 in
theorem clip94_sl {ks : List (Int × Int)} {cap : Option Nat} : DeepCall Tryz.prog 63 [.sl (ks.flatMap c2) ks.length cap] (.sl (ks.flatMap c2) ks.length (some ks.length)) := by
  refine deepCall_K 5 Tryz.func63 rfl (Nat.le_of_ble_eq_true rfl) fun M W0 => ?_
  refine KC.seq ?_
  refine KC.region ?_
  refine KT.step rfl rfl (K.assign rfl) ?_
  refine KT.nil ?_
  refine thenK_n ?_
  refine KC.seq ?_
  refine KC.region ?_
  refine KT.step rfl rfl (K.move rfl) ?_
  refine KT.step rfl rfl (K.move rfl) ?_
  refine KT.step rfl rfl (K.lenF rfl (FlD.sl (k := 2) (cap := cap)) Tryz.underlying45) ?_
  refine KT.step rfl rfl (K.move rfl) ?_
  refine KT.step rfl rfl (K.lenF rfl (FlD.sl (k := 2) (cap := cap)) Tryz.underlying45) ?_
  refine KT.step rfl rfl (K.slice3P rfl rfl rfl Tryz.underlying45 Tryz.size78) ?_
  refine KT.step rfl rfl (K.assign rfl) ?_
  refine KT.nil ?_
  refine thenK_n ?_
  refine KC.ret ?_
  exact ⟨.inl rfl, _, rfl, fin_d rfl⟩
theorem clip94 {d : DV} {ks : List (Int × Int)} (h : PrD d ks) : ∃ d2, DeepCall Tryz.prog 63 [d] d2 ∧ ClipD d2 ks := by
  cases h with
  | nil => exact ⟨_, clip94_nil, .nil⟩
  | sl => exact ⟨_, clip94_sl, .sl⟩
set_option maxRecDepth 10000 in
theorem with71 {a b c : DV} {ar : List (Int × Int)} (ha : SlD a) (hb : PrD b ar) (hc : SlD c) (hA : ar.length ≤ 1000000) (x : Int × Int) : DeepCall Tryz.prog 35 [.agg [a, b, c], .agg (c2 x)] (.agg [a, .sl ((ar ++ [x]).flatMap c2) (ar.length + 1) none, c]) := by
  obtain ⟨d2, hcl, hc2⟩ := clip94 hb
  refine deepCall_K 5 Tryz.func35 rfl (Nat.le_of_ble_eq_true rfl) fun M W0 => ?_
  refine KC.seq ?_
  refine KC.region ?_
  refine KT.step rfl rfl (K.box rfl) ?_
  refine KT.step rfl rfl (K.box rfl) ?_
  refine KT.step rfl rfl (K.alloc Tryz.zero47) ?_
  refine KT.nil ?_
  refine thenK_n ?_
  refine KC.seq ?_
  refine KC.draw Tryz.mixed ?_
  refine KT.step rfl rfl (K.fieldAddrO rfl Tryz.fld47_1 Tryz.size45) ?_
  refine KT.step rfl rfl (K.loadO rfl rfl (by simp) rfl Tryz.agg45) ?_
  refine KT.step rfl rfl (K.call1 rfl plainTryz_63 (hcl)) ?_
  refine KT.step rfl rfl (K.loadOA (c2 x) rfl rfl (by decide) Tryz.agg78 Tryz.size78 rfl) ?_
  refine KT.step rfl rfl (K.buildK (k := 2) (ds := c2 x) rfl rfl Tryz.underlying45 Tryz.size78 Tryz.zero78 (by decide)) ?_
  refine KT.step rfl rfl (K.appClip (p := x) rfl hc2 rfl rfl (by omega) Tryz.underlying45 Tryz.size78 (of_decide_eq_true (by kernel_rfl)) (by kernel_rfl)) ?_
  refine KT.step rfl rfl (K.fieldAddrO rfl Tryz.fld47_1 Tryz.size45) ?_
  refine KT.step rfl rfl (K.storeO (cells := [.d a, .d b, .d c]) rfl rfl rfl (by simp) rfl rfl Tryz.size45) ?_
  refine KT.nil ?_
  refine ⟨by kernel_rfl, ?_⟩
  refine thenK_n ?_
  refine KC.seq ?_
  refine KC.region ?_
  refine KT.step rfl rfl (K.loadOAgg (m := 3) (ob := ⟨[.d a, .osl 4 0 (ar.length + 1) 2 (ar.length + 1) false, .d c], 0⟩) rfl rfl (by simp) Tryz.agg47 Tryz.size47 (by simp)) ?_
  refine KT.putAll (cs := [.d a, .osl 4 0 (ar.length + 1) 2 (ar.length + 1) false, .d c]) rfl rfl rfl rfl rfl rfl rfl (one3 ha hc rfl) Tryz.size47 ?_
  refine KT.nil ?_
  refine thenK_n ?_
  refine KC.ret ?_
  exact ⟨.inl rfl, _, resK_agg (m := 3) rfl rfl rfl (by simp) Tryz.agg47 Tryz.size47 (by simp), deepen_gr (k := 2) (id := 4) rfl (by simp)⟩
set_option maxHeartbeats 1000000 in
set_option maxRecDepth 10000 in
theorem rivals50 {a b c : DV} {ms : List (List Int)} (hc : Mat c ms) (h4 : ms.length ≤ 4) (h9 : ∀ l ∈ ms, l.length ≤ 9) : DeepCall Tryz.prog 47 [.agg [a, b, c]] (flV c2 (rivO ms)) := by
  refine deepCall_K 5 Tryz.func47 rfl (Nat.le_of_ble_eq_true rfl) fun M W0 => ?_
  refine KC.seq ?_
  refine KC.region ?_
  refine KT.step rfl rfl (K.box rfl) ?_
  refine KT.step rfl rfl (K.assign rfl) ?_
  refine KT.nil ?_
  refine thenK_n ?_
  refine KC.seq ?_
  refine KC.region ?_
  refine KT.step rfl rfl (K.assign rfl) ?_
  refine KT.nil ?_
  refine thenK_n ?_
  refine KC.seq ?_
  refine KC.seq ?_
  refine KC.region ?_
  refine KT.step rfl rfl (K.fieldAddrO rfl Tryz.fld47_2 Tryz.size25) ?_
  refine KT.step rfl rfl (K.loadO rfl rfl (by simp) rfl Tryz.agg25) ?_
  refine KT.step rfl rfl (K.len rfl hc Tryz.underlying25) ?_
  refine KT.step rfl rfl (K.move rfl) ?_
  refine KT.nil ?_
  refine thenK_n ?_
  refine KC.block ?_
  refine KC.loop (fun p : List VObj × XV × Nat => p.1) (fun p => [(1, .optr 0 0), (11, .d c), (12, .d (DI (ms.length : Nat))), (13, .d (DI (p.2.2 : Nat))), (3, p.2.1)]) (fun p => p.2.2 ≤ ms.length ∧ (p.1[0]? = some ⟨[.d a, .d b, .d c], 0⟩ ∧ OwnK 2 p.1 p.2.1 ((rivO (ms.take p.2.2)).flatMap c2 |>.map .d) ∧ (∀ j, idX p.2.1 = some j → 1 ≤ j) ∧ (rivO (ms.take p.2.2) = [] → p.2.1 = .d Dnil))) (fun p => ms.length - p.2.2) (_, .d Dnil, 0) ⟨Nat.zero_le _, rfl, .nil, fun j hj => (by cases hj), fun _ => rfl⟩ rfl (by simp [Go.Vm.look, extK, enterK]) ?_
  intro p hp
  obtain ⟨σ0, x0, i⟩ := p
  obtain ⟨hi, y0, o0, d0, n0⟩ := hp
  simp only at hi y0 o0 d0 n0 ⊢
  refine KC.seq ?_
  refine KC.region ?_
  refine KT.step rfl rfl (K.lss rfl rfl) ?_
  refine KT.nil ?_
  refine thenK_n ?_
  refine KC.seq ?_
  refine KC.cond rfl (fun hc14 => ?_) (fun hc14 => ?_)
  · skip
    replace hc14 := of_decide_eq_true hc14
    have hil : i < ms.length := by omega
    have hm9 := h9 _ (List.getElem_mem hil)
    refine KC.skip ?_
    refine thenK_n ?_
    refine KC.seq ?_
    refine KC.block ?_
    refine KC.seq ?_
    refine KC.region ?_
    refine KT.idx rfl rfl rfl hc rfl (by omega) Tryz.underlying25 Tryz.size36 fun c15 cs15 hr => ?_
    refine KT.step rfl rfl (K.load rfl Tryz.agg36) ?_
    refine KT.step rfl rfl (K.assign rfl) ?_
    refine KT.nil ?_
    refine thenK_n ?_
    refine KC.seq ?_
    refine KC.region ?_
    refine KT.step rfl rfl (K.move rfl) ?_
    refine KT.step rfl rfl (K.len rfl hr Tryz.underlying36) ?_
    refine KT.step rfl rfl (K.move rfl) ?_
    refine KT.nil ?_
    refine thenK_n ?_
    refine KC.block ?_
    refine KC.loop (fun p : List VObj × XV × Nat => p.1) (fun p => [(1, .optr 0 0), (11, .d c), (12, .d (DI (ms.length : Nat))), (13, .d (DI (i : Nat))), (5, .d c15), (17, .d c15), (18, .d (DI (ms[i].length : Nat))), (19, .d (DI (p.2.2 : Nat))), (3, p.2.1)]) (fun p => p.2.2 ≤ ms[i].length ∧ (p.1[0]? = some ⟨[.d a, .d b, .d c], 0⟩ ∧ OwnK 2 p.1 p.2.1 (((rivO (ms.take i) ++ prsT ms[i] p.2.2)).flatMap c2 |>.map .d) ∧ (∀ j, idX p.2.1 = some j → 1 ≤ j) ∧ ((rivO (ms.take i) ++ prsT ms[i] p.2.2) = [] → p.2.1 = .d Dnil))) (fun p => ms[i].length - p.2.2) (_, x0, 0) ⟨Nat.zero_le _, y0, by simpa [prsT] using o0, d0, by simpa [prsT] using n0⟩ rfl (by simp [Go.Vm.look, extK]) ?_
    intro p hp
    obtain ⟨σ1, x1, j⟩ := p
    obtain ⟨hj, y1, o1, d1, n1⟩ := hp
    simp only at hj y1 o1 d1 n1 ⊢
    refine KC.seq ?_
    refine KC.region ?_
    refine KT.step rfl rfl (K.lss rfl rfl) ?_
    refine KT.nil ?_
    refine thenK_n ?_
    refine KC.seq ?_
    refine KC.cond rfl (fun hc20 => ?_) (fun hc20 => ?_)
    · skip
      replace hc20 := of_decide_eq_true hc20
      have hjl : j < ms[i].length := by omega
      refine KC.skip ?_
      refine thenK_n ?_
      refine KC.seq ?_
      refine KC.block ?_
      refine KC.seq ?_
      refine KC.region ?_
      refine KT.step rfl rfl (K.move rfl) ?_
      refine KT.idxI rfl rfl rfl hr rfl (by omega) Tryz.underlying36 Tryz.size3 fun cs22 => ?_
      refine KT.step rfl rfl (K.load rfl Tryz.agg3) ?_
      refine KT.step rfl rfl (K.assign rfl) ?_
      refine KT.step rfl rfl (K.assign rfl) ?_
      refine KT.nil ?_
      refine thenK_n ?_
      refine KC.seq ?_
      refine KC.region ?_
      refine KT.step rfl rfl (K.move rfl) ?_
      refine KT.step rfl rfl (K.move rfl) ?_
      refine KT.sliceTo (m := j) rfl rfl rfl hr rfl (by omega) Tryz.underlying36 Tryz.size3 fun r26 hr26 => ?_
      refine KT.step rfl rfl (K.len rfl hr26 Tryz.underlying36) ?_
      refine KT.step rfl rfl (K.move rfl) ?_
      refine KT.nil ?_
      refine thenK_n ?_
      refine KC.block ?_
      refine KC.loop (fun p : List VObj × XV × Nat => p.1) (fun p => [(1, .optr 0 0), (11, .d c), (12, .d (DI (ms.length : Nat))), (13, .d (DI (i : Nat))), (5, .d c15), (17, .d c15), (18, .d (DI (ms[i].length : Nat))), (19, .d (DI (j : Nat))), (7, .d (DI ms[i][j])), (26, .d r26), (27, .d (DI ((ms[i].take j).length : Nat))), (28, .d (DI (p.2.2 : Nat))), (3, p.2.1)]) (fun p => p.2.2 ≤ (ms[i].take j).length ∧ (p.1[0]? = some ⟨[.d a, .d b, .d c], 0⟩ ∧ OwnK 2 p.1 p.2.1 (((rivO (ms.take i) ++ prsT ms[i] j ++ ((ms[i].take j).take p.2.2).map fun x => (x, ms[i][j]))).flatMap c2 |>.map .d) ∧ (∀ j, idX p.2.1 = some j → 1 ≤ j) ∧ ((rivO (ms.take i) ++ prsT ms[i] j ++ ((ms[i].take j).take p.2.2).map fun x => (x, ms[i][j])) = [] → p.2.1 = .d Dnil))) (fun p => (ms[i].take j).length - p.2.2) (_, x1, 0) ⟨Nat.zero_le _, y1, by simpa using o1, d1, by simpa using n1⟩ rfl (by simp [Go.Vm.look, extK]) ?_
      intro p hp
      obtain ⟨σ2, x2, k⟩ := p
      obtain ⟨hk, y2, o2, d2, n2⟩ := hp
      simp only at hk y2 o2 d2 n2 ⊢
      refine KC.seq ?_
      refine KC.region ?_
      refine KT.step rfl rfl (K.lss rfl rfl) ?_
      refine KT.nil ?_
      refine thenK_n ?_
      refine KC.seq ?_
      refine KC.cond rfl (fun hc29 => ?_) (fun hc29 => ?_)
      · skip
        replace hc29 := of_decide_eq_true hc29
        have hkl : k < (ms[i].take j).length := by omega
        have hjt : (ms[i].take j).length = j := by rw [List.length_take]; omega
        have b1 := riv_len (ms := ms.take i) (fun l hl => h9 l (List.mem_of_mem_take hl))
        have b2 := prsT_len ms[i] j
        have b3 : j * ms[i].length ≤ 9 * 9 := Nat.mul_le_mul (by omega) (by omega)
        have b4 : (ms.take i).length ≤ 4 := by rw [List.length_take]; omega
        have b5 : (rivO (ms.take i) ++ prsT ms[i] j ++ ((ms[i].take j).take k).map fun x => (x, ms[i][j])).length ≤ 1000 := by
          rw [List.length_append, List.length_append, List.length_map, List.length_take]; omega
        refine KC.skip ?_
        refine thenK_n ?_
        refine KC.seq ?_
        refine KC.block ?_
        refine KC.seq ?_
        refine KC.region ?_
        refine KT.idxI (m := k) rfl rfl rfl hr26 rfl (by omega) Tryz.underlying36 Tryz.size3 fun cs30 => ?_
        refine KT.step rfl rfl (K.load rfl Tryz.agg3) ?_
        refine KT.step rfl rfl (K.assign rfl) ?_
        refine KT.nil ?_
        refine thenK_n ?_
        refine KC.region ?_
        refine KT.step rfl rfl (K.move rfl) ?_
        refine KT.step rfl rfl (K.move rfl) ?_
        refine KT.step rfl rfl (K.move rfl) ?_
        refine KT.step rfl rfl (K.buildS rfl (build121_2 _ _)) ?_
        refine KT.step rfl rfl (K.buildK (k := 2) (ds := [DI ((ms[i].take j)[k]'(by omega)), DI ms[i][j]]) rfl rfl Tryz.underlying45 Tryz.size78 Tryz.zero78 (by decide)) ?_
        refine KT.appK (k := 2) rfl rfl rfl rfl (o2.pushed _) (List.getElem?_concat_length ..) rfl rfl (by rw [List.length_map, flat_len c2_len]; omega) Tryz.underlying45 Tryz.size78 (of_decide_eq_true (by kernel_rfl)) (by kernel_rfl) (by decide) fun σ4 x4 ho4 k4 w4 => ?_
        obtain ⟨j4, w5, w6⟩ := w4
        simp only [List.length_append, List.length_cons, List.length_nil] at w6
        refine KT.step rfl rfl (K.assign rfl) ?_
        refine KT.nil ?_
        refine blockK_n ?_
        refine thenK_n ?_
        refine KC.region ?_
        refine KT.step rfl rfl (K.add rfl rfl (wrap_id (by omega))) ?_
        refine KT.step rfl rfl (K.move rfl) ?_
        refine KT.nil ?_
        refine thenK_n ?_
        have e1 : ((ms[i].take j).take (k + 1)).map (fun x => (x, ms[i][j])) = ((ms[i].take j).take k).map (fun x => (x, ms[i][j])) ++ [((ms[i].take j)[k], ms[i][j])] := by
          rw [List.take_succ_eq_append_getElem hkl, List.map_append]; rfl
        refine ⟨(σ4, x4, k + 1), ⟨by simp only; omega, ?_, ?_, fun j hj => ?_, fun h => ?_⟩, by simp only; omega, rfl, by simp [Go.Vm.look, extK]⟩
        · exact (k4 0 (fun h => by have := d2 0 h; omega) (by simp)).trans (get_left y2)
        · simp only [e1]
          rw [← List.append_assoc, List.flatMap_append, List.map_append]
          exact ho4
        · simp only at hj; rw [w5] at hj; cases hj; have := lt_of_get y2; omega
        · simp only [e1] at h; simp at h
      · skip
        replace hc29 := of_decide_eq_false hc29
        refine KC.exit ?_
        refine thenK_x ?_
        refine thenK_x ?_
        refine blockK_e ?_
        refine blockK_n ?_
        refine thenK_n ?_
        refine KC.region ?_
        refine KT.step rfl rfl (K.add rfl rfl (wrap_id (by omega))) ?_
        refine KT.step rfl rfl (K.move rfl) ?_
        refine KT.nil ?_
        refine thenK_n ?_
        have ek : ((ms[i].take j).take k).map (fun x => (x, ms[i][j])) = (ms[i].take j).map (fun x => (x, ms[i].getD j 0)) := by
          rw [List.take_of_length_le (by omega)]; simp [hjl]
        rw [ek, List.append_assoc, ← prsT_succ] at o2 n2
        exact ⟨(σ2, x2, j + 1), ⟨by simp only; omega, y2, o2, d2, n2⟩, by simp only; omega, rfl, by simp [Go.Vm.look, extK]⟩
    · skip
      replace hc20 := of_decide_eq_false hc20
      refine KC.exit ?_
      refine thenK_x ?_
      refine thenK_x ?_
      refine blockK_e ?_
      refine blockK_n ?_
      refine thenK_n ?_
      refine KC.region ?_
      refine KT.step rfl rfl (K.add rfl rfl (wrap_id (by omega))) ?_
      refine KT.step rfl rfl (K.move rfl) ?_
      refine KT.nil ?_
      refine thenK_n ?_
      have ej : prsT ms[i] j = prsA ms[i] := by unfold prsA; congr 1; omega
      rw [ej, ← riv_take hil] at o1 n1
      exact ⟨(σ1, x1, i + 1), ⟨by simp only; omega, y1, o1, d1, n1⟩, by simp only; omega, rfl, by simp [Go.Vm.look, extK]⟩
  · skip
    replace hc14 := of_decide_eq_false hc14
    refine KC.exit ?_
    refine thenK_x ?_
    refine thenK_x ?_
    refine blockK_e ?_
    refine thenK_n ?_
    refine KC.seq ?_
    refine KC.region ?_
    refine KT.step rfl rfl (K.move rfl) ?_
    refine KT.step rfl rfl (K.assign rfl) ?_
    refine KT.nil ?_
    refine thenK_n ?_
    refine KC.ret ?_
    have et : ms.take i = ms := List.take_of_length_le (by omega)
    rw [et] at o0 n0
    exact ⟨.inl rfl, _, rfl, own_fl c2_len (by decide) o0 n0⟩
end Go.Proofs.YtdgahcbalabjdaaGreat

