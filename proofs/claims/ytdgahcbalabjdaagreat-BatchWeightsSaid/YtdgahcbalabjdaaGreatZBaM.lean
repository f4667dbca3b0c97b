import Derived.Test.YtdgahcbalabjdaaGreatZBaJ
/-
  Batch: the reference: operations, arcs of an order.
-/
namespace Go.Proofs.YtdgahcbalabjdaaGreat
open Go.Vm Go.Ht Go.Ba
theorem plainTryz_24 : plainFn Tryz.prog 24 = true := by kernel_rfl
/-- Arcs between neighbours. -/
def consT (l : List Int) (k : Nat) : List (Int × Int) := (List.range (k - 1)).map fun t => (l.getD t 0, l.getD (t + 1) 0)
def ordA (l : List (List Int)) : List (Int × Int) := l.flatMap fun r => consT r r.length
theorem consT_succ (l : List Int) (k : Nat) (h : 1 ≤ k) : consT l (k + 1) = consT l k ++ [(l.getD (k - 1) 0, l.getD k 0)] := by
  obtain ⟨k, rfl⟩ : ∃ j, k = j + 1 := ⟨k - 1, by omega⟩
  unfold consT
  rw [show k + 1 + 1 - 1 = k + 1 by omega, show k + 1 - 1 = k by omega, List.range_succ, List.map_append]; rfl
theorem ordA_take {l : List (List Int)} {i : Nat} (hi : i < l.length) : ordA (l.take (i + 1)) = ordA (l.take i) ++ consT l[i] l[i].length := by
  unfold ordA; rw [List.take_succ_eq_append_getElem hi, List.flatMap_append]; simp
theorem ordA_len : ∀ {l : List (List Int)}, (∀ r ∈ l, r.length ≤ 1000) → (ordA l).length ≤ l.length * 1000
  | [], _ => by simp [ordA]
  | r :: l, h => by
    have h1 := ordA_len (l := l) fun x hx => h x (by simp [hx])
    have h2 := h r (by simp)
    have h3 : (consT r r.length).length = r.length - 1 := by simp [consT]
    unfold ordA at h1 ⊢
    rw [List.flatMap_cons, List.length_append, h3, List.length_cons, Nat.add_mul]; omega
theorem flatten_le {J : List (List (Int × Int))} (h4 : ∀ j ∈ J, 1 ≤ j.length ∧ j.length ≤ 4) : J.flatten.length ≤ 4 * J.length := by
  have h := flat_le (J := J) (fun j hj => (h4 j hj).2) (k := J.length)
  rwa [List.take_length] at h
set_option maxRecDepth 10000 in
theorem rops44 {N : Int} {jd : DV} {J : List (List (Int × Int))} (hd : JbD jd J) (h3 : J.length ≤ 3) (h4 : ∀ j ∈ J, 1 ≤ j.length ∧ j.length ≤ 4) : DeepCall Tryz.prog 23 [.agg [DI N, jd]] (flV c2 J.flatten) := by
  refine deepCall_K 5 Tryz.func23 rfl (Nat.le_of_ble_eq_true rfl) fun M W0 => ?_
  refine KC.seq ?_
  refine KC.region ?_
  refine KT.step rfl rfl (K.box rfl) ?_
  refine KT.step rfl rfl (K.assign rfl) ?_
  refine KT.nil ?_
  refine thenK_n ?_
  refine KC.seq ?_
  refine KC.region ?_
  refine KT.step rfl rfl (K.assign rfl) ?_
  refine KT.nil ?_
  refine thenK_n ?_
  refine KC.seq ?_
  refine KC.seq ?_
  refine KC.region ?_
  refine KT.step rfl rfl (K.fieldAddrO rfl Tryz.fld24_1 Tryz.size22) ?_
  refine KT.step rfl rfl (K.loadO rfl rfl (by simp) rfl Tryz.agg22) ?_
  refine KT.step rfl rfl (K.len rfl hd Tryz.underlying22) ?_
  refine KT.step rfl rfl (K.move rfl) ?_
  refine KT.nil ?_
  refine thenK_n ?_
  refine KC.block ?_
  refine KC.loop (fun p : List VObj × XV × Nat => p.1) (fun p => [(7, .d jd), (8, .d (DI (J.length : Nat))), (9, .d (DI (p.2.2 : Nat))), (3, p.2.1)]) (fun p => p.2.2 ≤ J.length ∧ (p.1[0]? = some ⟨[.d (DI N), .d jd], 0⟩ ∧ OwnK 2 p.1 p.2.1 (((J.take p.2.2).flatten).flatMap c2 |>.map .d) ∧ (∀ j, idX p.2.1 = some j → 1 ≤ j) ∧ ((J.take p.2.2).flatten = [] → p.2.1 = .d Dnil))) (fun p => J.length - p.2.2) (_, .d Dnil, 0) ⟨Nat.zero_le _, rfl, .nil, fun j hj => (by cases hj), fun _ => rfl⟩ rfl (by simp [Go.Vm.look, extK, enterK]) ?_
  intro p hp
  obtain ⟨σ0, x0, i⟩ := p
  obtain ⟨hi, y0, o0, d0, n0⟩ := hp
  simp only at hi y0 o0 d0 n0 ⊢
  refine KC.seq ?_
  refine KC.region ?_
  refine KT.step rfl rfl (K.lss rfl rfl) ?_
  refine KT.nil ?_
  refine thenK_n ?_
  refine KC.seq ?_
  refine KC.cond rfl (fun hc10 => ?_) (fun hc10 => ?_)
  · skip
    replace hc10 := of_decide_eq_true hc10
    have hil : i < J.length := by omega
    refine KC.skip ?_
    refine thenK_n ?_
    refine KC.seq ?_
    refine KC.block ?_
    refine KC.seq ?_
    refine KC.region ?_
    refine KT.idx rfl rfl rfl hd rfl (by omega) Tryz.underlying22 Tryz.size57 fun c11 cs11 hj => ?_
    refine KT.step rfl rfl (K.load rfl Tryz.agg57) ?_
    refine KT.step rfl rfl (K.assign rfl) ?_
    refine KT.nil ?_
    refine thenK_n ?_
    refine KC.region ?_
    refine KT.step rfl rfl (K.move rfl) ?_
    refine KT.step rfl rfl (K.move rfl) ?_
    have hj14 := h4 _ (List.getElem_mem hil)
    have hfl := flat_le (J := J) (fun j hj => (h4 j hj).2) (k := i)
    refine KT.appFl rfl rfl rfl rfl hj o0 (by omega) (by omega) (by rw [cells_len]; omega) Tryz.underlying57 Tryz.size59 (of_decide_eq_true (by kernel_rfl)) (by kernel_rfl) fun σ4 x4 ho4 k4 w4 => ?_
    obtain ⟨j4, w5, w6⟩ := w4
    refine KT.step rfl rfl (K.assign rfl) ?_
    refine KT.nil ?_
    refine blockK_n ?_
    refine thenK_n ?_
    refine KC.region ?_
    refine KT.step rfl rfl (K.add rfl rfl (wrap_id (by omega))) ?_
    refine KT.step rfl rfl (K.move rfl) ?_
    refine KT.nil ?_
    refine thenK_n ?_
    have et : (J.take (i + 1)).flatten = (J.take i).flatten ++ J[i] := by rw [List.take_succ_eq_append_getElem hil, List.flatten_append]; simp
    refine ⟨(σ4, x4, i + 1), ⟨by simp only; omega, ?_, ?_, fun j hj => ?_, fun h => ?_⟩, by simp only; omega, rfl, by simp [Go.Vm.look, extK]⟩
    · exact (k4 0 (fun h => by have := d0 0 h; omega) (lt_of_get y0)).trans y0
    · simp only [et]
      rw [List.flatMap_append, List.map_append]
      exact ho4
    · simp only at hj; rw [w5] at hj; cases hj; have := lt_of_get y0; omega
    · simp only [et] at h
      have := congrArg List.length h
      rw [List.length_append] at this; simp only [List.length_nil] at this; omega
  · skip
    replace hc10 := of_decide_eq_false hc10
    refine KC.exit ?_
    refine thenK_x ?_
    refine thenK_x ?_
    refine blockK_e ?_
    refine thenK_n ?_
    refine KC.seq ?_
    refine KC.region ?_
    refine KT.step rfl rfl (K.move rfl) ?_
    refine KT.step rfl rfl (K.assign rfl) ?_
    refine KT.nil ?_
    refine thenK_n ?_
    refine KC.ret ?_
    have et : J.take i = J := List.take_of_length_le (by omega)
    rw [et] at o0 n0
    exact ⟨.inl rfl, _, rfl, own_fl c2_len (by decide) o0 n0⟩
set_option maxHeartbeats 1000000 in
set_option maxRecDepth 10000 in
theorem rarcsI61 {M : Nat → Prop} {W0 : World} {σ : List VObj} {N : Int} {jd : DV} {J : List (List (Int × Int))} (hd : JbD jd J) (h3 : J.length ≤ 3) (h4 : ∀ j ∈ J, 1 ≤ j.length ∧ j.length ≤ 4) : InCall Tryz.prog M W0 45 σ [.d (.agg [DI N, jd])] (fun σ2 x2 => (∀ j, j < σ.length → σ2[j]? = σ[j]?) ∧ OwnK 2 σ2 x2 ((arcsO 0 J).flatMap c2 |>.map .d) ∧ (∀ j, idX x2 = some j → σ.length + 1 ≤ j) ∧ (arcsO 0 J = [] → x2 = .d Dnil)) := by
  refine inCall_K Tryz.func45 rfl (Nat.le_of_ble_eq_true rfl) ?_
  refine KC.seq ?_
  refine KC.region ?_
  refine KT.step rfl rfl (K.box rfl) ?_
  refine KT.step rfl rfl (K.assign rfl) ?_
  refine KT.nil ?_
  refine thenK_n ?_
  refine KC.seq ?_
  refine KC.region ?_
  refine KT.step rfl rfl (K.assign rfl) ?_
  refine KT.nil ?_
  refine thenK_n ?_
  refine KC.seq ?_
  refine KC.region ?_
  refine KT.step rfl rfl (K.assign rfl) ?_
  refine KT.nil ?_
  refine thenK_n ?_
  refine KC.seq ?_
  refine KC.seq ?_
  refine KC.region ?_
  refine KT.step rfl rfl (K.fieldAddrO rfl Tryz.fld24_1 Tryz.size22) ?_
  refine KT.step rfl rfl (K.loadO rfl (List.getElem?_concat_length ..) (by simp) rfl Tryz.agg22) ?_
  refine KT.step rfl rfl (K.len rfl hd Tryz.underlying22) ?_
  refine KT.step rfl rfl (K.move rfl) ?_
  refine KT.nil ?_
  refine thenK_n ?_
  refine KC.block ?_
  refine KC.loop (fun p : List VObj × XV × Nat => p.1) (fun p => [(9, .d jd), (10, .d (DI (J.length : Nat))), (4, .d (DI ((J.take p.2.2).flatten.length : Nat))), (11, .d (DI (p.2.2 : Nat))), (3, p.2.1)]) (fun p => p.2.2 ≤ J.length ∧ (p.1[σ.length]? = some ⟨[.d (DI N), .d jd], 0⟩ ∧ (∀ j, j < σ.length → p.1[j]? = σ[j]?) ∧ OwnK 2 p.1 p.2.1 ((arcsO 0 (J.take p.2.2)).flatMap c2 |>.map .d) ∧ (∀ j, idX p.2.1 = some j → σ.length + 1 ≤ j) ∧ (arcsO 0 (J.take p.2.2) = [] → p.2.1 = .d Dnil))) (fun p => J.length - p.2.2) (_, .d Dnil, 0) ⟨Nat.zero_le _, (List.getElem?_concat_length ..), fun j hj => List.getElem?_append_left hj, .nil, fun j hj => (by cases hj), fun _ => rfl⟩ rfl (by simp [Go.Vm.look, extK, enterK]) ?_
  intro p hp
  obtain ⟨σ0, x0, i⟩ := p
  obtain ⟨hi, y0, ky, o0, d0, nn0⟩ := hp
  simp only at hi y0 ky o0 d0 nn0 ⊢
  refine KC.seq ?_
  refine KC.region ?_
  refine KT.step rfl rfl (K.lss rfl rfl) ?_
  refine KT.nil ?_
  refine thenK_n ?_
  refine KC.seq ?_
  refine KC.cond rfl (fun hc12 => ?_) (fun hc12 => ?_)
  · skip
    replace hc12 := of_decide_eq_true hc12
    have hil : i < J.length := by omega
    have hj4 := h4 _ (List.getElem_mem hil)
    have hfl := flat_le (J := J) (fun j hj => (h4 j hj).2) (k := i)
    have haL := arcsO_len 0 (J.take i)
    refine KC.skip ?_
    refine thenK_n ?_
    refine KC.seq ?_
    refine KC.block ?_
    refine KC.seq ?_
    refine KC.region ?_
    refine KT.idx rfl rfl rfl hd rfl (by omega) Tryz.underlying22 Tryz.size57 fun c13 cs13 hj => ?_
    refine KT.step rfl rfl (K.load rfl Tryz.agg57) ?_
    refine KT.step rfl rfl (K.assign rfl) ?_
    refine KT.nil ?_
    refine thenK_n ?_
    refine KC.seq ?_
    refine KC.region ?_
    refine KT.step rfl rfl (K.move rfl) ?_
    refine KT.step rfl rfl (K.lenF rfl hj Tryz.underlying57) ?_
    refine KT.step rfl rfl (K.move rfl) ?_
    refine KT.nil ?_
    refine thenK_n ?_
    refine KC.block ?_
    refine KC.loop (fun p : List VObj × XV × Nat => p.1) (fun p => [(9, .d jd), (10, .d (DI (J.length : Nat))), (4, .d (DI (((J.take i).flatten.length + p.2.2 : Nat) : Int))), (11, .d (DI (i : Nat))), (15, .d c13), (16, .d (DI (J[i].length : Nat))), (17, .d (DI (p.2.2 : Nat))), (3, p.2.1)]) (fun p => p.2.2 ≤ J[i].length ∧ (p.1[σ.length]? = some ⟨[.d (DI N), .d jd], 0⟩ ∧ (∀ j, j < σ.length → p.1[j]? = σ[j]?) ∧ OwnK 2 p.1 p.2.1 (((arcsO 0 (J.take i) ++ arcsK (J.take i).flatten.length p.2.2)).flatMap c2 |>.map .d) ∧ (∀ j, idX p.2.1 = some j → σ.length + 1 ≤ j) ∧ ((arcsO 0 (J.take i) ++ arcsK (J.take i).flatten.length p.2.2) = [] → p.2.1 = .d Dnil))) (fun p => J[i].length - p.2.2) (_, x0, 0) ⟨Nat.zero_le _, y0, ky, by simpa [arcsK] using o0, d0, by simpa [arcsK] using nn0⟩ rfl (by simp [-List.length_flatten, Go.Vm.look, extK]) ?_
    intro p hp
    obtain ⟨σ1, x1, k⟩ := p
    obtain ⟨hk, z0, kz, o1, d1, nn1⟩ := hp
    simp only at hk z0 kz o1 d1 nn1 ⊢
    refine KC.seq ?_
    refine KC.region ?_
    refine KT.step rfl rfl (K.lss rfl rfl) ?_
    refine KT.nil ?_
    refine thenK_n ?_
    refine KC.seq ?_
    refine KC.cond rfl (fun hc18 => ?_) (fun hc18 => ?_)
    · skip
      replace hc18 := of_decide_eq_true hc18
      have hkl : k < J[i].length := by omega
      refine KC.skip ?_
      refine thenK_n ?_
      refine KC.seq ?_
      refine KC.block ?_
      refine KC.seq ?_
      refine KC.region ?_
      refine KT.step rfl rfl (K.move rfl) ?_
      refine KT.step rfl rfl (K.assign rfl) ?_
      refine KT.nil ?_
      refine thenK_n ?_
      refine KC.seq ?_
      refine KC.seq ?_
      refine KC.region ?_
      refine KT.step rfl rfl (K.move rfl) ?_
      refine KT.step rfl rfl (K.gtr rfl rfl) ?_
      refine KT.nil ?_
      refine thenK_n ?_
      refine KC.cond rfl (fun hc21 => ?_) (fun hc21 => ?_)
      · skip
        replace hc21 := of_decide_eq_true hc21
        refine KC.region ?_
        refine KT.step rfl rfl (K.move rfl) ?_
        refine KT.step rfl rfl (K.move rfl) ?_
        refine KT.step rfl rfl (K.sub rfl rfl (wrap_id (by omega))) ?_
        refine KT.step rfl rfl (K.move rfl) ?_
        refine KT.step rfl rfl (K.buildS rfl (build117_2 _ _)) ?_
        refine KT.step rfl rfl (K.buildK (k := 2) (ds := c2 ((((J.take i).flatten.length + k : Nat) : Int) - 1, (((J.take i).flatten.length + k : Nat) : Int))) rfl rfl Tryz.underlying63 Tryz.size65 Tryz.zero65 (by decide)) ?_
        refine KT.appK (k := 2) rfl rfl rfl rfl (o1.pushed _) (List.getElem?_concat_length ..) rfl rfl (by rw [cells_len, List.length_append, arcsK_len]; omega) Tryz.underlying63 Tryz.size65 (of_decide_eq_true (by kernel_rfl)) (by kernel_rfl) (by decide) fun σ4 x4 ho4 k4 w4 => ?_
        obtain ⟨j4, w5, w6⟩ := w4
        rw [← flat_snoc, List.append_assoc, ← arcsK_succ _ _ (by omega)] at ho4
        rw [List.length_append] at w6
        refine KT.step rfl rfl (K.assign rfl) ?_
        refine KT.nil ?_
        refine thenK_n ?_
        refine KC.region ?_
        refine KT.step rfl rfl (K.move rfl) ?_
        refine KT.step rfl rfl (K.add rfl rfl (wrap_id (by omega))) ?_
        refine KT.step rfl rfl (K.assign rfl) ?_
        refine KT.nil ?_
        refine blockK_n ?_
        refine thenK_n ?_
        refine KC.region ?_
        refine KT.step rfl rfl (K.add rfl rfl (wrap_id (by omega))) ?_
        refine KT.step rfl rfl (K.move rfl) ?_
        refine KT.nil ?_
        refine thenK_n ?_
        refine ⟨(σ4, x4, k + 1), ⟨by simp only; omega, ?_, fun j hj => ?_, ho4, fun j hj => ?_, fun h => ?_⟩, by simp only; omega, rfl, by simp [-List.length_flatten, Go.Vm.look, extK]; omega⟩
        · exact (k4 _ (fun h => by have := d1 _ h; omega) (by rw [List.length_append]; have := lt_of_get z0; omega)).trans (get_left z0)
        · simp only
          rw [← kz j hj]
          have hlt := lt_of_get z0
          exact (k4 j (fun h => by have := d1 _ h; omega) (by rw [List.length_append]; omega)).trans (List.getElem?_append_left (by omega))
        · simp only at hj; rw [w5] at hj; cases hj; have := lt_of_get z0; omega
        · simp only at h
          have := congrArg List.length h
          rw [List.length_append, arcsK_len] at this; simp only [List.length_nil] at this; omega
      · skip
        replace hc21 := of_decide_eq_false hc21
        refine KC.skip ?_
        refine thenK_n ?_
        refine KC.region ?_
        refine KT.step rfl rfl (K.move rfl) ?_
        refine KT.step rfl rfl (K.add rfl rfl (wrap_id (by omega))) ?_
        refine KT.step rfl rfl (K.assign rfl) ?_
        refine KT.nil ?_
        refine blockK_n ?_
        refine thenK_n ?_
        refine KC.region ?_
        refine KT.step rfl rfl (K.add rfl rfl (wrap_id (by omega))) ?_
        refine KT.step rfl rfl (K.move rfl) ?_
        refine KT.nil ?_
        refine thenK_n ?_
        have hk0 : k = 0 := by omega
        subst hk0
        exact ⟨(σ1, x1, 1), ⟨by simp only; omega, z0, kz, o1, d1, nn1⟩, by simp only; omega, rfl, by simp [-List.length_flatten, Go.Vm.look, extK]⟩
    · skip
      replace hc18 := of_decide_eq_false hc18
      refine KC.exit ?_
      refine thenK_x ?_
      refine thenK_x ?_
      refine blockK_e ?_
      refine blockK_n ?_
      refine thenK_n ?_
      refine KC.region ?_
      refine KT.step rfl rfl (K.add rfl rfl (wrap_id (by omega))) ?_
      refine KT.step rfl rfl (K.move rfl) ?_
      refine KT.nil ?_
      refine thenK_n ?_
      have ek : k = J[i].length := by omega
      rw [ek, ← arcsO_take hil] at o1 nn1
      have e1 : (J.take (i + 1)).flatten.length = (J.take i).flatten.length + J[i].length := by rw [List.take_succ_eq_append_getElem hil, List.flatten_append, List.length_append]; simp
      exact ⟨(σ1, x1, i + 1), ⟨by simp only; omega, z0, kz, o1, d1, nn1⟩, by simp only; omega, rfl, by simp [-List.length_flatten, Go.Vm.look, extK, e1, ek]⟩
  · skip
    replace hc12 := of_decide_eq_false hc12
    refine KC.exit ?_
    refine thenK_x ?_
    refine thenK_x ?_
    refine blockK_e ?_
    refine thenK_n ?_
    refine KC.seq ?_
    refine KC.region ?_
    refine KT.step rfl rfl (K.move rfl) ?_
    refine KT.step rfl rfl (K.assign rfl) ?_
    refine KT.nil ?_
    refine thenK_n ?_
    refine KC.ret ?_
    have et : J.take i = J := List.take_of_length_le (by omega)
    rw [et] at o0 nn0
    exact ⟨.inl rfl, _, rfl, ky, o0, d0, nn0⟩
set_option maxHeartbeats 1000000 in
set_option maxRecDepth 10000 in
theorem rall45 {N : Int} {jd : DV} {J : List (List (Int × Int))} (hd : JbD jd J) (h3 : J.length ≤ 3) (h4 : ∀ j ∈ J, 1 ≤ j.length ∧ j.length ≤ 4) {ld : DV} {l : List (List Int)} (hm : Mat ld l) (hl : l.length ≤ 100) (hr : ∀ r ∈ l, r.length ≤ 1000) : DeepCall Tryz.prog 24 [.agg [DI N, jd], ld] (flV c2 (arcsO 0 J ++ ordA l)) := by
  refine deepCall_K 5 Tryz.func24 rfl (Nat.le_of_ble_eq_true rfl) fun M W0 => ?_
  refine KC.seq ?_
  refine KC.region ?_
  refine KT.step rfl rfl (K.box rfl) ?_
  refine KT.step rfl rfl (K.assign rfl) ?_
  refine KT.nil ?_
  refine thenK_n ?_
  refine KC.seq ?_
  refine KC.regionL ?_
  refine KL.step rfl rfl (K.loadOA [DI N, jd] rfl rfl (by decide) Tryz.agg24 Tryz.size24 rfl) ?_
  refine KL.call rfl rfl rfl rfl rfl plainTryz_45 (rarcsI61 hd h3 h4) fun σ2 x2 hq => ?_
  obtain ⟨q1, q2, q3, q4⟩ := hq
  refine KL.step rfl rfl (K.assign rfl) ?_
  refine KL.nil ?_
  refine thenK_n ?_
  refine KC.seq ?_
  refine KC.seq ?_
  refine KC.region ?_
  refine KT.step rfl rfl (K.move rfl) ?_
  refine KT.step rfl rfl (K.len rfl hm Tryz.underlying25) ?_
  refine KT.step rfl rfl (K.move rfl) ?_
  refine KT.nil ?_
  refine thenK_n ?_
  refine KC.block ?_
  refine KC.loop (fun p : List VObj × XV × Nat => p.1) (fun p => [(11, .d ld), (12, .d (DI (l.length : Nat))), (13, .d (DI (p.2.2 : Nat))), (5, p.2.1)]) (fun p => p.2.2 ≤ l.length ∧ (p.1[0]? = some ⟨[.d (DI N), .d jd], 0⟩ ∧ OwnK 2 p.1 p.2.1 (((arcsO 0 J ++ ordA (l.take p.2.2))).flatMap c2 |>.map .d) ∧ (∀ j, idX p.2.1 = some j → 1 ≤ j) ∧ ((arcsO 0 J ++ ordA (l.take p.2.2)) = [] → p.2.1 = .d Dnil))) (fun p => l.length - p.2.2) (_, x2, 0) ⟨Nat.zero_le _, q1 0 (by simp), by simpa [ordA] using q2, (fun j hj => by have := q3 j hj; simp at this; omega), by simpa [ordA] using q4⟩ rfl (by simp [Go.Vm.look, extK, enterK]) ?_
  intro p hp
  obtain ⟨σ0, x0, i⟩ := p
  obtain ⟨hi, y0, o0, d0, nn0⟩ := hp
  simp only at hi y0 o0 d0 nn0 ⊢
  refine KC.seq ?_
  refine KC.region ?_
  refine KT.step rfl rfl (K.lss rfl rfl) ?_
  refine KT.nil ?_
  refine thenK_n ?_
  refine KC.seq ?_
  refine KC.cond rfl (fun hc14 => ?_) (fun hc14 => ?_)
  · skip
    replace hc14 := of_decide_eq_true hc14
    have hil : i < l.length := by omega
    have hri := hr _ (List.getElem_mem hil)
    refine KC.skip ?_
    refine thenK_n ?_
    refine KC.seq ?_
    refine KC.block ?_
    refine KC.seq ?_
    refine KC.region ?_
    refine KT.idx rfl rfl rfl hm rfl (by omega) Tryz.underlying25 Tryz.size36 fun c15 cs15 hrow => ?_
    refine KT.step rfl rfl (K.load rfl Tryz.agg36) ?_
    refine KT.step rfl rfl (K.assign rfl) ?_
    refine KT.nil ?_
    refine thenK_n ?_
    refine KC.seq ?_
    refine KC.region ?_
    refine KT.step rfl rfl (K.assign rfl) ?_
    refine KT.nil ?_
    refine thenK_n ?_
    refine KC.block ?_
    refine KC.loop (fun p : List VObj × XV × Nat => p.1) (fun p => [(11, .d ld), (12, .d (DI (l.length : Nat))), (13, .d (DI (i : Nat))), (7, .d c15), (8, .d (DI (p.2.2 : Nat))), (5, p.2.1)]) (fun p => (1 ≤ p.2.2 ∧ (p.2.2 ≤ l[i].length ∨ p.2.2 = 1)) ∧ (p.1[0]? = some ⟨[.d (DI N), .d jd], 0⟩ ∧ OwnK 2 p.1 p.2.1 (((arcsO 0 J ++ ordA (l.take i) ++ consT l[i] p.2.2)).flatMap c2 |>.map .d) ∧ (∀ j, idX p.2.1 = some j → 1 ≤ j) ∧ ((arcsO 0 J ++ ordA (l.take i) ++ consT l[i] p.2.2) = [] → p.2.1 = .d Dnil))) (fun p => l[i].length - p.2.2) (_, x0, 1) ⟨⟨Nat.le_refl _, .inr rfl⟩, y0, by simpa [consT] using o0, d0, by simpa [consT] using nn0⟩ rfl (by simp [Go.Vm.look, extK]) ?_
    intro p hp
    obtain ⟨σ1, x1, k⟩ := p
    obtain ⟨⟨hk1, hk⟩, z0, o1, d1, nn1⟩ := hp
    simp only at hk1 hk z0 o1 d1 nn1 ⊢
    refine KC.seq ?_
    refine KC.seq ?_
    refine KC.region ?_
    refine KT.step rfl rfl (K.move rfl) ?_
    refine KT.step rfl rfl (K.move rfl) ?_
    refine KT.step rfl rfl (K.len rfl hrow Tryz.underlying36) ?_
    refine KT.step rfl rfl (K.lss rfl rfl) ?_
    refine KT.nil ?_
    refine thenK_n ?_
    refine KC.cond rfl (fun hc20 => ?_) (fun hc20 => ?_)
    · skip
      replace hc20 := of_decide_eq_true hc20
      have hkl : k < l[i].length := by omega
      have hb := ordA_len (l := l.take i) (fun r h => hr r (List.mem_of_mem_take h))
      have hfl := flatten_le h4
      have haL := arcsO_len 0 J
      have hcl : (consT l[i] k).length = k - 1 := by simp [consT]
      have hq9 : (arcsO 0 J ++ ordA (l.take i) ++ consT l[i] k).length ≤ 1000000 := by
        rw [List.length_append, List.length_append, hcl]
        have : (l.take i).length ≤ 100 := by simp; omega
        omega
      refine KC.skip ?_
      refine thenK_n ?_
      refine KC.seq ?_
      refine KC.block ?_
      refine KC.draw Tryz.mixed ?_
      refine KT.step rfl rfl (K.move rfl) ?_
      refine KT.step rfl rfl (K.move rfl) ?_
      refine KT.step rfl rfl (K.move rfl) ?_
      refine KT.step rfl rfl (K.sub rfl rfl (wrap_id (by omega))) ?_
      refine KT.idxI (m := k - 1) rfl rfl rfl hrow (by exact congrArg (fun z => some (XV.d (DI z))) (show (k : Int) - 1 = ((k - 1 : Nat) : Int) by omega)) (by omega) Tryz.underlying36 Tryz.size3 fun cs27 => ?_
      refine KT.step rfl rfl (K.load rfl Tryz.agg3) ?_
      refine KT.step rfl rfl (K.move rfl) ?_
      refine KT.step rfl rfl (K.move rfl) ?_
      refine KT.idxI (m := k) rfl rfl rfl hrow rfl (by omega) Tryz.underlying36 Tryz.size3 fun cs31 => ?_
      refine KT.step rfl rfl (K.load rfl Tryz.agg3) ?_
      refine KT.step rfl rfl (K.buildS rfl (build117_2 _ _)) ?_
      have g1 : l[i][k - 1] = l[i].getD (k - 1) 0 := by simp [show k - 1 < l[i].length by omega]
      have g2 : l[i][k] = l[i].getD k 0 := by simp [hkl]
      rw [g1, g2]
      refine KT.step rfl rfl (K.buildK (k := 2) (ds := c2 (l[i].getD (k - 1) 0, l[i].getD k 0)) rfl rfl Tryz.underlying63 Tryz.size65 Tryz.zero65 (by decide)) ?_
      refine KT.appK (k := 2) rfl rfl rfl rfl (o1.pushed _) (List.getElem?_concat_length ..) rfl rfl (by rw [cells_len]; omega) Tryz.underlying63 Tryz.size65 (of_decide_eq_true (by kernel_rfl)) (by kernel_rfl) (by decide) fun σ4 x4 ho4 k4 w4 => ?_
      obtain ⟨j4, w5, w6⟩ := w4
      rw [← flat_snoc, List.append_assoc, ← consT_succ _ _ (by omega)] at ho4
      rw [List.length_append] at w6
      refine KT.step rfl rfl (K.assign rfl) ?_
      refine KT.nil ?_
      refine ⟨by kernel_rfl, ?_⟩
      refine blockK_n ?_
      refine thenK_n ?_
      refine KC.region ?_
      refine KT.step rfl rfl (K.move rfl) ?_
      refine KT.step rfl rfl (K.add rfl rfl (wrap_id (by omega))) ?_
      refine KT.step rfl rfl (K.assign rfl) ?_
      refine KT.nil ?_
      refine thenK_n ?_
      refine ⟨(σ4, x4, k + 1), ⟨⟨by simp only; omega, .inl (by simp only; omega)⟩, ?_, ho4, fun j hj => ?_, fun h => ?_⟩, by simp only; omega, rfl, by simp [Go.Vm.look, extK]⟩
      · exact (k4 _ (fun h => by have := d1 _ h; omega) (by rw [List.length_append]; have := lt_of_get z0; omega)).trans (get_left z0)
      · simp only at hj; rw [w5] at hj; cases hj; have := lt_of_get z0; omega
      · simp only at h
        have := congrArg List.length h
        rw [List.length_append, consT_succ _ _ (by omega)] at this; simp at this
    · skip
      replace hc20 := of_decide_eq_false hc20
      refine KC.exit ?_
      refine thenK_x ?_
      refine thenK_x ?_
      refine blockK_e ?_
      refine blockK_n ?_
      refine thenK_n ?_
      refine KC.region ?_
      refine KT.step rfl rfl (K.add rfl rfl (wrap_id (by omega))) ?_
      refine KT.step rfl rfl (K.move rfl) ?_
      refine KT.nil ?_
      refine thenK_n ?_
      have hk2 : consT l[i] k = consT l[i] l[i].length := by
        rcases Nat.lt_or_ge k l[i].length with h | h
        · exact absurd h (by omega)
        · unfold consT
          congr 2
          omega
      rw [hk2, List.append_assoc, ← ordA_take hil] at o1 nn1
      exact ⟨(σ1, x1, i + 1), ⟨by simp only; omega, z0, o1, d1, nn1⟩, by simp only; omega, rfl, by simp [Go.Vm.look, extK]⟩
  · skip
    replace hc14 := of_decide_eq_false hc14
    refine KC.exit ?_
    refine thenK_x ?_
    refine thenK_x ?_
    refine blockK_e ?_
    refine thenK_n ?_
    refine KC.seq ?_
    refine KC.region ?_
    refine KT.step rfl rfl (K.move rfl) ?_
    refine KT.step rfl rfl (K.assign rfl) ?_
    refine KT.nil ?_
    refine thenK_n ?_
    refine KC.ret ?_
    have et : l.take i = l := List.take_of_length_le (by omega)
    rw [et] at o0 nn0
    exact ⟨.inl rfl, _, rfl, own_fl c2_len (by decide) o0 nn0⟩
end Go.Proofs.YtdgahcbalabjdaaGreat

