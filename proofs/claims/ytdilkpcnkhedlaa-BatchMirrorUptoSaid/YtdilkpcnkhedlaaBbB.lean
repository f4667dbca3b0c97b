import Derived.Test.YtdilkpcnkhedlaaBbA
import Derived.Test.YtdilkpcnkhedlaaBbP
/-
  Batch: the reference: all orders of some numbers.
-/
namespace Go.Proofs.Ytdilkpcnkhedlaa
open Go.Vm Go.Ht Go.Ba
theorem plainTry_84 : plainFn Try.prog 84 = true := by kernel_rfl
/-- The orders that begin with one of the first i numbers. -/
def permsT (l : List Int) (i : Nat) : List (List Int) := (List.range i).flatMap fun i => (permsO (l.take i ++ l.drop (i + 1))).map fun p => l.getD i 0 :: p
theorem permsT_end {l : List Int} (h : 0 < l.length) : permsT l l.length = permsO l := (permsO_cons h).symm
theorem permsT_succ (l : List Int) (i : Nat) : permsT l (i + 1) = permsT l i ++ (permsO (l.take i ++ l.drop (i + 1))).map fun p => l.getD i 0 :: p := by
  unfold permsT; rw [List.range_succ, List.flatMap_append]; simp
def facN : Nat → Nat
  | 0 => 1
  | n + 1 => (n + 1) * facN n
theorem permsN_fac : ∀ (n : Nat) (l : List Int), l.length = n → (permsN n l).length = facN n
  | 0, _, _ => by simp [permsN, facN]
  | n + 1, l, h => by
    have key : ∀ k, k ≤ l.length → ((List.range k).flatMap fun i => (permsN n (l.take i ++ l.drop (i + 1))).map fun p => l.getD i 0 :: p).length = k * facN n := by
      intro k
      induction k with
      | zero => simp
      | succ k ih =>
        intro hk
        rw [List.range_succ, List.flatMap_append, List.length_append, ih (by omega)]
        have := permsN_fac n (l.take k ++ l.drop (k + 1)) (by rw [rest_len (by omega)]; omega)
        simp only [List.flatMap_cons, List.flatMap_nil, List.append_nil, List.length_map, this, Nat.add_mul, Nat.one_mul]
    unfold permsN facN
    rw [key _ (Nat.le_refl _), h]
theorem permsN_len (n : Nat) (l : List Int) (h : l.length = n) (h3 : n ≤ 3) : (permsN n l).length ≤ 6 := by
  rw [permsN_fac n l h]
  match n, h3 with
  | 0, _ => decide
  | 1, _ => decide
  | 2, _ => decide
  | 3, _ => decide
theorem permsT_len {l : List Int} (h3 : l.length ≤ 3) : ∀ {i : Nat}, i ≤ l.length → (permsT l i).length ≤ 6 * i
  | 0, _ => by simp [permsT]
  | i + 1, h => by
    have h1 := permsT_len h3 (i := i) (by omega)
    have h2 := permsN_len _ (l.take i ++ l.drop (i + 1)) rfl (by rw [rest_len (by omega)]; omega)
    rw [permsT_succ, List.length_append, List.length_map]
    have : (permsO (l.take i ++ l.drop (i + 1))).length ≤ 6 := h2
    omega
theorem dfn3 {σ : List VObj} {id m : Nat} {ex : Bool} {ds : List DV} (h : σ[id]? = some ⟨ds.map .d, 0⟩) (hm : ds.length = m) : deepen (freezeIds σ [id]) 5 (.osl id 0 m 1 m ex) = some (.sl ds m (if ex = true then some m else none)) := by
  have h1 := freezeIds_one h (by decide)
  rw [deepen_osl h1 rfl (by rw [List.length_map]; omega), List.drop_zero, Nat.mul_one, List.take_of_length_le (by rw [List.length_map]; omega), mapM_deep]; rfl
theorem row_eq (x : Int) (p : List Int) : DV.sl (DI x :: ints p) (1 + (ints p).length) (if (true && (ints p).isEmpty) = true then some (1 + (ints p).length) else none) = rowPV (x :: p) := by
  unfold rowPV
  cases p with
  | nil => rfl
  | cons y p =>
    have e : 1 + (ints (y :: p)).length = (x :: y :: p).length := by simp [ints]; omega
    rw [e, if_neg (by simp [ints]), if_neg (by simp)]; rfl
theorem ints_len {cs : List DV} {n : Nat} {cap : Option Nat} {l : List Int} (h : Ints (.sl cs l.length cap) l) (e : l.length = n) : Ints (.sl cs n cap) l := by subst e; exact h
theorem rowPV_sld (p : List Int) : SlD (rowPV p) := .sl _ _ _
theorem own_perms {σ : List VObj} {x : XV} {k : Nat} {R : List (List Int)} (h : OwnK 1 σ x ((R.map rowPV).map .d)) (hne : R ≠ []) : deepen (freezeAll σ) (k + 2) x = some (.sl (R.map rowPV) R.length none) := by
  generalize hc : (R.map rowPV).map XV.d = cs at h
  have hcl := congrArg List.length hc
  rw [List.length_map, List.length_map] at hcl
  cases h with
  | nil => exact absurd (List.length_eq_zero_iff.1 (by simpa using hcl)) hne
  | @sl id n cells h hn =>
    subst hc
    rw [List.length_map, List.length_map, Nat.mul_one] at hn
    subst hn
    have f2 : (freezeAll σ)[id]? = some ⟨(R.map rowPV).map .d, 1⟩ := by simp [freezeAll, h]
    rw [deepen_osl f2 rfl (by simp), List.drop_zero, Nat.mul_one, List.take_of_length_le (by simp), mapM_deep]; rfl
set_option maxRecDepth 10000 in
theorem perms0 {d : DV} (hd : Ints d []) : DeepCall Try.prog 84 [d] (permV []) := by
  refine deepCall_K 5 Try.func84 rfl (Nat.le_of_ble_eq_true rfl) fun M W0 => ?_
  refine KC.seq ?_
  refine KC.region ?_
  refine KT.step rfl rfl (K.assign rfl) ?_
  refine KT.nil ?_
  refine thenK_n ?_
  refine KC.seq ?_
  refine KC.seq ?_
  refine KC.region ?_
  refine KT.step rfl rfl (K.move rfl) ?_
  refine KT.step rfl rfl (K.len rfl hd Try.underlying26) ?_
  refine KT.step rfl rfl (K.eql rfl rfl) ?_
  refine KT.nil ?_
  refine thenK_n ?_
  refine KC.cond rfl (fun hc11 => ?_) (fun hc11 => ?_)
  · skip
    refine KC.seq ?_
    refine KC.region ?_
    refine KT.step rfl rfl (K.buildC (k := 1) (cs := [.d Dnil]) rfl rfl rfl Try.underlying25 Try.size26 Try.one26.zero (by decide)) ?_
    refine KT.step rfl rfl (K.assign rfl) ?_
    refine KT.nil ?_
    refine thenK_n ?_
    refine KC.ret ?_
    refine thenK_r ?_
    exact ⟨.inl rfl, _, rfl, rfl⟩
  · skip
    exact absurd hc11 (by decide)
set_option maxHeartbeats 2000000 in
set_option maxRecDepth 10000 in
theorem permsS {d : DV} {l : List Int} (hd : Ints d l) (h0 : 0 < l.length) (h3 : l.length ≤ 3) (ih : ∀ (d2 : DV) (l2 : List Int), Ints d2 l2 → l2.length < l.length → DeepCall Try.prog 84 [d2] (permV l2)) : DeepCall Try.prog 84 [d] (permV l) := by
  refine deepCall_K 5 Try.func84 rfl (Nat.le_of_ble_eq_true rfl) fun M W0 => ?_
  refine KC.seq ?_
  refine KC.region ?_
  refine KT.step rfl rfl (K.assign rfl) ?_
  refine KT.nil ?_
  refine thenK_n ?_
  refine KC.seq ?_
  refine KC.seq ?_
  refine KC.region ?_
  refine KT.step rfl rfl (K.move rfl) ?_
  refine KT.step rfl rfl (K.len rfl hd Try.underlying26) ?_
  refine KT.step rfl rfl (K.eql rfl rfl) ?_
  refine KT.nil ?_
  refine thenK_n ?_
  refine KC.cond rfl (fun hc11 => ?_) (fun hc11 => ?_)
  · skip
    exact absurd (of_decide_eq_true hc11) (by omega)
  · skip
    replace hc11 := of_decide_eq_false hc11
    refine KC.skip ?_
    refine thenK_n ?_
    refine KC.seq ?_
    refine KC.region ?_
    refine KT.step rfl rfl (K.assign rfl) ?_
    refine KT.nil ?_
    refine thenK_n ?_
    refine KC.seq ?_
    refine KC.seq ?_
    refine KC.region ?_
    refine KT.step rfl rfl (K.move rfl) ?_
    refine KT.step rfl rfl (K.len rfl hd Try.underlying26) ?_
    refine KT.step rfl rfl (K.move rfl) ?_
    refine KT.nil ?_
    refine thenK_n ?_
    refine KC.block ?_
    refine KC.loop (fun p : List VObj × XV × Nat => p.1) (fun p => [(0, .d d), (13, .d d), (14, .d (DI (l.length : Nat))), (15, .d (DI (p.2.2 : Nat))), (3, p.2.1)]) (fun p => p.2.2 ≤ l.length ∧ OwnK 1 p.1 p.2.1 (((permsT l p.2.2).map rowPV).map .d) ∧ (permsT l p.2.2 = [] → p.2.1 = .d Dnil)) (fun p => l.length - p.2.2) (_, .d Dnil, 0) ⟨Nat.zero_le _, .nil, fun _ => rfl⟩ rfl (by simp [Go.Vm.look, extK, enterK]) ?_
    intro p hp
    obtain ⟨σ0, x0, i⟩ := p
    obtain ⟨hi, o0, n0⟩ := hp
    simp only at hi o0 n0 ⊢
    refine KC.seq ?_
    refine KC.region ?_
    refine KT.step rfl rfl (K.lss rfl rfl) ?_
    refine KT.nil ?_
    refine thenK_n ?_
    refine KC.seq ?_
    refine KC.cond rfl (fun hc16 => ?_) (fun hc16 => ?_)
    · skip
      replace hc16 := of_decide_eq_true hc16
      have hil : i < l.length := by omega
      refine KC.skip ?_
      refine thenK_n ?_
      refine KC.seq ?_
      refine KC.block ?_
      refine KC.seq ?_
      refine KC.region ?_
      refine KT.step rfl rfl (K.move rfl) ?_
      refine KT.idxI rfl rfl rfl hd rfl (by omega) Try.underlying26 Try.size3 fun cs18 => ?_
      refine KT.step rfl rfl (K.load rfl Try.agg3) ?_
      refine KT.step rfl rfl (K.assign rfl) ?_
      refine KT.step rfl rfl (K.assign rfl) ?_
      refine KT.nil ?_
      refine thenK_n ?_
      refine KC.seq ?_
      refine KC.draw Try.mixed ?_
      refine KT.step rfl rfl (K.build0 Try.underlying26 Try.one3) ?_
      refine KT.step rfl rfl (K.move rfl) ?_
      refine KT.step rfl rfl (K.move rfl) ?_
      refine KT.sliceTo (m := i) rfl rfl rfl hd rfl (by omega) Try.underlying26 Try.size3 fun r23 hr23 => ?_
      refine KT.appC rfl rfl rfl rfl (List.getElem?_concat_length ..) rfl (slc_ints hr23) (ints_one _) (by simp [ints]; omega) Try.underlying26 Try.size3 (of_decide_eq_true (by kernel_rfl)) (by kernel_rfl) fun σ1 id1 u1 k1 w1 => ?_
      refine KT.step rfl rfl (K.move rfl) ?_
      refine KT.step rfl rfl (K.move rfl) ?_
      refine KT.step rfl rfl (K.add rfl rfl (wrap_id (by omega))) ?_
      refine KT.fromI (m := i + 1) rfl rfl rfl hd (by exact congrArg (fun z => some (XV.d (DI z))) (show (i : Int) + 1 = ((i + 1 : Nat) : Int) by omega)) (by omega) (by intro e; rw [e] at h0; simp at h0) Try.underlying26 Try.size3 fun r28 hr28 => ?_
      refine KT.appC rfl rfl rfl rfl u1 (by simp [ints]) (slc_ints hr28) (ints_one _) (by simp [ints]; omega) Try.underlying26 Try.size3 (of_decide_eq_true (by kernel_rfl)) (by kernel_rfl) fun σ2 id2 u2 k2 w2 => ?_
      have hc2 : ([] ++ (ints (l.take i)).map XV.d) ++ (ints (l.drop (i + 1))).map .d = (ints (l.take i ++ l.drop (i + 1))).map .d := by simp [ints]
      rw [hc2] at u2
      have hlr := rest_len hil
      have hlo : ∀ j, j < σ0.length → σ2[j]? = σ0[j]? := fun j hj => by
        have hj1 : σ1[j]? = σ0[j]? := by
          rw [k1 j (by omega) (by rw [List.length_append]; omega), List.getElem?_append_left hj]
        have hjl : j < σ1.length := by
          have h9 : σ1[j]? = some σ0[j] := hj1.trans (List.getElem?_eq_getElem hj)
          exact lt_of_get h9
        rw [k2 j (by rcases w1 with ⟨w, _⟩ | w <;> (try rw [List.length_append] at w) <;> omega) hjl, hj1]
      have hid2 : σ0.length ≤ id2 := by
        rcases w2 with ⟨w, _⟩ | w
        · rcases w1 with ⟨w', _⟩ | w'
          · omega
          · rw [List.length_append] at w'; omega
        · have h9 : σ0.length ≤ σ1.length := by
            rcases w1 with ⟨_, w'⟩ | w'
            · rw [w', List.length_append]; omega
            · have := lt_of_get u1; rw [List.length_append] at w'; omega
          omega
      refine KT.step rfl rfl (K.assign rfl) ?_
      refine KT.nil ?_
      refine ⟨by kernel_rfl, ?_⟩
      refine thenK_n ?_
      refine KC.seq ?_
      refine KC.region ?_
      refine KT.step rfl rfl (K.move rfl) ?_
      have hm2 : (ints (l.take i ++ l.drop (i + 1))).length = 0 + (ints (l.take i)).length + (ints (l.drop (i + 1))).length := by simp [ints]
      have hd3 := dfn3 (ex := (true && (ints (l.take i)).isEmpty && (ints (l.drop (i + 1))).isEmpty)) u2 hm2
      have hil2 : (ints (l.take i)).length + (ints (l.drop (i + 1))).length = (l.take i ++ l.drop (i + 1)).length := by simp [ints]
      refine KT.step rfl rfl (K.callZ (xs := [.osl id2 0 (0 + (ints (l.take i)).length + (ints (l.drop (i + 1))).length) 1 (0 + (ints (l.take i)).length + (ints (l.drop (i + 1))).length) (true && (ints (l.take i)).isEmpty && (ints (l.drop (i + 1))).isEmpty)]) (ds := [.sl (ints (l.take i ++ l.drop (i + 1))) (0 + (ints (l.take i)).length + (ints (l.drop (i + 1))).length) (if (true && (ints (l.take i)).isEmpty && (ints (l.drop (i + 1))).isEmpty) = true then some (0 + (ints (l.take i)).length + (ints (l.drop (i + 1))).length) else none)]) [id2] 5 rfl plainTry_84 (by rw [List.mapM_cons, hd3]; rfl) (ih _ (l.take i ++ l.drop (i + 1)) (ints_len ints_ok (by omega)) (by omega))) ?_
      refine KT.step rfl rfl (K.len rfl (perm_mat (l.take i ++ l.drop (i + 1))) Try.underlying25) ?_
      refine KT.step rfl rfl (K.move rfl) ?_
      refine KT.nil ?_
      refine thenK_n ?_
      refine KC.block ?_
      refine KC.loop (fun p : List VObj × XV × Nat => p.1) (fun p => [(0, .d d), (13, .d d), (14, .d (DI (l.length : Nat))), (15, .d (DI (i : Nat))), (5, .d (DI (l.getD i 0))), (31, .d (permV (l.take i ++ l.drop (i + 1)))), (32, .d (DI ((permsO (l.take i ++ l.drop (i + 1))).length : Nat))), (33, .d (DI (p.2.2 : Nat))), (3, p.2.1)]) (fun p => p.2.2 ≤ (permsO (l.take i ++ l.drop (i + 1))).length ∧ OwnK 1 p.1 p.2.1 ((((permsT l i ++ ((permsO (l.take i ++ l.drop (i + 1))).take p.2.2).map fun q => l.getD i 0 :: q)).map rowPV).map .d) ∧ ((permsT l i ++ ((permsO (l.take i ++ l.drop (i + 1))).take p.2.2).map fun q => l.getD i 0 :: q) = [] → p.2.1 = .d Dnil)) (fun p => (permsO (l.take i ++ l.drop (i + 1))).length - p.2.2) (freezeIds σ2 [id2], x0, 0) ⟨Nat.zero_le _, (by simpa using (o0.keep (σ' := freezeIds σ2 [id2]) fun j hj => (freezeIds_not (by have := o0.lt hj; simp; omega)).trans (hlo j (o0.lt hj)))), by simpa using n0⟩ rfl (by simp [Go.Vm.look, extK, hil]) ?_
      intro p hp
      obtain ⟨σ1', x1, k⟩ := p
      obtain ⟨hk, o1, n1⟩ := hp
      simp only at hk o1 n1 ⊢
      refine KC.seq ?_
      refine KC.region ?_
      refine KT.step rfl rfl (K.lss rfl rfl) ?_
      refine KT.nil ?_
      refine thenK_n ?_
      refine KC.seq ?_
      refine KC.cond rfl (fun hc34 => ?_) (fun hc34 => ?_)
      · skip
        replace hc34 := of_decide_eq_true hc34
        have hkl : k < (permsO (l.take i ++ l.drop (i + 1))).length := by omega
        have hpl := permsN_len _ (l.take i ++ l.drop (i + 1)) rfl (by omega)
        have hp6 : (permsO (l.take i ++ l.drop (i + 1))).length ≤ 6 := hpl
        have hpk : (permsO (l.take i ++ l.drop (i + 1)))[k].length = l.length - 1 := by rw [(mem_permsO.1 (List.getElem_mem hkl)).length_eq, hlr]
        have hT6 := permsT_len h3 (show i ≤ l.length by omega)
        refine KC.skip ?_
        refine thenK_n ?_
        refine KC.seq ?_
        refine KC.block ?_
        refine KC.seq ?_
        refine KC.region ?_
        refine KT.idx rfl rfl rfl (perm_mat (l.take i ++ l.drop (i + 1))) rfl (by omega) Try.underlying25 Try.size26 fun c35 cs35 hp35 => ?_
        refine KT.step rfl rfl (K.load rfl Try.agg26) ?_
        refine KT.step rfl rfl (K.assign rfl) ?_
        refine KT.nil ?_
        refine thenK_n ?_
        refine KC.region ?_
        refine KT.step rfl rfl (K.move rfl) ?_
        refine KT.step rfl rfl (K.move rfl) ?_
        refine KT.step rfl rfl (K.buildC (k := 1) (cs := [.d (DI (l.getD i 0))]) rfl rfl rfl Try.underlying26 Try.size3 Try.one3.zero (by decide)) ?_
        refine KT.step rfl rfl (K.move rfl) ?_
        refine KT.appC rfl rfl rfl rfl (List.getElem?_concat_length ..) rfl (slc_ints hp35) (ints_one _) (by simp [ints]; omega) Try.underlying26 Try.size3 (of_decide_eq_true (by kernel_rfl)) (by kernel_rfl) fun σ4 id4 u4 k4 w4 => ?_
        have o4 : OwnK 1 σ4 x1 ((((permsT l i ++ ((permsO (l.take i ++ l.drop (i + 1))).take k).map fun q => l.getD i 0 :: q)).map rowPV).map .d) := o1.keep fun j hj => by
          have hjl := o1.lt hj
          rw [k4 j (by omega) (by rw [List.length_append]; omega), List.getElem?_append_left hjl]
        refine KT.step rfl rfl (K.buildC (k := 1) (cs := [.osl id4 0 (1 + (ints (permsO (l.take i ++ l.drop (i + 1)))[k]).length) 1 (1 + (ints (permsO (l.take i ++ l.drop (i + 1)))[k]).length) (true && (ints (permsO (l.take i ++ l.drop (i + 1)))[k]).isEmpty)]) rfl rfl rfl Try.underlying25 Try.size26 Try.one26.zero (by decide)) ?_
        refine KT.appK (k := 1) rfl rfl rfl rfl (o4.pushed _) (List.getElem?_concat_length ..) rfl rfl (by simp; omega) Try.underlying25 Try.size26 (of_decide_eq_true (by kernel_rfl)) (by kernel_rfl) (by decide) fun σ5 x5 ho5 k5 w5 => ?_
        obtain ⟨j5, w6, w7⟩ := w5
        rw [List.length_append] at w7
        refine KT.step rfl rfl (K.assign rfl) ?_
        refine KT.nil ?_
        refine blockK_n ?_
        refine thenK_n ?_
        have hid4 : σ1'.length ≤ id4 := by
          rcases w4 with ⟨w, _⟩ | w
          · omega
          · rw [List.length_append] at w; omega
        have u5 : σ5[id4]? = some ⟨(DI (l.getD i 0) :: ints (permsO (l.take i ++ l.drop (i + 1)))[k]).map .d, 0⟩ := (k5 id4 (fun h => by have := o1.lt h; omega) (by rw [List.length_append]; have := lt_of_get u4; omega)).trans (get_left u4)
        refine KC.tellK (w := 1) (L := 1 + (ints (permsO (l.take i ++ l.drop (i + 1)))[k]).length) ho5 u5 (by simp; omega) (fun h => by rw [w6] at h; cases h; have := lt_of_get u4; omega) fun σ6 q1 q2 q3 => ?_
        rw [row_eq] at q1
        refine KC.region ?_
        refine KT.step rfl rfl (K.add rfl rfl (wrap_id (by omega))) ?_
        refine KT.step rfl rfl (K.move rfl) ?_
        refine KT.nil ?_
        refine thenK_n ?_
        have et : ((permsO (l.take i ++ l.drop (i + 1))).take (k + 1)).map (fun q => l.getD i 0 :: q) = ((permsO (l.take i ++ l.drop (i + 1))).take k).map (fun q => l.getD i 0 :: q) ++ [l.getD i 0 :: (permsO (l.take i ++ l.drop (i + 1)))[k]] := by
          rw [List.take_succ_eq_append_getElem hkl, List.map_append]; rfl
        refine ⟨(σ6, x5, k + 1), ⟨by simp only; omega, ?_, fun h => ?_⟩, by simp only; omega, rfl, by simp [Go.Vm.look, extK]⟩
        · simp only [et]
          rw [← List.append_assoc, List.map_append, List.map_append]
          exact q1
        · simp only [et] at h; simp at h
      · skip
        replace hc34 := of_decide_eq_false hc34
        refine KC.exit ?_
        refine thenK_x ?_
        refine thenK_x ?_
        refine blockK_e ?_
        refine blockK_n ?_
        refine thenK_n ?_
        refine KC.region ?_
        refine KT.step rfl rfl (K.add rfl rfl (wrap_id (by omega))) ?_
        refine KT.step rfl rfl (K.move rfl) ?_
        refine KT.nil ?_
        refine thenK_n ?_
        have et : (permsO (l.take i ++ l.drop (i + 1))).take k = permsO (l.take i ++ l.drop (i + 1)) := List.take_of_length_le (by omega)
        rw [et, ← permsT_succ] at o1 n1
        exact ⟨(σ1', x1, i + 1), ⟨by simp only; omega, o1, n1⟩, by simp only; omega, rfl, by simp [Go.Vm.look, extK]⟩
    · skip
      replace hc16 := of_decide_eq_false hc16
      refine KC.exit ?_
      refine thenK_x ?_
      refine thenK_x ?_
      refine blockK_e ?_
      refine thenK_n ?_
      refine KC.seq ?_
      refine KC.region ?_
      refine KT.step rfl rfl (K.move rfl) ?_
      refine KT.step rfl rfl (K.assign rfl) ?_
      refine KT.nil ?_
      refine thenK_n ?_
      refine KC.ret ?_
      have hne : permsO l ≠ [] := fun e => by
        have := mem_permsO.2 (List.Perm.refl l)
        rw [e] at this; simp at this
      rw [show i = l.length by omega, permsT_end h0] at o0
      refine ⟨.inl rfl, _, rfl, ?_⟩
      rw [own_perms o0 hne]
      unfold permV
      rw [if_neg (by omega)]
theorem perms84 : ∀ (n : Nat) (d : DV) (l : List Int), l.length = n → n ≤ 3 → Ints d l → DeepCall Try.prog 84 [d] (permV l)
  | 0, d, l, h, _, hd => by
    have : l = [] := List.length_eq_zero_iff.1 h
    subst this; exact perms0 hd
  | n + 1, d, l, h, h3, hd => permsS hd (by omega) (by omega) fun d2 l2 hd2 hl2 => perms84 l2.length d2 l2 rfl (by omega) hd2
termination_by n => n
end Go.Proofs.Ytdilkpcnkhedlaa

