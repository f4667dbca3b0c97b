import Derived.Test.YtdgahcbalabjdaaGreatZBaA
/-
  Batch: when operations start.
-/
namespace Go.Proofs.YtdgahcbalabjdaaGreat
open Go.Vm Go.Ht Go.Ba
theorem plainTryz_50 : plainFn Tryz.prog 50 = true := by kernel_rfl
set_option maxHeartbeats 1000000 in
set_option maxRecDepth 10000 in
theorem heads68 {a b c : DV} {os ar : List (Int × Int)} (ha : PrD a os) (hb : PrD b ar) (h9 : os.length ≤ 9) (hA : ar.length ≤ 1000000) (hT : Times os) (hin : ArcsIn os.length ar) : DeepCall Tryz.prog 50 [.agg [a, b, c]] (hdR (hds os ar)) := by
  refine deepCall_K 5 Tryz.func50 rfl (Nat.le_of_ble_eq_true rfl) fun M W0 => ?_
  refine KC.seq ?_
  refine KC.region ?_
  refine KT.step rfl rfl (K.box rfl) ?_
  refine KT.step rfl rfl (K.assign rfl) ?_
  refine KT.step rfl rfl (K.assign rfl) ?_
  refine KT.nil ?_
  refine thenK_n ?_
  refine KC.seq ?_
  refine KC.region ?_
  refine KT.step rfl rfl (K.fieldAddrO rfl Tryz.fld47_0 Tryz.size44) ?_
  refine KT.step rfl rfl (K.loadO rfl rfl (by simp) rfl Tryz.agg44) ?_
  refine KT.step rfl rfl (K.lenF rfl ha Tryz.underlying44) ?_
  refine KT.step rfl rfl (K.make (m := os.length) (c := os.length) rfl rfl (Nat.le_refl _) (by omega) Tryz.underlying36 Tryz.one3) ?_
  refine KT.step rfl rfl (K.assign rfl) ?_
  refine KT.nil ?_
  refine thenK_n ?_
  refine KC.seq ?_
  refine KC.seq ?_
  refine KC.region ?_
  refine KT.step rfl rfl (K.fieldAddrO rfl Tryz.fld47_0 Tryz.size44) ?_
  refine KT.step rfl rfl (K.loadO rfl rfl (by simp) rfl Tryz.agg44) ?_
  refine KT.step rfl rfl (K.lenF rfl ha Tryz.underlying44) ?_
  refine KT.step rfl rfl (K.move rfl) ?_
  refine KT.nil ?_
  refine thenK_n ?_
  refine KC.block ?_
  rw [rep_xs]
  refine KC.loop (fun p : List VObj × Nat × List Int => p.1) (fun p => [(1, .optr 0 0), (4, .osl 1 0 os.length 1 os.length true), (15, .d (DI (os.length : Nat))), (16, .d (DI (p.2.1 : Nat)))]) (fun p => p.2.1 ≤ os.length ∧ p.1[0]? = some ⟨[.d a, .d b, .d c], 0⟩ ∧ p.1[1]? = some ⟨xs p.2.2, 0⟩ ∧ p.2.2.length = os.length ∧ Bd ((p.2.1 : Int) * 20000000) p.2.2 ∧ hdsN os ar (os.length - p.2.1) p.2.2 = hds os ar) (fun p => os.length - p.2.1) (_, 0, List.replicate os.length 0) ⟨Nat.zero_le _, rfl, rfl, by simp, by simpa using bd_zero _, rfl⟩ rfl (by simp [Go.Vm.look, extK, enterK]) ?_
  intro p hp
  obtain ⟨σ0, n, hs⟩ := p
  obtain ⟨hn, y0, y1, hlen, hbd, hgo⟩ := hp
  simp only at hn y0 y1 hlen hbd hgo ⊢
  refine KC.seq ?_
  refine KC.region ?_
  refine KT.step rfl rfl (K.lss rfl rfl) ?_
  refine KT.nil ?_
  refine thenK_n ?_
  refine KC.seq ?_
  refine KC.cond rfl (fun hc17 => ?_) (fun hc17 => ?_)
  · skip
    replace hc17 := of_decide_eq_true hc17
    have hnl : n < os.length := by omega
    refine KC.skip ?_
    refine thenK_n ?_
    refine KC.seq ?_
    refine KC.block ?_
    refine KC.seq ?_
    refine KC.region ?_
    refine KT.step rfl rfl (K.assign rfl) ?_
    refine KT.nil ?_
    refine thenK_n ?_
    refine KC.seq ?_
    refine KC.seq ?_
    refine KC.region ?_
    refine KT.step rfl rfl (K.fieldAddrO rfl Tryz.fld47_1 Tryz.size45) ?_
    refine KT.step rfl rfl (K.loadO rfl y0 (by simp) rfl Tryz.agg45) ?_
    refine KT.step rfl rfl (K.lenF rfl hb Tryz.underlying45) ?_
    refine KT.step rfl rfl (K.move rfl) ?_
    refine KT.nil ?_
    refine thenK_n ?_
    refine KC.block ?_
    refine KC.loop (fun p : List VObj × Nat => p.1) (fun p => [(1, .optr 0 0), (4, .osl 1 0 os.length 1 os.length true), (15, .d (DI (os.length : Nat))), (16, .d (DI (n : Nat))), (5, .d (DB ((ar.take p.2).foldl (rlx os) (hs, true)).2)), (19, .d b), (20, .d (DI (ar.length : Nat))), (21, .d (DI (p.2 : Nat)))]) (fun p => p.2 ≤ ar.length ∧ p.1[0]? = some ⟨[.d a, .d b, .d c], 0⟩ ∧ p.1[1]? = some ⟨xs ((ar.take p.2).foldl (rlx os) (hs, true)).1, 0⟩) (fun p => ar.length - p.2) (_, 0) ⟨Nat.zero_le _, y0, y1⟩ rfl (by simp [Go.Vm.look, extK, enterK]) ?_
    intro p hp
    obtain ⟨σ1, i⟩ := p
    obtain ⟨hi, z0, z1⟩ := hp
    simp only at hi z0 z1 ⊢
    refine KC.seq ?_
    refine KC.region ?_
    refine KT.step rfl rfl (K.lss rfl rfl) ?_
    refine KT.nil ?_
    refine thenK_n ?_
    refine KC.seq ?_
    refine KC.cond rfl (fun hc22 => ?_) (fun hc22 => ?_)
    · skip
      replace hc22 := of_decide_eq_true hc22
      have hil : i < ar.length := by omega
      obtain ⟨q1, q2, q3, q4⟩ := hin _ (List.getElem_mem hil)
      have sl : ((ar.take i).foldl (rlx os) (hs, true)).1.length = os.length := (fold_len _ _).trans hlen
      have sb : Bd ((n : Int) * 20000000 + 20 * i) ((ar.take i).foldl (rlx os) (hs, true)).1 := by
        have h := fold_bd hT (ar.take i) (hs, true) ((n : Int) * 20000000) (by omega) (fun x hx => hin x (List.mem_of_mem_take hx)) hbd
        rwa [List.length_take, Nat.min_eq_left (by omega)] at h
      refine KC.skip ?_
      refine thenK_n ?_
      refine KC.seq ?_
      refine KC.block ?_
      refine KC.seq ?_
      refine KC.region ?_
      refine KT.step rfl rfl (K.idxF c2_len (m := i) rfl hb rfl (by omega) Tryz.underlying45 Tryz.size78) ?_
      refine KT.step rfl rfl (K.loadFl (cs := c2 ar[i]) rfl rfl Tryz.agg78 Tryz.size78) ?_
      refine KT.step rfl rfl (K.alloc Tryz.zero78) ?_
      refine KT.storeL (cs := (c2 ar[i]).map .d) rfl rfl rfl rfl rfl rfl rfl Tryz.size78 ?_
      refine KT.nil ?_
      refine thenK_n ?_
      refine KC.seq ?_
      refine KC.draw Tryz.mixed ?_
      refine KT.step rfl rfl (K.move rfl) ?_
      refine KT.step rfl rfl (K.fieldAddrO rfl Tryz.fld78_0 Tryz.size3) ?_
      refine KT.step rfl rfl (K.loadO rfl (List.getElem?_concat_length ..) (by simp) rfl Tryz.agg3) ?_
      refine KT.step rfl rfl (K.idxO (m := ar[i].1.toNat) rfl (by exact congrArg (fun z => some (XV.d (DI z))) (show ar[i].1 = ((ar[i].1).toNat : Int) by omega)) (by omega) Tryz.underlying36 Tryz.size3) ?_
      refine KT.step rfl rfl (K.loadO rfl (get_left z1) (by simp) (xs_gt q1 (by omega)) Tryz.agg3) ?_
      refine KT.step rfl rfl (K.fieldAddrO rfl Tryz.fld47_0 Tryz.size44) ?_
      refine KT.step rfl rfl (K.loadO rfl (get_left z0) (by simp) rfl Tryz.agg44) ?_
      refine KT.step rfl rfl (K.fieldAddrO rfl Tryz.fld78_0 Tryz.size3) ?_
      refine KT.step rfl rfl (K.loadO rfl (List.getElem?_concat_length ..) (by simp) rfl Tryz.agg3) ?_
      refine KT.step rfl rfl (K.idxF c2_len (m := ar[i].1.toNat) rfl ha (by exact congrArg (fun z => some (XV.d (DI z))) (show ar[i].1 = ((ar[i].1).toNat : Int) by omega)) (by omega) Tryz.underlying44 Tryz.size60) ?_
      refine KT.step rfl rfl (K.fieldAddrD rfl Tryz.fld60_1 Tryz.size3) ?_
      refine KT.step rfl rfl (K.load rfl Tryz.agg3) ?_
      have et : os[ar[i].1.toNat].2 = tm os ar[i].1 := (tm_get (by omega) (by omega)).symm
      rw [et]
      have b1 := gt_bd sb (by omega) ar[i].1
      have b2 := tm_bd hT q1 (by omega)
      refine KT.step rfl rfl (K.add rfl rfl (wrap_id (by omega))) ?_
      refine KT.step rfl rfl (K.assign rfl) ?_
      refine KT.nil ?_
      refine ⟨by kernel_rfl, ?_⟩
      refine thenK_n ?_
      refine KC.seq ?_
      refine KC.region ?_
      refine KT.step rfl rfl (K.move rfl) ?_
      refine KT.step rfl rfl (K.move rfl) ?_
      refine KT.step rfl rfl (K.fieldAddrO rfl Tryz.fld78_1 Tryz.size3) ?_
      refine KT.step rfl rfl (K.loadO rfl (List.getElem?_concat_length ..) (by simp) rfl Tryz.agg3) ?_
      refine KT.step rfl rfl (K.idxO (m := ar[i].2.toNat) rfl (by exact congrArg (fun z => some (XV.d (DI z))) (show ar[i].2 = ((ar[i].2).toNat : Int) by omega)) (by omega) Tryz.underlying36 Tryz.size3) ?_
      refine KT.step rfl rfl (K.loadO rfl (get_left z1) (by simp) (xs_gt q3 (by omega)) Tryz.agg3) ?_
      refine KT.step rfl rfl (K.gtr rfl rfl) ?_
      refine KT.nil ?_
      refine thenK_n ?_
      refine KC.cond rfl (fun hc44 => ?_) (fun hc44 => ?_)
      · skip
        replace hc44 := of_decide_eq_true hc44
        refine KC.seq ?_
        refine KC.region ?_
        refine KT.step rfl rfl (K.move rfl) ?_
        refine KT.step rfl rfl (K.fieldAddrO rfl Tryz.fld78_1 Tryz.size3) ?_
        refine KT.step rfl rfl (K.loadO rfl (List.getElem?_concat_length ..) (by simp) rfl Tryz.agg3) ?_
        refine KT.step rfl rfl (K.move rfl) ?_
        refine KT.step rfl rfl (K.idxO (m := ar[i].2.toNat) rfl (by exact congrArg (fun z => some (XV.d (DI z))) (show ar[i].2 = ((ar[i].2).toNat : Int) by omega)) (by omega) Tryz.underlying36 Tryz.size3) ?_
        refine KT.storeG rfl rfl rfl rfl (get_left z1) (by rw [xs_len]; omega) rfl rfl Tryz.size3 fun σ3 l3 u3 v3 => ?_
        have w0 := (v3 0 (by decide)).trans (get_left z0)
        rw [xs_set] at u3
        refine KT.nil ?_
        refine thenK_n ?_
        refine KC.region ?_
        refine KT.step rfl rfl (K.assign rfl) ?_
        refine KT.nil ?_
        refine blockK_n ?_
        refine thenK_n ?_
        refine KC.region ?_
        refine KT.step rfl rfl (K.add rfl rfl (wrap_id (by omega))) ?_
        refine KT.step rfl rfl (K.move rfl) ?_
        refine KT.nil ?_
        refine thenK_n ?_
        have e1 : (ar.take (i + 1)).foldl (rlx os) (hs, true) = (((ar.take i).foldl (rlx os) (hs, true)).1.set ar[i].2.toNat (gt ((ar.take i).foldl (rlx os) (hs, true)).1 ar[i].1 + tm os ar[i].1), false) := by
          rw [fold_take hil, rlx, if_pos hc44]
        refine ⟨(σ3, i + 1), ⟨by simp only; omega, w0, ?_⟩, by simp only; omega, rfl, by simp [Go.Vm.look, extK, e1]⟩
        simp only [e1]; exact u3
      · skip
        replace hc44 := of_decide_eq_false hc44
        refine KC.skip ?_
        refine blockK_n ?_
        refine thenK_n ?_
        refine KC.region ?_
        refine KT.step rfl rfl (K.add rfl rfl (wrap_id (by omega))) ?_
        refine KT.step rfl rfl (K.move rfl) ?_
        refine KT.nil ?_
        refine thenK_n ?_
        have e1 : (ar.take (i + 1)).foldl (rlx os) (hs, true) = ((ar.take i).foldl (rlx os) (hs, true)) := by
          rw [fold_take hil, rlx, if_neg hc44]
        refine ⟨(σ1 ++ [⟨(c2 ar[i]).map .d, 0⟩], i + 1), ⟨by simp only; omega, get_left z0, ?_⟩, by simp only; omega, rfl, by simp [Go.Vm.look, extK, e1]⟩
        simp only [e1]; exact get_left z1
    · skip
      replace hc22 := of_decide_eq_false hc22
      have ei : ar.take i = ar := List.take_of_length_le (by omega)
      rw [ei] at z1 ⊢
      refine KC.exit ?_
      refine thenK_x ?_
      refine thenK_x ?_
      refine blockK_e ?_
      refine thenK_n ?_
      refine KC.seq ?_
      refine KC.region ?_
      refine KT.step rfl rfl (K.move rfl) ?_
      refine KT.nil ?_
      refine thenK_n ?_
      refine KC.cond rfl (fun hc51 => ?_) (fun hc51 => ?_)
      · skip
        refine KC.seq ?_
        refine KC.region ?_
        refine KT.step rfl rfl (K.move rfl) ?_
        refine KT.step rfl rfl (K.assign rfl) ?_
        refine KT.step rfl rfl (K.assign rfl) ?_
        refine KT.nil ?_
        refine thenK_n ?_
        refine KC.ret ?_
        refine blockK_r ?_
        refine thenK_r ?_
        refine thenK_r ?_
        refine blockK_r ?_
        refine thenK_r ?_
        rw [show os.length - n = (os.length - (n + 1)) + 1 by omega, hdsN, if_pos (show (rnd os ar hs).2 = true from hc51)] at hgo
        rw [← hgo]
        exact ⟨.inl rfl, _, rfl, deepen_tup2 (own_make z1 ((fold_len _ _).trans hlen))⟩
      · skip
        refine KC.skip ?_
        refine blockK_n ?_
        refine thenK_n ?_
        refine KC.region ?_
        refine KT.step rfl rfl (K.add rfl rfl (wrap_id (by omega))) ?_
        refine KT.step rfl rfl (K.move rfl) ?_
        refine KT.nil ?_
        refine thenK_n ?_
        refine ⟨(σ1, n + 1, (rnd os ar hs).1), ⟨by simp only; omega, z0, z1, (fold_len _ _).trans hlen, ?_, ?_⟩, by simp only; omega, rfl, by simp [Go.Vm.look, extK]⟩
        · have h := fold_bd hT ar (hs, true) ((n : Int) * 20000000) (by omega) hin hbd
          intro x hx
          have := h x hx
          simp only; omega
        · rw [show os.length - n = (os.length - (n + 1)) + 1 by omega, hdsN] at hgo
          rw [if_neg (by rw [show (rnd os ar hs).2 = false from hc51]; decide)] at hgo
          exact hgo
  · skip
    replace hc17 := of_decide_eq_false hc17
    refine KC.exit ?_
    refine thenK_x ?_
    refine thenK_x ?_
    refine blockK_e ?_
    refine thenK_n ?_
    refine KC.seq ?_
    refine KC.region ?_
    refine KT.step rfl rfl (K.assign rfl) ?_
    refine KT.step rfl rfl (K.assign rfl) ?_
    refine KT.nil ?_
    refine thenK_n ?_
    refine KC.ret ?_
    rw [show os.length - n = 0 by omega, hdsN] at hgo
    rw [← hgo]
    exact ⟨.inl rfl, _, rfl, rfl⟩
set_option maxRecDepth 10000 in
theorem span46 {a b c d : DV} {os : List (Int × Int)} {hs : List Int} (ha : PrD a os) (hd : Ints d hs) (hn : hs.length = os.length) (h9 : os.length ≤ 9) (hT : Times os) (hB : Bd 1000000000 hs) : DeepCall Tryz.prog 49 [.agg [a, b, c], d] (DI (spanO os hs)) := by
  refine deepCall_K 5 Tryz.func49 rfl (Nat.le_of_ble_eq_true rfl) fun M W0 => ?_
  refine KC.seq ?_
  refine KC.region ?_
  refine KT.step rfl rfl (K.box rfl) ?_
  refine KT.step rfl rfl (K.assign rfl) ?_
  refine KT.nil ?_
  refine thenK_n ?_
  refine KC.seq ?_
  refine KC.region ?_
  refine KT.step rfl rfl (K.assign rfl) ?_
  refine KT.nil ?_
  refine thenK_n ?_
  refine KC.seq ?_
  refine KC.seq ?_
  refine KC.region ?_
  refine KT.step rfl rfl (K.fieldAddrO rfl Tryz.fld47_0 Tryz.size44) ?_
  refine KT.step rfl rfl (K.loadO rfl rfl (by simp) rfl Tryz.agg44) ?_
  refine KT.step rfl rfl (K.lenF rfl ha Tryz.underlying44) ?_
  refine KT.step rfl rfl (K.move rfl) ?_
  refine KT.nil ?_
  refine thenK_n ?_
  refine KC.block ?_
  refine KC.loop (fun p : List VObj × Nat => p.1) (fun p => [(1, .d d), (2, .optr 0 0), (5, .d (DI (spanT os hs p.2))), (9, .d a), (10, .d (DI (os.length : Nat))), (11, .d (DI (p.2 : Nat)))]) (fun p => p.2 ≤ os.length) (fun p => os.length - p.2) (_, 0) (Nat.zero_le _) rfl (by simp [Go.Vm.look, extK, enterK, spanT]) ?_
  intro p hk
  obtain ⟨σ0, k⟩ := p
  simp only at hk ⊢
  refine KC.seq ?_
  refine KC.region ?_
  refine KT.step rfl rfl (K.lss rfl rfl) ?_
  refine KT.nil ?_
  refine thenK_n ?_
  refine KC.seq ?_
  refine KC.cond rfl (fun hc12 => ?_) (fun hc12 => ?_)
  · skip
    replace hc12 := of_decide_eq_true hc12
    have hkl : k < os.length := by omega
    refine KC.skip ?_
    refine thenK_n ?_
    refine KC.seq ?_
    refine KC.block ?_
    refine KC.seq ?_
    refine KC.region ?_
    refine KT.step rfl rfl (K.move rfl) ?_
    refine KT.step rfl rfl (K.idxF c2_len (m := k) rfl ha rfl (by omega) Tryz.underlying44 Tryz.size60) ?_
    refine KT.step rfl rfl (K.loadFl (cs := c2 os[k]) rfl rfl Tryz.agg60 Tryz.size60) ?_
    refine KT.step rfl rfl (K.alloc Tryz.zero60) ?_
    refine KT.step rfl rfl (K.assign rfl) ?_
    refine KT.storeL (cs := (c2 os[k]).map .d) rfl rfl rfl rfl rfl rfl rfl Tryz.size60 ?_
    refine KT.nil ?_
    refine thenK_n ?_
    refine KC.draw Tryz.mixed ?_
    refine KT.step rfl rfl (K.move rfl) ?_
    refine KT.step rfl rfl (K.move rfl) ?_
    refine KT.step rfl rfl (K.move rfl) ?_
    refine KT.idxI rfl rfl rfl (by assumption) rfl (by omega) Tryz.underlying36 Tryz.size3 fun cs19 => ?_
    refine KT.step rfl rfl (K.load rfl Tryz.agg3) ?_
    refine KT.step rfl rfl (K.fieldAddrO rfl Tryz.fld60_1 Tryz.size3) ?_
    refine KT.step rfl rfl (K.loadO rfl (List.getElem?_concat_length ..) (by simp) rfl Tryz.agg3) ?_
    have e1 : hs[k] = gt hs (k : Nat) := (gt_get (by omega) rfl).symm
    have e2 : os[k].2 = tm os (k : Nat) := (tm_get (by omega) rfl).symm
    rw [e1, e2]
    have b1 := gt_bd hB (by omega) (k : Nat)
    have b2 := tm_bd hT (i := (k : Nat)) (by omega) (by omega)
    refine KT.step rfl rfl (K.add rfl rfl (wrap_id (by omega))) ?_
    refine KT.step rfl rfl (K.max2 rfl rfl) ?_
    refine KT.step rfl rfl (K.assign rfl) ?_
    refine KT.nil ?_
    refine ⟨by kernel_rfl, ?_⟩
    refine blockK_n ?_
    refine thenK_n ?_
    refine KC.region ?_
    refine KT.step rfl rfl (K.add rfl rfl (wrap_id (by omega))) ?_
    refine KT.step rfl rfl (K.move rfl) ?_
    refine KT.nil ?_
    refine thenK_n ?_
    refine ⟨(_, k + 1), by simp only; omega, by simp only; omega, rfl, by simp [Go.Vm.look, extK, spanT_succ]⟩
  · skip
    replace hc12 := of_decide_eq_false hc12
    refine KC.exit ?_
    refine thenK_x ?_
    refine thenK_x ?_
    refine blockK_e ?_
    refine thenK_n ?_
    refine KC.seq ?_
    refine KC.region ?_
    refine KT.step rfl rfl (K.move rfl) ?_
    refine KT.step rfl rfl (K.assign rfl) ?_
    refine KT.nil ?_
    refine thenK_n ?_
    refine KC.ret ?_
    rw [show k = os.length by omega]
    exact ⟨.inl rfl, _, rfl, fin_d rfl⟩
end Go.Proofs.YtdgahcbalabjdaaGreat

