import Derived.Test.YtdgahcbalabjdaaGreatZBaM
/-
  Batch: the reference: ends.
-/
namespace Go.Proofs.YtdgahcbalabjdaaGreat
open Go.Vm Go.Ht Go.Ba
theorem plainTryz_44 : plainFn Tryz.prog 44 = true := by kernel_rfl
theorem mid_get {α : Type} {A t : List α} {a : α} : ((A ++ [a]) ++ t)[A.length]? = some a := by
  rw [List.append_assoc, List.getElem?_append_right (Nat.le_refl _)]; simp
theorem mid_set {α : Type} {A t : List α} {a b : α} : ((A ++ [a]) ++ t).set A.length b = (A ++ [b]) ++ t := by
  rw [List.append_assoc, List.append_assoc, List.set_append_right _ _ (Nat.le_refl _)]; simp
/-- Ends: the times and how long it takes. -/
def addT (os : List (Int × Int)) (hs : List Int) : List Int := (List.range hs.length).map fun i => gt hs (i : Nat) + tm os (i : Nat)
theorem addT_len (os : List (Int × Int)) (hs : List Int) : (addT os hs).length = hs.length := by simp [addT]
theorem addT_gt {os : List (Int × Int)} {hs : List Int} {i : Int} (h0 : 0 ≤ i) (h1 : i < hs.length) : gt (addT os hs) i = gt hs i + tm os i := by
  rw [gt_get (show i.toNat < (addT os hs).length by rw [addT_len]; omega) (by omega)]
  simp only [addT, List.getElem_map, List.getElem_range]
  rw [show ((i.toNat : Nat) : Int) = i by omega]
theorem addT_set {os : List (Int × Int)} {hs : List Int} {k : Int} {v : Int} (h0 : 0 ≤ k) (h1 : k < hs.length) : (addT os hs).set k.toNat (v + tm os k) = addT os (hs.set k.toNat v) := by
  apply List.ext_getElem
  · simp [addT]
  · intro i h2 h3
    rw [List.length_set, addT_len] at h2
    rw [List.getElem_set]
    simp only [addT, List.getElem_map, List.getElem_range]
    rw [gt_set h0 h1 (by omega)]
    by_cases e : k.toNat = i
    · rw [if_pos e, if_pos (by omega), show ((i : Nat) : Int) = k by omega]
    · rw [if_neg e, if_neg (by omega)]
/-- The first times. -/
def begT (os : List (Int × Int)) (k : Nat) : List Int := (List.range os.length).map fun i => if i < k then tm os (i : Nat) else 0
theorem begT_len (os : List (Int × Int)) (k : Nat) : (begT os k).length = os.length := by simp [begT]
theorem begT_zero (os : List (Int × Int)) : begT os 0 = List.replicate os.length 0 := by
  apply List.ext_getElem <;> simp [begT]
theorem begT_set {os : List (Int × Int)} {k : Nat} (hk : k < os.length) : (begT os k).set k os[k].2 = begT os (k + 1) := by
  apply List.ext_getElem
  · simp [begT]
  · intro i h1 h2
    rw [List.getElem_set]
    simp only [begT, List.getElem_map, List.getElem_range]
    by_cases e : k = i
    · subst e
      rw [if_pos rfl, if_pos (by omega), tm_get hk rfl]
    · rw [if_neg e]
      by_cases h : i < k
      · rw [if_pos h, if_pos (by omega)]
      · rw [if_neg h, if_neg (by omega)]
theorem begT_end (os : List (Int × Int)) : begT os os.length = addT os (List.replicate os.length 0) := by
  apply List.ext_getElem
  · simp [begT, addT]
  · intro i h1 h2
    rw [begT_len] at h1
    simp only [begT, addT, List.getElem_map, List.getElem_range]
    rw [if_pos h1, gt_rep]; omega
set_option maxHeartbeats 1000000 in
set_option maxRecDepth 10000 in
theorem rendsI43 {M : Nat → Prop} {W0 : World} {σ : List VObj} {a b : DV} {os ar : List (Int × Int)} (ha : PrD a os) (hb : PrD b ar) (h9 : os.length ≤ 9) (hA : ar.length ≤ 1000000) (hT : Times os) (hin : ArcsIn os.length ar) (h1 : 1 ≤ os.length) : InCall Tryz.prog M W0 44 σ [.d a, .d b] (fun σ2 x => (∀ hs, hds os ar = some hs → x = .tup [.osl σ.length 0 os.length 1 os.length true, .d (DB true)] ∧ ∃ τ, σ2 = (σ ++ [⟨xs (addT os hs), 0⟩]) ++ τ) ∧ (hds os ar = none → x = .tup [.d Dnil, .d (DB false)] ∧ ∃ τ, σ2 = σ ++ τ)) := by
  refine inCall_K Tryz.func44 rfl (Nat.le_of_ble_eq_true rfl) ?_
  refine KC.seq ?_
  refine KC.region ?_
  refine KT.step rfl rfl (K.assign rfl) ?_
  refine KT.step rfl rfl (K.assign rfl) ?_
  refine KT.nil ?_
  refine thenK_n ?_
  refine KC.seq ?_
  refine KC.region ?_
  refine KT.step rfl rfl (K.move rfl) ?_
  refine KT.step rfl rfl (K.lenF rfl ha Tryz.underlying57) ?_
  refine KT.step rfl rfl (K.make (m := os.length) (c := os.length) rfl rfl (Nat.le_refl _) (by omega) Tryz.underlying36 Tryz.one3) ?_
  refine KT.step rfl rfl (K.assign rfl) ?_
  refine KT.nil ?_
  refine thenK_n ?_
  refine KC.seq ?_
  refine KC.seq ?_
  refine KC.region ?_
  refine KT.step rfl rfl (K.move rfl) ?_
  refine KT.step rfl rfl (K.lenF rfl ha Tryz.underlying57) ?_
  refine KT.step rfl rfl (K.move rfl) ?_
  refine KT.nil ?_
  refine thenK_n ?_
  refine KC.block ?_
  rw [rep_xs]
  refine KC.loop (fun p : List VObj × Nat => p.1) (fun p => [(0, .d a), (1, .d b), (6, .osl σ.length 0 os.length 1 os.length true), (16, .d a), (17, .d (DI (os.length : Nat))), (18, .d (DI (p.2 : Nat)))]) (fun p => p.2 ≤ os.length ∧ ∃ τ, p.1 = (σ ++ [⟨xs (begT os p.2), 0⟩]) ++ τ) (fun p => os.length - p.2) (_, 0) ⟨Nat.zero_le _, [], by rw [begT_zero]; simp⟩ rfl (by simp [Go.Vm.look, extK, enterK]) ?_
  intro p hp
  obtain ⟨σ0, i⟩ := p
  obtain ⟨hi, τ, hτ⟩ := hp
  simp only at hi hτ ⊢
  refine KC.seq ?_
  refine KC.region ?_
  refine KT.step rfl rfl (K.lss rfl rfl) ?_
  refine KT.nil ?_
  refine thenK_n ?_
  refine KC.seq ?_
  refine KC.cond rfl (fun hc19 => ?_) (fun hc19 => ?_)
  · skip
    replace hc19 := of_decide_eq_true hc19
    have hil : i < os.length := by omega
    refine KC.skip ?_
    refine thenK_n ?_
    refine KC.seq ?_
    refine KC.block ?_
    refine KC.seq ?_
    refine KC.region ?_
    refine KT.step rfl rfl (K.move rfl) ?_
    refine KT.step rfl rfl (K.idxF c2_len (m := i) rfl ha rfl (by omega) Tryz.underlying57 Tryz.size59) ?_
    refine KT.step rfl rfl (K.loadFl (cs := c2 os[i]) rfl rfl Tryz.agg59 Tryz.size59) ?_
    refine KT.step rfl rfl (K.alloc Tryz.zero59) ?_
    refine KT.step rfl rfl (K.assign rfl) ?_
    refine KT.storeL (cs := (c2 os[i]).map .d) rfl rfl rfl rfl rfl rfl rfl Tryz.size59 ?_
    refine KT.nil ?_
    refine thenK_n ?_
    refine KC.region ?_
    refine KT.step rfl rfl (K.move rfl) ?_
    refine KT.step rfl rfl (K.move rfl) ?_
    refine KT.step rfl rfl (K.fieldAddrO rfl Tryz.fld59_1 Tryz.size3) ?_
    refine KT.step rfl rfl (K.loadO rfl (List.getElem?_concat_length ..) (by simp) rfl Tryz.agg3) ?_
    refine KT.step rfl rfl (K.idxO (m := i) rfl rfl (by omega) Tryz.underlying36 Tryz.size3) ?_
    refine KT.step rfl rfl (K.storeO rfl rfl (by rw [hτ]; exact get_left mid_get) (by rw [xs_len, begT_len]; omega) rfl rfl Tryz.size3) ?_
    refine KT.nil ?_
    refine blockK_n ?_
    refine thenK_n ?_
    refine KC.region ?_
    refine KT.step rfl rfl (K.add rfl rfl (wrap_id (by omega))) ?_
    refine KT.step rfl rfl (K.move rfl) ?_
    refine KT.nil ?_
    refine thenK_n ?_
    refine ⟨(_, i + 1), ⟨by simp only; omega, τ ++ [⟨(c2 os[i]).map .d, 0⟩], ?_⟩, by simp only; omega, rfl, by simp [Go.Vm.look, extK]⟩
    simp only
    rw [hτ, List.append_assoc _ τ, mid_set, xs_set, begT_set hil]
  · skip
    replace hc19 := of_decide_eq_false hc19
    refine KC.exit ?_
    refine thenK_x ?_
    refine thenK_x ?_
    refine blockK_e ?_
    refine thenK_n ?_
    refine KC.seq ?_
    refine KC.seq ?_
    refine KC.region ?_
    refine KT.step rfl rfl (K.move rfl) ?_
    refine KT.step rfl rfl (K.lenF rfl ha Tryz.underlying57) ?_
    refine KT.step rfl rfl (K.move rfl) ?_
    refine KT.nil ?_
    refine thenK_n ?_
    refine KC.block ?_
    have e0 : i = os.length := by omega
    rw [e0, begT_end] at hτ
    refine KC.loop (fun p : List VObj × Nat × List Int => p.1) (fun p => [(0, .d a), (1, .d b), (6, .osl σ.length 0 os.length 1 os.length true), (30, .d (DI (os.length : Nat))), (31, .d (DI (p.2.1 : Nat)))]) (fun p => p.2.1 ≤ os.length ∧ (∃ τ, p.1 = (σ ++ [⟨xs (addT os p.2.2), 0⟩]) ++ τ) ∧ p.2.2.length = os.length ∧ Bd ((p.2.1 : Int) * 20000000) p.2.2 ∧ hdsN os ar (os.length - p.2.1) p.2.2 = hds os ar) (fun p => os.length - p.2.1) (_, 0, List.replicate os.length 0) ⟨Nat.zero_le _, ⟨τ, hτ⟩, by simp, by simpa using bd_zero _, rfl⟩ rfl (by simp [Go.Vm.look, extK]) ?_
    intro p hp
    obtain ⟨σ0, n, hs⟩ := p
    obtain ⟨hn, ⟨τ0, hτ0⟩, hlen, hbd, hgo⟩ := hp
    simp only at hn hτ0 hlen hbd hgo ⊢
    refine KC.seq ?_
    refine KC.region ?_
    refine KT.step rfl rfl (K.lss rfl rfl) ?_
    refine KT.nil ?_
    refine thenK_n ?_
    refine KC.seq ?_
    refine KC.cond rfl (fun hc32 => ?_) (fun hc32 => ?_)
    · skip
      replace hc32 := of_decide_eq_true hc32
      have hnl : n < os.length := by omega
      refine KC.skip ?_
      refine thenK_n ?_
      refine KC.seq ?_
      refine KC.block ?_
      refine KC.seq ?_
      refine KC.region ?_
      refine KT.step rfl rfl (K.assign rfl) ?_
      refine KT.nil ?_
      refine thenK_n ?_
      refine KC.seq ?_
      refine KC.seq ?_
      refine KC.region ?_
      refine KT.step rfl rfl (K.move rfl) ?_
      refine KT.step rfl rfl (K.lenF rfl hb Tryz.underlying63) ?_
      refine KT.step rfl rfl (K.move rfl) ?_
      refine KT.nil ?_
      refine thenK_n ?_
      refine KC.block ?_
      refine KC.loop (fun p : List VObj × Nat => p.1) (fun p => [(0, .d a), (1, .d b), (6, .osl σ.length 0 os.length 1 os.length true), (30, .d (DI (os.length : Nat))), (31, .d (DI (n : Nat))), (9, .d (DB (!((ar.take p.2).foldl (rlx os) (hs, true)).2))), (33, .d b), (34, .d (DI (ar.length : Nat))), (35, .d (DI (p.2 : Nat)))]) (fun p => p.2 ≤ ar.length ∧ ∃ τ, p.1 = (σ ++ [⟨xs (addT os ((ar.take p.2).foldl (rlx os) (hs, true)).1), 0⟩]) ++ τ) (fun p => ar.length - p.2) (_, 0) ⟨Nat.zero_le _, τ0, hτ0⟩ rfl (by simp [Go.Vm.look, extK]) ?_
      intro p hp
      obtain ⟨σ1, i⟩ := p
      obtain ⟨hi, τ1, hτ1⟩ := hp
      simp only at hi hτ1 ⊢
      have z1 : σ1[σ.length]? = some ⟨xs (addT os ((ar.take i).foldl (rlx os) (hs, true)).1), 0⟩ := by rw [hτ1]; exact mid_get
      refine KC.seq ?_
      refine KC.region ?_
      refine KT.step rfl rfl (K.lss rfl rfl) ?_
      refine KT.nil ?_
      refine thenK_n ?_
      refine KC.seq ?_
      refine KC.cond rfl (fun hc36 => ?_) (fun hc36 => ?_)
      · skip
        replace hc36 := of_decide_eq_true hc36
        have hil : i < ar.length := by omega
        obtain ⟨q1, q2, q3, q4⟩ := hin _ (List.getElem_mem hil)
        have sl : ((ar.take i).foldl (rlx os) (hs, true)).1.length = os.length := (fold_len _ _).trans hlen
        have g1 := addT_gt (os := os) (hs := ((ar.take i).foldl (rlx os) (hs, true)).1) q1 (by omega)
        have g2 := addT_gt (os := os) (hs := ((ar.take i).foldl (rlx os) (hs, true)).1) q3 (by omega)
        have sb : Bd ((n : Int) * 20000000 + 20 * i) ((ar.take i).foldl (rlx os) (hs, true)).1 := by
          have h := fold_bd hT (ar.take i) (hs, true) ((n : Int) * 20000000) (by omega) (fun x hx => hin x (List.mem_of_mem_take hx)) hbd
          rwa [List.length_take, Nat.min_eq_left (by omega)] at h
        refine KC.skip ?_
        refine thenK_n ?_
        refine KC.seq ?_
        refine KC.block ?_
        refine KC.seq ?_
        refine KC.region ?_
        refine KT.step rfl rfl (K.idxF c2_len (m := i) rfl hb rfl (by omega) Tryz.underlying63 Tryz.size65) ?_
        refine KT.step rfl rfl (K.loadFl (cs := c2 ar[i]) rfl rfl Tryz.agg65 Tryz.size65) ?_
        refine KT.step rfl rfl (K.alloc Tryz.zero65) ?_
        refine KT.storeL (cs := (c2 ar[i]).map .d) rfl rfl rfl rfl rfl rfl rfl Tryz.size65 ?_
        refine KT.nil ?_
        refine thenK_n ?_
        refine KC.seq ?_
        refine KC.draw Tryz.mixed ?_
        refine KT.step rfl rfl (K.move rfl) ?_
        refine KT.step rfl rfl (K.idxA (m := 0) rfl rfl (by decide) Tryz.underlying65 Tryz.size3) ?_
        refine KT.step rfl rfl (K.loadO (y := .d (DI ar[i].1)) rfl (List.getElem?_concat_length ..) (by simp) rfl Tryz.agg3) ?_
        refine KT.step rfl rfl (K.idxO (m := ar[i].1.toNat) rfl (by exact congrArg (fun z => some (XV.d (DI z))) (show ar[i].1 = ((ar[i].1).toNat : Int) by omega)) (by omega) Tryz.underlying36 Tryz.size3) ?_
        refine KT.step rfl rfl (K.loadO rfl (get_left z1) (by simp) (xs_gt q1 (by rw [addT_len]; omega)) Tryz.agg3) ?_
        refine KT.step rfl rfl (K.move rfl) ?_
        refine KT.step rfl rfl (K.idxA (m := 1) rfl rfl (by decide) Tryz.underlying65 Tryz.size3) ?_
        refine KT.step rfl rfl (K.loadO (y := .d (DI ar[i].2)) rfl (List.getElem?_concat_length ..) (by simp) rfl Tryz.agg3) ?_
        refine KT.step rfl rfl (K.idxF c2_len (m := ar[i].2.toNat) rfl ha (by exact congrArg (fun z => some (XV.d (DI z))) (show ar[i].2 = ((ar[i].2).toNat : Int) by omega)) (by omega) Tryz.underlying57 Tryz.size59) ?_
        refine KT.step rfl rfl (K.fieldAddrD rfl Tryz.fld59_1 Tryz.size3) ?_
        refine KT.step rfl rfl (K.load rfl Tryz.agg3) ?_
        have et : os[ar[i].2.toNat].2 = tm os ar[i].2 := (tm_get (by omega) (by omega)).symm
        rw [et, g1]
        have b1 := gt_bd sb (by omega) ar[i].1
        have b2 := tm_bd hT q1 (by omega)
        have b3 := tm_bd hT q3 (by omega)
        refine KT.step rfl rfl (K.add rfl rfl (wrap_id (by omega))) ?_
        refine KT.step rfl rfl (K.assign rfl) ?_
        refine KT.nil ?_
        refine ⟨by kernel_rfl, ?_⟩
        refine thenK_n ?_
        refine KC.seq ?_
        refine KC.region ?_
        refine KT.step rfl rfl (K.move rfl) ?_
        refine KT.step rfl rfl (K.move rfl) ?_
        refine KT.step rfl rfl (K.idxA (m := 1) rfl rfl (by decide) Tryz.underlying65 Tryz.size3) ?_
        refine KT.step rfl rfl (K.loadO (y := .d (DI ar[i].2)) rfl (List.getElem?_concat_length ..) (by simp) rfl Tryz.agg3) ?_
        refine KT.step rfl rfl (K.idxO (m := ar[i].2.toNat) rfl (by exact congrArg (fun z => some (XV.d (DI z))) (show ar[i].2 = ((ar[i].2).toNat : Int) by omega)) (by omega) Tryz.underlying36 Tryz.size3) ?_
        refine KT.step rfl rfl (K.loadO rfl (get_left z1) (by simp) (xs_gt q3 (by rw [addT_len]; omega)) Tryz.agg3) ?_
        rw [g2]
        refine KT.step rfl rfl (K.gtr rfl rfl) ?_
        refine KT.nil ?_
        refine thenK_n ?_
        refine KC.cond rfl (fun hc57 => ?_) (fun hc57 => ?_)
        · skip
          replace hc57 := of_decide_eq_true hc57
          refine KC.seq ?_
          refine KC.region ?_
          refine KT.step rfl rfl (K.move rfl) ?_
          refine KT.step rfl rfl (K.idxA (m := 1) rfl rfl (by decide) Tryz.underlying65 Tryz.size3) ?_
          refine KT.step rfl rfl (K.loadO (y := .d (DI ar[i].2)) rfl (List.getElem?_concat_length ..) (by simp) rfl Tryz.agg3) ?_
          refine KT.step rfl rfl (K.move rfl) ?_
          refine KT.step rfl rfl (K.idxO (m := ar[i].2.toNat) rfl (by exact congrArg (fun z => some (XV.d (DI z))) (show ar[i].2 = ((ar[i].2).toNat : Int) by omega)) (by omega) Tryz.underlying36 Tryz.size3) ?_
          refine KT.step rfl rfl (K.storeO rfl rfl (get_left z1) (by rw [xs_len, addT_len]; omega) rfl rfl Tryz.size3) ?_
          refine KT.nil ?_
          refine thenK_n ?_
          refine KC.region ?_
          refine KT.step rfl rfl (K.assign rfl) ?_
          refine KT.nil ?_
          refine blockK_n ?_
          refine thenK_n ?_
          refine KC.region ?_
          refine KT.step rfl rfl (K.add rfl rfl (wrap_id (by omega))) ?_
          refine KT.step rfl rfl (K.move rfl) ?_
          refine KT.nil ?_
          refine thenK_n ?_
          have hlt : gt ((ar.take i).foldl (rlx os) (hs, true)).1 ar[i].2 < gt ((ar.take i).foldl (rlx os) (hs, true)).1 ar[i].1 + tm os ar[i].1 := by omega
          have e1 : (ar.take (i + 1)).foldl (rlx os) (hs, true) = (((ar.take i).foldl (rlx os) (hs, true)).1.set ar[i].2.toNat (gt ((ar.take i).foldl (rlx os) (hs, true)).1 ar[i].1 + tm os ar[i].1), false) := by
            rw [fold_take hil, rlx, if_pos hlt]
          refine ⟨(_, i + 1), ⟨by simp only; omega, τ1 ++ [⟨(c2 ar[i]).map .d, 0⟩], ?_⟩, by simp only; omega, rfl, by simp [Go.Vm.look, extK, e1]⟩
          simp only [e1]
          rw [hτ1, List.append_assoc _ τ1, mid_set, xs_set, addT_set q3 (by omega)]
        · skip
          replace hc57 := of_decide_eq_false hc57
          refine KC.skip ?_
          refine blockK_n ?_
          refine thenK_n ?_
          refine KC.region ?_
          refine KT.step rfl rfl (K.add rfl rfl (wrap_id (by omega))) ?_
          refine KT.step rfl rfl (K.move rfl) ?_
          refine KT.nil ?_
          refine thenK_n ?_
          have hge : ¬ gt ((ar.take i).foldl (rlx os) (hs, true)).1 ar[i].2 < gt ((ar.take i).foldl (rlx os) (hs, true)).1 ar[i].1 + tm os ar[i].1 := by omega
          have e1 : (ar.take (i + 1)).foldl (rlx os) (hs, true) = ((ar.take i).foldl (rlx os) (hs, true)) := by
            rw [fold_take hil, rlx, if_neg hge]
          refine ⟨(_, i + 1), ⟨by simp only; omega, τ1 ++ [⟨(c2 ar[i]).map .d, 0⟩], ?_⟩, by simp only; omega, rfl, by simp [Go.Vm.look, extK, e1]⟩
          simp only [e1]
          rw [hτ1, List.append_assoc _ τ1]
      · skip
        replace hc36 := of_decide_eq_false hc36
        have ei : ar.take i = ar := List.take_of_length_le (by omega)
        rw [ei] at hτ1 ⊢
        refine KC.exit ?_
        refine thenK_x ?_
        refine thenK_x ?_
        refine blockK_e ?_
        refine thenK_n ?_
        refine KC.seq ?_
        refine KC.region ?_
        refine KT.step rfl rfl (K.move rfl) ?_
        refine KT.step rfl rfl (K.not rfl) ?_
        refine KT.nil ?_
        refine thenK_n ?_
        refine KC.cond rfl (fun hc65 => ?_) (fun hc65 => ?_)
        · skip
          refine KC.seq ?_
          refine KC.region ?_
          refine KT.step rfl rfl (K.move rfl) ?_
          refine KT.step rfl rfl (K.assign rfl) ?_
          refine KT.step rfl rfl (K.assign rfl) ?_
          refine KT.nil ?_
          refine thenK_n ?_
          refine KC.ret ?_
          refine blockK_r ?_
          refine thenK_r ?_
          refine thenK_r ?_
          refine blockK_r ?_
          refine thenK_r ?_
          have hb2 : (rnd os ar hs).2 = true := by have h := hc65; simp at h; exact h
          rw [show os.length - n = (os.length - (n + 1)) + 1 by omega, hdsN, if_pos hb2] at hgo
          refine ⟨.inl rfl, _, rfl, fun q hq => ?_, fun hq => ?_⟩
          · rw [hq] at hgo; cases hgo
            exact ⟨rfl, τ1, hτ1⟩
          · rw [hq] at hgo; cases hgo
        · skip
          refine KC.skip ?_
          refine blockK_n ?_
          refine thenK_n ?_
          refine KC.region ?_
          refine KT.step rfl rfl (K.add rfl rfl (wrap_id (by omega))) ?_
          refine KT.step rfl rfl (K.move rfl) ?_
          refine KT.nil ?_
          refine thenK_n ?_
          refine ⟨(σ1, n + 1, (rnd os ar hs).1), ⟨by simp only; omega, ⟨τ1, hτ1⟩, (fold_len _ _).trans hlen, ?_, ?_⟩, by simp only; omega, rfl, by simp [Go.Vm.look, extK]⟩
          · have h := fold_bd hT ar (hs, true) ((n : Int) * 20000000) (by omega) hin hbd
            intro x hx
            have := h x hx
            simp only; omega
          · have hb2 : (rnd os ar hs).2 = false := by have h := hc65; simp at h; exact h
            rw [show os.length - n = (os.length - (n + 1)) + 1 by omega, hdsN] at hgo
            rw [if_neg (by rw [hb2]; decide)] at hgo
            exact hgo
    · skip
      replace hc32 := of_decide_eq_false hc32
      refine KC.exit ?_
      refine thenK_x ?_
      refine thenK_x ?_
      refine blockK_e ?_
      refine thenK_n ?_
      refine KC.seq ?_
      refine KC.region ?_
      refine KT.step rfl rfl (K.assign rfl) ?_
      refine KT.step rfl rfl (K.assign rfl) ?_
      refine KT.nil ?_
      refine thenK_n ?_
      refine KC.ret ?_
      rw [show os.length - n = 0 by omega, hdsN] at hgo
      refine ⟨.inl rfl, _, rfl, fun q hq => ?_, fun hq => ⟨rfl, _, by rw [hτ0, List.append_assoc]⟩⟩
      rw [hq] at hgo; cases hgo
theorem xs_deep {zs : List Int} : ∀ (i : Nat) (x : XV), (xs zs)[i]? = some x → ∃ d, x = .d d := fun i x h => by
  simp only [xs, List.getElem?_map, Option.map_eq_some_iff] at h
  obtain ⟨z, _, rfl⟩ := h
  exact ⟨_, rfl⟩
theorem rends_some {a b : DV} {os ar : List (Int × Int)} (ha : PrD a os) (hb : PrD b ar) (h9 : os.length ≤ 9) (hA : ar.length ≤ 1000000) (hT : Times os) (hin : ArcsIn os.length ar) (h1 : 1 ≤ os.length) {hs : List Int} (hh : hds os ar = some hs) {σ : List VObj} : OwnCall Tryz.prog 44 σ [.d a, .d b] (σ ++ [⟨xs (addT os hs), 0⟩]) (.tup [.osl σ.length 0 os.length 1 os.length true, .d (DB true)]) :=
  ownKeep_I (show (0 : Nat) < 2 by decide) xs_deep fun M W0 => (rendsI43 ha hb h9 hA hT hin h1).weak fun σ2 x hq => hq.1 hs hh
theorem rends_none {a b : DV} {os ar : List (Int × Int)} (ha : PrD a os) (hb : PrD b ar) (h9 : os.length ≤ 9) (hA : ar.length ≤ 1000000) (hT : Times os) (hin : ArcsIn os.length ar) (h1 : 1 ≤ os.length) (hh : hds os ar = none) {σ : List VObj} : OwnCall Tryz.prog 44 σ [.d a, .d b] σ (.d (.tup [Dnil, DB false])) :=
  ownDrop_I 2 (Same1.refl σ) fun M W0 => (rendsI43 ha hb h9 hA hT hin h1).weak fun σ2 x hq => by
    obtain ⟨rfl, τ, rfl⟩ := hq.2 hh
    exact ⟨[], τ, freezeIds_nil _, rfl⟩
end Go.Proofs.YtdgahcbalabjdaaGreat

