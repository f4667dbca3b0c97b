import Derived.Test.YtdgahcbalabjdaaGreatZCyO
import Derived.Test.YtdgahcbalabjdaaGreatBcN
/-
  Batch: the ratio of arcs that have no delay.
-/
namespace Go.Proofs.YtdgahcbalabjdaaGreat
open Go.Vm Go.Ht Go.Ba Go.Cy
theorem Tryz.agg87 : isAggT Tryz.prog 87 = some false := by kernel_rfl
theorem plainTryz_36 : plainFn Tryz.prog 36 = true := by kernel_rfl
theorem plainTryz_78 : plainFn Tryz.prog 78 = true := by kernel_rfl
theorem plainTryz_64 : plainFn Tryz.prog 64 = true := by kernel_rfl
theorem plainTryz_65 : plainFn Tryz.prog 65 = true := by kernel_rfl
theorem plainTryz_37 : plainFn Tryz.prog 37 = true := by kernel_rfl
theorem plainTryz_38 : plainFn Tryz.prog 38 = true := by kernel_rfl
theorem plainTryz_39 : plainFn Tryz.prog 39 = true := by kernel_rfl
theorem plainTryz_18 : plainFn Tryz.prog 18 = true := by kernel_rfl
set_option maxHeartbeats 800000 in
set_option maxRecDepth 10000 in
theorem validArcs36 {ad : DV} {qs : List (Int × Int × Int × Int)} (ha : FlD 4 c4 ad qs) (hn : qs.length ≤ 40) (hv : ∀ q ∈ qs, VQ q) : DeepCall Tryz.prog 36 [ad] (DB true) := by
  refine deepCall_K 5 Tryz.func36 rfl (Nat.le_of_ble_eq_true rfl) fun M W0 => ?_
  refine KC.seq ?_
  refine KC.region ?_
  refine KT.step rfl rfl (K.assign rfl) ?_
  refine KT.nil ?_
  refine thenK_n ?_
  refine KC.seq ?_
  refine KC.seq ?_
  refine KC.region ?_
  refine KT.step rfl rfl (K.move rfl) ?_
  refine KT.step rfl rfl (K.lenF rfl ha Tryz.underlying53) ?_
  refine KT.step rfl rfl (K.gtr rfl rfl) ?_
  refine KT.nil ?_
  refine thenK_n ?_
  refine KC.cond rfl (fun hc7 => ?_) (fun hc7 => ?_)
  · skip
    exact absurd (of_decide_eq_true hc7) (by omega)
  · skip
    replace hc7 := of_decide_eq_false hc7
    refine KC.skip ?_
    refine thenK_n ?_
    refine KC.seq ?_
    refine KC.seq ?_
    refine KC.region ?_
    refine KT.step rfl rfl (K.move rfl) ?_
    refine KT.step rfl rfl (K.lenF rfl ha Tryz.underlying53) ?_
    refine KT.step rfl rfl (K.move rfl) ?_
    refine KT.nil ?_
    refine thenK_n ?_
    refine KC.block ?_
    refine KC.loop (fun p : List VObj × Nat => p.1) (fun p => [(8, .d ad), (9, .d (DI (qs.length : Nat))), (10, .d (DI (p.2 : Nat)))]) (fun p => p.2 ≤ qs.length) (fun p => qs.length - p.2) (_, 0) (Nat.zero_le _) rfl (by simp [Go.Vm.look, extK, enterK]) ?_
    intro p hi
    obtain ⟨σ0, i⟩ := p
    simp only at hi ⊢
    refine KC.seq ?_
    refine KC.region ?_
    refine KT.step rfl rfl (K.lss rfl rfl) ?_
    refine KT.nil ?_
    refine thenK_n ?_
    refine KC.seq ?_
    refine KC.cond rfl (fun hc11 => ?_) (fun hc11 => ?_)
    · skip
      replace hc11 := of_decide_eq_true hc11
      have hil : i < qs.length := by omega
      obtain ⟨v1, v2, v3, v4⟩ := hv _ (List.getElem_mem hil)
      refine KC.skip ?_
      refine thenK_n ?_
      refine KC.seq ?_
      refine KC.block ?_
      refine KC.seq ?_
      refine KC.region ?_
      refine KT.step rfl rfl (K.idxF c4_len (m := i) rfl ha rfl (by omega) Tryz.underlying53 Tryz.size86) ?_
      refine KT.step rfl rfl (K.loadFl (cs := c4 qs[i]) rfl rfl Tryz.agg86 Tryz.size86) ?_
      refine KT.step rfl rfl (K.alloc Tryz.zero86) ?_
      refine KT.storeL (cs := (c4 qs[i]).map .d) rfl rfl rfl rfl rfl rfl rfl Tryz.size86 ?_
      refine KT.nil ?_
      refine thenK_n ?_
      refine KC.seq ?_
      refine KC.region ?_
      refine KT.step rfl rfl (K.idxA (m := 0) rfl rfl (by omega) Tryz.underlying86 Tryz.size3) ?_
      refine KT.step rfl rfl (K.loadO (y := .d (DI qs[i].1)) rfl (List.getElem?_concat_length ..) (by simp) rfl Tryz.agg3) ?_
      refine KT.step rfl rfl (K.call3 rfl rfl rfl plainTryz_51 ((by have h := within52 (qs[i].1) (0) (11); rwa [show (decide (0 ≤ qs[i].1) && decide (qs[i].1 ≤ 11)) = true from by rw [decide_eq_true (by omega), decide_eq_true (by omega)]; rfl] at h))) ?_
      refine KT.step rfl rfl (K.not rfl) ?_
      refine KT.step rfl rfl (K.move rfl) ?_
      refine KT.step rfl rfl (K.idxA (m := 1) rfl rfl (by omega) Tryz.underlying86 Tryz.size3) ?_
      refine KT.step rfl rfl (K.loadO (y := .d (DI qs[i].2.1)) rfl (List.getElem?_concat_length ..) (by simp) rfl Tryz.agg3) ?_
      refine KT.step rfl rfl (K.call3 rfl rfl rfl plainTryz_51 ((by have h := within52 (qs[i].2.1) (0) (11); rwa [show (decide (0 ≤ qs[i].2.1) && decide (qs[i].2.1 ≤ 11)) = true from by rw [decide_eq_true (by omega), decide_eq_true (by omega)]; rfl] at h))) ?_
      refine KT.step rfl rfl (K.not rfl) ?_
      refine KT.step rfl rfl (K.pick rfl (fun h => by cases h) (fun _ => rfl)) ?_
      refine KT.step rfl rfl (K.move rfl) ?_
      refine KT.step rfl rfl (K.idxA (m := 2) rfl rfl (by omega) Tryz.underlying86 Tryz.size3) ?_
      refine KT.step rfl rfl (K.loadO (y := .d (DI qs[i].2.2.1)) rfl (List.getElem?_concat_length ..) (by simp) rfl Tryz.agg3) ?_
      refine KT.step rfl rfl (K.call3 rfl rfl rfl plainTryz_51 ((by have h := within52 (qs[i].2.2.1) (-1000) (1000); rwa [show (decide (-1000 ≤ qs[i].2.2.1) && decide (qs[i].2.2.1 ≤ 1000)) = true from by rw [decide_eq_true (by omega), decide_eq_true (by omega)]; rfl] at h))) ?_
      refine KT.step rfl rfl (K.not rfl) ?_
      refine KT.step rfl rfl (K.pick rfl (fun h => by cases h) (fun _ => rfl)) ?_
      refine KT.step rfl rfl (K.move rfl) ?_
      refine KT.step rfl rfl (K.idxA (m := 3) rfl rfl (by omega) Tryz.underlying86 Tryz.size3) ?_
      refine KT.step rfl rfl (K.loadO (y := .d (DI qs[i].2.2.2)) rfl (List.getElem?_concat_length ..) (by simp) rfl Tryz.agg3) ?_
      refine KT.step rfl rfl (K.call3 rfl rfl rfl plainTryz_51 ((by have h := within52 (qs[i].2.2.2) (0) (20); rwa [show (decide (0 ≤ qs[i].2.2.2) && decide (qs[i].2.2.2 ≤ 20)) = true from by rw [decide_eq_true (by omega), decide_eq_true (by omega)]; rfl] at h))) ?_
      refine KT.step rfl rfl (K.not rfl) ?_
      refine KT.step rfl rfl (K.pick rfl (fun h => by cases h) (fun _ => rfl)) ?_
      refine KT.nil ?_
      refine thenK_n ?_
      refine KC.cond rfl (fun hc35 => ?_) (fun hc35 => ?_)
      · cases hc35
      · skip
        refine KC.skip ?_
        refine blockK_n ?_
        refine thenK_n ?_
        refine KC.region ?_
        refine KT.step rfl rfl (K.add rfl rfl (wrap_id (by omega))) ?_
        refine KT.step rfl rfl (K.move rfl) ?_
        refine KT.nil ?_
        refine thenK_n ?_
        exact ⟨(_, i + 1), by simp only; omega, by simp only; omega, rfl, by simp [Go.Vm.look, extK]⟩
    · skip
      replace hc11 := of_decide_eq_false hc11
      refine KC.exit ?_
      refine thenK_x ?_
      refine thenK_x ?_
      refine blockK_e ?_
      refine thenK_n ?_
      refine KC.seq ?_
      refine KC.region ?_
      refine KT.step rfl rfl (K.assign rfl) ?_
      refine KT.nil ?_
      refine thenK_n ?_
      refine KC.ret ?_
      exact ⟨.inl rfl, _, rfl, fin_b rfl⟩
set_option maxRecDepth 10000 in
theorem joined1_78 {i j : Nat} : DeepCall Tryz.prog 78 [DI (i : Nat), DI (j : Nat)] (DI Nv) := by
  refine deepCall_K 5 Tryz.func78 rfl (Nat.le_of_ble_eq_true rfl) fun M W0 => ?_
  refine KC.seq ?_
  refine KC.region ?_
  refine KT.step rfl rfl (K.assign rfl) ?_
  refine KT.nil ?_
  refine thenK_n ?_
  refine KC.seq ?_
  refine KC.region ?_
  refine KT.step rfl rfl (K.assign rfl) ?_
  refine KT.nil ?_
  refine thenK_n ?_
  refine KC.ret ?_
  exact ⟨.inl rfl, _, rfl, fin_d rfl⟩
set_option maxHeartbeats 2000000 in
set_option maxRecDepth 10000 in
theorem joined64 {ad : DV} {qs : List (Int × Int × Int × Int)} (ha : FlD 4 c4 ad qs) (hn : qs.length ≤ 40) (hv : ∀ q ∈ qs, VQ q) {fid : FuncId} {caps : List DV} (hp : plainFn Tryz.prog fid = true) (hc : ∀ q ∈ qs, DeepCall Tryz.prog fid ([.agg (c4 q)] ++ caps) (DI 0)) : DeepCall Tryz.prog 64 [ad, .fn (.func fid) [] caps] (genD 12 12 (jn (qs.map prq))) := by
  refine deepCall_K 5 Tryz.func64 rfl (Nat.le_of_ble_eq_true rfl) fun M W0 => ?_
  refine KC.seq ?_
  refine KC.region ?_
  refine KT.step rfl rfl (K.assign rfl) ?_
  refine KT.nil ?_
  refine thenK_n ?_
  refine KC.seq ?_
  refine KC.region ?_
  refine KT.step rfl rfl (K.callO rfl plainTryz_55 (build85_own (N := 12) (L := 0) (f := fun _ _ => Nv) (fv := .d (.fn (.func 78) [] [])) (fid := 78) (first := []) (caps := []) (pf := fun _ => []) (by decide) rfl plainTryz_78 (fun _ => rfl) (fun i j _ _ τ => by
      have := (joined1_78 (i := i) (j := j)).own τ
      simpa using this))) ?_
  rw [List.nil_append, bO_gP]
  refine KT.step rfl rfl (K.assign rfl) ?_
  refine KT.nil ?_
  refine thenK_n ?_
  refine KC.seq ?_
  refine KC.seq ?_
  refine KC.region ?_
  refine KT.step rfl rfl (K.move rfl) ?_
  refine KT.step rfl rfl (K.lenF rfl ha Tryz.underlying53) ?_
  refine KT.step rfl rfl (K.move rfl) ?_
  refine KT.nil ?_
  refine thenK_n ?_
  refine KC.block ?_
  refine KC.loop (fun p : List VObj × Nat => p.1) (fun p => [(1, .d (.fn (.func fid) [] caps)), (5, .osl 0 0 12 1 12 true), (11, .d ad), (12, .d (DI (qs.length : Nat))), (13, .d (DI (p.2 : Nat)))]) (fun p => p.2 ≤ qs.length ∧ BOk 12 (jn ((qs.take p.2).map prq)) p.1) (fun p => qs.length - p.2) (_, 0) ⟨Nat.zero_le _, by have h := BOk.of (N := 12) (F := fun _ _ => Nv) []; rw [List.append_nil] at h; exact h.same fun r _ j _ => jn_nil r j⟩ rfl (by simp [Go.Vm.look, extK, enterK]) ?_
  intro p hp2
  obtain ⟨σ0, i⟩ := p
  obtain ⟨hi, hB⟩ := hp2
  simp only at hi hB ⊢
  refine KC.seq ?_
  refine KC.region ?_
  refine KT.step rfl rfl (K.lss rfl rfl) ?_
  refine KT.nil ?_
  refine thenK_n ?_
  refine KC.seq ?_
  refine KC.cond rfl (fun hc14 => ?_) (fun hc14 => ?_)
  · skip
    replace hc14 := of_decide_eq_true hc14
    have hil : i < qs.length := by omega
    obtain ⟨v1, v2, v3, v4⟩ := hv _ (List.getElem_mem hil)
    refine KC.skip ?_
    refine thenK_n ?_
    refine KC.seq ?_
    refine KC.block ?_
    refine KC.seq ?_
    refine KC.region ?_
    refine KT.step rfl rfl (K.idxF c4_len (m := i) rfl ha rfl (by omega) Tryz.underlying53 Tryz.size86) ?_
    refine KT.step rfl rfl (K.loadFl (cs := c4 qs[i]) rfl rfl Tryz.agg86 Tryz.size86) ?_
    refine KT.step rfl rfl (K.alloc Tryz.zero86) ?_
    refine KT.storeL (cs := (c4 qs[i]).map .d) rfl rfl rfl rfl rfl rfl rfl Tryz.size86 ?_
    refine KT.nil ?_
    refine thenK_n ?_
    refine KC.seq ?_
    refine KC.draw Tryz.mixed ?_
    refine KT.step rfl rfl (K.idxA (m := 0) rfl rfl (by omega) Tryz.underlying86 Tryz.size3) ?_
    refine KT.step rfl rfl (K.loadO (y := .d (DI qs[i].1)) rfl (List.getElem?_concat_length ..) (by simp) rfl Tryz.agg3) ?_
    refine KT.step rfl rfl (K.idxA (m := 1) rfl rfl (by omega) Tryz.underlying86 Tryz.size3) ?_
    refine KT.step rfl rfl (K.loadO (y := .d (DI qs[i].2.1)) rfl (List.getElem?_concat_length ..) (by simp) rfl Tryz.agg3) ?_
    refine KT.step rfl rfl (K.assign rfl) ?_
    refine KT.step rfl rfl (K.assign rfl) ?_
    refine KT.nil ?_
    refine ⟨by kernel_rfl, ?_⟩
    refine thenK_n ?_
    refine KC.draw Tryz.mixed ?_
    refine KT.step rfl rfl (K.move rfl) ?_
    refine KT.step rfl rfl (K.move rfl) ?_
    refine KT.step rfl rfl (K.idxO (m := qs[i].1.toNat) rfl (by exact congrArg (fun z => some (XV.d (DI z))) (show qs[i].1 = ((qs[i].1).toNat : Int) by omega)) (by omega) Tryz.underlying25 Tryz.size36) ?_
    refine KT.step rfl rfl (K.loadO rfl (get_left hB.out) (by simp) (bO_out (show qs[i].1.toNat < 12 by omega)) Tryz.agg36) ?_
    refine KT.step rfl rfl (K.move rfl) ?_
    refine KT.step rfl rfl (K.move rfl) ?_
    refine KT.step rfl rfl (K.move rfl) ?_
    refine KT.step rfl rfl (K.idxO (m := qs[i].1.toNat) rfl (by exact congrArg (fun z => some (XV.d (DI z))) (show qs[i].1 = ((qs[i].1).toNat : Int) by omega)) (by omega) Tryz.underlying25 Tryz.size36) ?_
    refine KT.step rfl rfl (K.loadO rfl (get_left hB.out) (by simp) (bO_out (show qs[i].1.toNat < 12 by omega)) Tryz.agg36) ?_
    refine KT.step rfl rfl (K.move rfl) ?_
    refine KT.step rfl rfl (K.idxO (m := qs[i].2.1.toNat) rfl (by exact congrArg (fun z => some (XV.d (DI z))) (show qs[i].2.1 = ((qs[i].2.1).toNat : Int) by omega)) (by omega) Tryz.underlying36 Tryz.size3) ?_
    refine KT.step rfl rfl (K.loadO rfl (get_left (hB.row qs[i].1.toNat (by omega))) (by simp) (bO_cell (show qs[i].2.1.toNat < 12 by omega)) Tryz.agg3) ?_
    refine KT.step rfl rfl (K.move rfl) ?_
    refine KT.step rfl rfl (K.loadOA (c4 qs[i]) rfl (List.getElem?_concat_length ..) (by decide) Tryz.agg86 Tryz.size86 rfl) ?_
    refine KT.step rfl rfl (K.callC (ds := [.agg (c4 qs[i])]) (cs := caps) rfl (by rfl) rfl hp (hc _ (List.getElem_mem hil))) ?_
    refine KT.step rfl rfl (K.build2s (a := .d (DI (jn ((qs.take i).map prq) qs[i].1.toNat qs[i].2.1.toNat))) (b := .d (DI 0)) rfl rfl rfl rfl Tryz.underlying36 Tryz.one3) ?_
    refine KT.step rfl rfl (K.callG (τ := []) rfl plainTryz_57 (by rw [List.append_nil]; exact greatest60_own' (md := 0) (l := [jn ((qs.take i).map prq) qs[i].1.toNat qs[i].2.1.toNat, 0]) rfl (List.getElem?_concat_length ..) (by decide) (by omega))) ?_
    rw [jn_two, List.append_nil]
    refine KT.step rfl rfl (K.idxO (m := qs[i].2.1.toNat) rfl (by exact congrArg (fun z => some (XV.d (DI z))) (show qs[i].2.1 = ((qs[i].2.1).toNat : Int) by omega)) (by omega) Tryz.underlying36 Tryz.size3) ?_
    refine KT.storeG rfl rfl rfl rfl (get_left (get_left (hB.row qs[i].1.toNat (by omega)))) (by simp; omega) rfl rfl Tryz.size3 fun σ3 l3 u3 v3 => ?_
    refine KT.nil ?_
    refine ⟨by kernel_rfl, ?_⟩
    refine blockK_n ?_
    refine thenK_n ?_
    refine KC.region ?_
    refine KT.step rfl rfl (K.add rfl rfl (wrap_id (by omega))) ?_
    refine KT.step rfl rfl (K.move rfl) ?_
    refine KT.nil ?_
    refine thenK_n ?_
    refine ⟨(σ3, i + 1), ⟨by simp only; omega, ?_⟩, by simp only; omega, rfl, by simp [Go.Vm.look, extK]⟩
    have hB2 := (hB.push [⟨(c4 qs[i]).map .d, 0⟩]).push [⟨[.d (DI (jn ((qs.take i).map prq) qs[i].1.toNat qs[i].2.1.toNat)), .d (DI 0)], 0⟩]
    simp only
    rw [List.take_succ_eq_append_getElem hil, List.map_append]
    exact hB2.set (r := qs[i].1.toNat) (j := qs[i].2.1.toNat) (v := 0) (by omega) u3 v3 fun r' _ j' _ => jn_snoc (by show _ = qs[i].1; omega) (by show _ = qs[i].2.1; omega) r' j'
  · skip
    replace hc14 := of_decide_eq_false hc14
    refine KC.exit ?_
    refine thenK_x ?_
    refine thenK_x ?_
    refine blockK_e ?_
    refine thenK_n ?_
    refine KC.seq ?_
    refine KC.region ?_
    refine KT.step rfl rfl (K.move rfl) ?_
    refine KT.step rfl rfl (K.assign rfl) ?_
    refine KT.nil ?_
    refine thenK_n ?_
    refine KC.ret ?_
    have et : qs.take i = qs := List.take_of_length_le (by omega)
    rw [et] at hB
    exact ⟨.inl rfl, _, rfl, hB.fin⟩
set_option maxRecDepth 10000 in
theorem cyclic1_65 {q : Int × Int × Int × Int} {fk : FuncId} (hp : plainFn Tryz.prog fk = true) (hk : DeepCall Tryz.prog fk [.agg (c4 q)] (DB true)) : DeepCall Tryz.prog 65 [.agg (c4 q), .ptr [.fn (.func fk) [] []]] (DI 0) := by
  refine deepCall_K 5 Tryz.func65 rfl (Nat.le_of_ble_eq_true rfl) fun M W0 => ?_
  refine KC.seq ?_
  refine KC.region ?_
  refine KT.step rfl rfl (K.box rfl) ?_
  refine KT.step rfl rfl (K.assign rfl) ?_
  refine KT.nil ?_
  refine thenK_n ?_
  refine KC.seq ?_
  refine KC.seq ?_
  refine KC.region ?_
  refine KT.step rfl rfl (K.load rfl Tryz.agg87) ?_
  refine KT.step rfl rfl (K.loadOA (c4 q) rfl rfl (by decide) Tryz.agg86 Tryz.size86 rfl) ?_
  refine KT.step rfl rfl (K.callW rfl rfl rfl hp hk) ?_
  refine KT.nil ?_
  refine thenK_n ?_
  refine KC.cond rfl (fun hc6 => ?_) (fun hc6 => ?_)
  · skip
    refine KC.seq ?_
    refine KC.region ?_
    refine KT.step rfl rfl (K.assign rfl) ?_
    refine KT.nil ?_
    refine thenK_n ?_
    refine KC.ret ?_
    refine thenK_r ?_
    exact ⟨.inl rfl, _, rfl, fin_d rfl⟩
  · cases hc6
set_option maxRecDepth 10000 in
theorem cyclic37 {ad : DV} {qs : List (Int × Int × Int × Int)} (ha : FlD 4 c4 ad qs) (hn : qs.length ≤ 40) (hv : ∀ q ∈ qs, VQ q) {fk : FuncId} (hp : plainFn Tryz.prog fk = true) (hk : ∀ q ∈ qs, DeepCall Tryz.prog fk [.agg (c4 q)] (DB true)) (hs : Bds 12 (jn (qs.map prq))) : DeepCall Tryz.prog 37 [ad, .fn (.func fk) [] []] (DB (meanI 12 (jn (qs.map prq))).isSome) := by
  refine deepCall_K 5 Tryz.func37 rfl (Nat.le_of_ble_eq_true rfl) fun M W0 => ?_
  refine KC.seq ?_
  refine KC.region ?_
  refine KT.step rfl rfl (K.box rfl) ?_
  refine KT.step rfl rfl (K.assign rfl) ?_
  refine KT.nil ?_
  refine thenK_n ?_
  refine KC.seq ?_
  refine KC.region ?_
  refine KT.step rfl rfl (K.move rfl) ?_
  refine KT.step rfl rfl (K.makeF (m := 0) rfl rfl rfl rfl) ?_
  refine KT.step rfl rfl (K.callZ (ds := [ad, .fn (.func 65) [] [.ptr [.fn (.func fk) [] []]]]) [0] 5 rfl plainTryz_64 rfl (joined64 ha hn hv plainTryz_65 fun q hq => cyclic1_65 hp (hk q hq))) ?_
  refine KT.step rfl rfl (K.call1 rfl plainTryz_28 ((mean_form 12 (jn (qs.map prq))) ▸ mean66 genD_mat hs)) ?_
  refine KT.step rfl rfl (K.move rfl) ?_
  refine KT.step rfl rfl (K.extract rfl rfl) ?_
  refine KT.step rfl rfl (K.extract rfl rfl) ?_
  refine KT.step rfl rfl (K.alloc Tryz.zero72) ?_
  refine KT.step rfl rfl (K.storeN rfl rfl rfl (by simp [cellsX, Value.cells]) rfl Tryz.size72) ?_
  refine KT.step rfl rfl (K.assign rfl) ?_
  refine KT.nil ?_
  refine thenK_n ?_
  refine KC.seq ?_
  refine KC.region ?_
  refine KT.step rfl rfl (K.move rfl) ?_
  refine KT.step rfl rfl (K.assign rfl) ?_
  refine KT.nil ?_
  refine thenK_n ?_
  refine KC.ret ?_
  exact ⟨.inl rfl, _, rfl, fin_b rfl⟩
set_option maxRecDepth 10000 in
theorem ratio1_38 {q : Int × Int × Int × Int} : DeepCall Tryz.prog 38 [.agg (c4 q)] (DB true) := by
  refine deepCall_K 5 Tryz.func38 rfl (Nat.le_of_ble_eq_true rfl) fun M W0 => ?_
  refine KC.seq ?_
  refine KC.region ?_
  refine KT.step rfl rfl (K.box rfl) ?_
  refine KT.step rfl rfl (K.assign rfl) ?_
  refine KT.nil ?_
  refine thenK_n ?_
  refine KC.seq ?_
  refine KC.region ?_
  refine KT.step rfl rfl (K.assign rfl) ?_
  refine KT.nil ?_
  refine thenK_n ?_
  refine KC.ret ?_
  exact ⟨.inl rfl, _, rfl, fin_b rfl⟩
set_option maxRecDepth 10000 in
theorem ratio2_39 {q : Int × Int × Int × Int} (h0 : q.2.2.2 = 0) : DeepCall Tryz.prog 39 [.agg (c4 q)] (DB true) := by
  refine deepCall_K 5 Tryz.func39 rfl (Nat.le_of_ble_eq_true rfl) fun M W0 => ?_
  refine KC.seq ?_
  refine KC.region ?_
  refine KT.step rfl rfl (K.box rfl) ?_
  refine KT.step rfl rfl (K.assign rfl) ?_
  refine KT.nil ?_
  refine thenK_n ?_
  refine KC.seq ?_
  refine KC.region ?_
  refine KT.step rfl rfl (K.idxA (m := 3) rfl rfl (by omega) Tryz.underlying86 Tryz.size3) ?_
  refine KT.step rfl rfl (K.loadO (y := .d (DI q.2.2.2)) rfl rfl (by simp) rfl Tryz.agg3) ?_
  refine KT.step rfl rfl (K.eql rfl rfl) ?_
  refine KT.step rfl rfl (K.assign rfl) ?_
  refine KT.nil ?_
  refine thenK_n ?_
  refine KC.ret ?_
  exact ⟨.inl rfl, _, rfl, fin_b (decide_eq_true h0).symm⟩
def ratE (qs : List (Int × Int × Int × Int)) : Int := if (meanI 12 (jn (qs.map prq))).isSome then 8 else 5
set_option maxRecDepth 10000 in
theorem ratio18 {ad : DV} {qs : List (Int × Int × Int × Int)} (ha : FlD 4 c4 ad qs) (hn : qs.length ≤ 40) (hv : ∀ q ∈ qs, VQ q) (h0 : ∀ q ∈ qs, q.2.2.2 = 0) (hs : Bds 12 (jn (qs.map prq))) : DeepCall Tryz.prog 18 [ad] (.tup [DI 0, DI 0, DI (ratE qs)]) := by
  refine deepCall_K 5 Tryz.func18 rfl (Nat.le_of_ble_eq_true rfl) fun M W0 => ?_
  refine KC.seq ?_
  refine KC.region ?_
  refine KT.step rfl rfl (K.assign rfl) ?_
  refine KT.step rfl rfl (K.assign rfl) ?_
  refine KT.step rfl rfl (K.assign rfl) ?_
  refine KT.nil ?_
  refine thenK_n ?_
  refine KC.seq ?_
  refine KC.seq ?_
  refine KC.region ?_
  refine KT.step rfl rfl (K.move rfl) ?_
  refine KT.step rfl rfl (K.call1 rfl plainTryz_36 (validArcs36 ha hn hv)) ?_
  refine KT.step rfl rfl (K.not rfl) ?_
  refine KT.nil ?_
  refine thenK_n ?_
  refine KC.cond rfl (fun hc8 => ?_) (fun hc8 => ?_)
  · cases hc8
  · skip
    refine KC.skip ?_
    refine thenK_n ?_
    refine KC.seq ?_
    refine KC.seq ?_
    refine KC.region ?_
    refine KT.step rfl rfl (K.move rfl) ?_
    refine KT.step rfl rfl (K.call2 rfl rfl plainTryz_37 (cyclic37 ha hn hv plainTryz_38 (fun q _ => ratio1_38) hs)) ?_
    refine KT.step rfl rfl (K.not rfl) ?_
    refine KT.nil ?_
    refine thenK_n ?_
    refine KC.cond rfl (fun hc11 => ?_) (fun hc11 => ?_)
    · skip
      refine KC.seq ?_
      refine KC.region ?_
      refine KT.step rfl rfl (K.assign rfl) ?_
      refine KT.step rfl rfl (K.assign rfl) ?_
      refine KT.step rfl rfl (K.assign rfl) ?_
      refine KT.nil ?_
      refine thenK_n ?_
      refine KC.ret ?_
      refine thenK_r ?_
      exact ⟨.inl rfl, _, rfl, by show some _ = some _; unfold ratE; rw [show (meanI 12 (jn (qs.map prq))).isSome = false by simpa using hc11]; rfl⟩
    · skip
      refine KC.skip ?_
      refine thenK_n ?_
      refine KC.seq ?_
      refine KC.seq ?_
      refine KC.region ?_
      refine KT.step rfl rfl (K.move rfl) ?_
      refine KT.step rfl rfl (K.call2 rfl rfl plainTryz_37 (cyclic37 ha hn hv plainTryz_39 (fun q hq => ratio2_39 (h0 q hq)) hs)) ?_
      refine KT.nil ?_
      refine thenK_n ?_
      refine KC.cond rfl (fun hc13 => ?_) (fun hc13 => ?_)
      · skip
        refine KC.seq ?_
        refine KC.region ?_
        refine KT.step rfl rfl (K.assign rfl) ?_
        refine KT.step rfl rfl (K.assign rfl) ?_
        refine KT.step rfl rfl (K.assign rfl) ?_
        refine KT.nil ?_
        refine thenK_n ?_
        refine KC.ret ?_
        refine thenK_r ?_
        exact ⟨.inl rfl, _, rfl, by show some _ = some _; unfold ratE; rw [if_pos hc13]; rfl⟩
      · skip
        rw [Bool.not_eq_false'] at hc11
        rw [hc11] at hc13; cases hc13
end Go.Proofs.YtdgahcbalabjdaaGreat

