import Derived.Test.YtjfpeiioddfjcaaZnWb
import Derived.Test.YtjfpeiioddfjcaaZnTe
import Derived.Test.YtjfpeiioddfjcaaZnL
/-
  Zones: the least point.
-/
namespace Go.Proofs.Ytjfpeiioddfjcaa
open Go.Vm Go.Zn
theorem plainTry_75 : plainFn Try.prog 75 = true := by kernel_rfl
theorem plainTry_33 : plainFn Try.prog 33 = true := by kernel_rfl

theorem gre_zg {b : Int} (h : Zg 5000 b) : -10001 ≤ gre b 4 ∧ gre b 4 ≤ 2199023255551 := by
  unfold Zg Lim at h
  unfold gre; omega
theorem div_zg {b : Int} (h : Zg 5000 b) : -1000000000000000 ≤ b / 2 * 4 ∧ b / 2 * 4 ≤ 1000000000000000 := by
  unfold Zg Lim at h
  omega
theorem ztG_all {n : Nat} {a : Nat → Nat → Int} {v : Nat → Int} (h : ∀ q (h : q < (ztG n a n 0).length), v ((ztG n a n 0)[q]).1.toNat - gre ((ztG n a n 0)[q]).2.2 4 ≤ v ((ztG n a n 0)[q]).2.1.toNat) : In n a v := fun i j hi hj => by
  obtain ⟨q, hq, e⟩ := List.getElem_of_mem (ztG_in (a := a) hi hj)
  have := h q hq
  rw [e] at this
  have : v i - gre (a i j) 4 ≤ v j := this
  omega
set_option maxHeartbeats 1000000 in
set_option maxRecDepth 10000 in
theorem least75 {d : DV} {n : Nat} {a : Nat → Nat → Int} {p : Nat → Int} (hd : Gds d (ztG n a n 0)) (hn : n ≤ 4) (h1 : 1 ≤ n) (ha : ZgM 5000 a) (hp : Sol n a p) (hpb : ∀ i, i < n → p i ≤ 40000) : DeepCall Try.prog 75 [DI (n : Nat), DI 4, d] (intsE ((List.range n).map (lst n a))) := by
  have hll : (ztG n a n 0).length ≤ 16 := by
    rw [ztG_len]
    have : n * n ≤ 4 * 4 := Nat.mul_le_mul hn hn
    omega
  refine deepCall_K 5 Try.func75 rfl (Nat.le_of_ble_eq_true rfl) fun M W0 => ?_
  refine KC.seq ?_
  refine KC.region ?_
  refine KT.step rfl rfl (K.assign rfl) ?_
  refine KT.nil ?_
  refine thenK_n ?_
  refine KC.seq ?_
  refine KC.region ?_
  refine KT.step rfl rfl (K.move rfl) ?_
  refine KT.step rfl rfl (K.make rfl rfl (Nat.le_refl n) (by omega) Try.underlying23 Try.one3) ?_
  refine KT.step rfl rfl (K.assign rfl) ?_
  refine KT.nil ?_
  refine thenK_n ?_
  refine KC.seq ?_
  refine KC.seq ?_
  refine KC.region ?_
  refine KT.step rfl rfl (K.assign rfl) ?_
  refine KT.nil ?_
  refine thenK_n ?_
  refine KC.block ?_
  refine KC.loop (fun s : List VObj × (Nat → Int) × Bool => s.1) (fun s => [(1, .d (DI 4)), (2, .d d), (7, .osl 0 0 n 1 n true), (8, .d (DB s.2.2))]) (fun s => s.1[0]? = some ⟨vC n s.2.1, 0⟩ ∧ Up n a s.2.1 ∧ (s.2.2 = false → In n a s.2.1)) (fun s => gap p s.2.1 + (if s.2.2 then 1 else 0)) (_, fun _ => 0, true) ⟨by rw [vC_zero]; rfl, Up.start, fun h => by cases h⟩ rfl (by simp [Go.Vm.look, extK, enterK]) ?_
  intro s hs
  obtain ⟨y0, hup, hin⟩ := hs
  refine KC.seq ?_
  refine KC.seq ?_
  refine KC.region ?_
  refine KT.step rfl rfl (K.move rfl) ?_
  refine KT.nil ?_
  refine thenK_n ?_
  refine KC.cond rfl (fun hc14 => ?_) (fun hc14 => ?_)
  · skip
    refine KC.skip ?_
    refine thenK_n ?_
    refine KC.block ?_
    refine KC.seq ?_
    refine KC.region ?_
    refine KT.step rfl rfl (K.assign rfl) ?_
    refine KT.nil ?_
    refine thenK_n ?_
    refine KC.seq ?_
    refine KC.region ?_
    refine KT.step rfl rfl (K.move rfl) ?_
    refine KT.step rfl rfl (K.lenG rfl hd Try.underlying107) ?_
    refine KT.step rfl rfl (K.move rfl) ?_
    refine KT.nil ?_
    refine thenK_n ?_
    refine KC.block ?_
    refine KC.loop (fun t : List VObj × (Nat → Int) × Bool × Nat => t.1) (fun t => [(1, .d (DI 4)), (2, .d d), (7, .osl 0 0 n 1 n true), (8, .d (DB t.2.2.1)), (15, .d d), (16, .d (DI ((ztG n a n 0).length : Nat))), (17, .d (DI (t.2.2.2 : Nat)))]) (fun t => t.1[0]? = some ⟨vC n t.2.1, 0⟩ ∧ Up n a t.2.1 ∧ t.2.2.2 ≤ (ztG n a n 0).length ∧ (t.2.2.1 = true → gap p t.2.1 < gap p s.2.1) ∧ (t.2.2.1 = false → t.2.1 = s.2.1 ∧ ∀ q (h : q < (ztG n a n 0).length), q < t.2.2.2 → s.2.1 ((ztG n a n 0)[q]).1.toNat - gre ((ztG n a n 0)[q]).2.2 4 ≤ s.2.1 ((ztG n a n 0)[q]).2.1.toNat)) (fun t => (ztG n a n 0).length - t.2.2.2) (s.1, s.2.1, false, 0) ⟨y0, hup, Nat.zero_le _, (fun h => by cases h), fun _ => ⟨rfl, fun q _ h => absurd h (Nat.not_lt_zero _)⟩⟩ rfl (by simp [Go.Vm.look, extK, enterK]) ?_
    clear y0 hup hin
    intro t ht
    obtain ⟨y0, hup, hm, hlt, hst⟩ := ht
    refine KC.seq ?_
    refine KC.region ?_
    refine KT.step rfl rfl (K.lss rfl rfl) ?_
    refine KT.nil ?_
    refine thenK_n ?_
    refine KC.seq ?_
    refine KC.cond rfl (fun hc18 => ?_) (fun hc18 => ?_)
    · skip
      replace hc18 := of_decide_eq_true hc18
      have hil : t.2.2.2 < (ztG n a n 0).length := by omega
      refine KC.skip ?_
      refine thenK_n ?_
      refine KC.seq ?_
      refine KC.block ?_
      refine KC.seq ?_
      refine KC.region ?_
      refine KT.step rfl rfl (K.idxG rfl hd rfl hil Try.underlying107 Try.size38) ?_
      refine KT.step rfl rfl (K.loadG hil rfl Try.agg38 Try.size38) ?_
      refine KT.step rfl rfl (K.alloc Try.zero38) ?_
      refine KT.storeL (cs := (gd3 (ztG n a n 0)[t.2.2.2]).map .d) rfl rfl rfl rfl rfl rfl rfl Try.size38 ?_
      refine KT.nil ?_
      refine thenK_n ?_
      refine KC.seq ?_
      obtain ⟨gi, gj, hgg, eg⟩ := ztG_mem (List.getElem_mem hil)
      have hgi : gi < n := by omega
      have hgj : gj < n := by omega
      have y0 : (t.1 ++ [(⟨(gd3 (ztG n a n 0)[t.2.2.2]).map .d, 0⟩ : VObj)])[0]? = some ⟨vC n t.2.1, 0⟩ := get_left y0
      have egd : (gd3 (ztG n a n 0)[t.2.2.2]).map XV.d = [.d (DI gi), .d (DI gj), .d (DI (a gi gj))] := by rw [eg]; rfl
      rw [egd] at y0 ⊢
      have hb1 := gre_zg (ha gi gj)
      have hv1 := hup.pos gi hgi
      have hv2 := hup.low p hp gi hgi
      have hv3 := hpb gi hgi
      refine KC.draw Try.mixed ?_
      refine KT.step rfl rfl (K.move rfl) ?_
      refine KT.step rfl rfl (K.fieldAddrO rfl Try.fld38_0 Try.size3) ?_
      refine KT.step rfl rfl (K.loadO rfl (List.getElem?_concat_length ..) (by simp) rfl Try.agg3) ?_
      refine KT.step rfl rfl (K.idxO (m := gi) rfl rfl hgi Try.underlying23 Try.size3) ?_
      refine KT.step rfl rfl (K.loadO rfl y0 (by simp) (vC_get hgi) Try.agg3) ?_
      refine KT.step rfl rfl (K.fieldAddrO rfl Try.fld38_2 Try.size3) ?_
      refine KT.step rfl rfl (K.loadO rfl (List.getElem?_concat_length ..) (by simp) rfl Try.agg3) ?_
      refine KT.step rfl rfl (K.move rfl) ?_
      refine KT.step rfl rfl (K.call2 rfl rfl plainTry_98 (greatest98 (div_zg (ha gi gj)))) ?_
      refine KT.step rfl rfl (K.sub rfl rfl (wrap_id (by omega))) ?_
      refine KT.step rfl rfl (K.assign rfl) ?_
      refine KT.nil ?_
      refine ⟨by kernel_rfl, ?_⟩
      refine thenK_n ?_
      refine KC.seq ?_
      refine KC.region ?_
      refine KT.step rfl rfl (K.move rfl) ?_
      refine KT.step rfl rfl (K.fieldAddrO rfl Try.fld38_1 Try.size3) ?_
      refine KT.step rfl rfl (K.loadO rfl (List.getElem?_concat_length ..) (by simp) rfl Try.agg3) ?_
      refine KT.step rfl rfl (K.idxO (m := gj) rfl rfl hgj Try.underlying23 Try.size3) ?_
      refine KT.step rfl rfl (K.loadO rfl y0 (by simp) (vC_get hgj) Try.agg3) ?_
      refine KT.step rfl rfl (K.move rfl) ?_
      refine KT.step rfl rfl (K.lss rfl rfl) ?_
      refine KT.nil ?_
      refine thenK_n ?_
      refine KC.cond rfl (fun hc37 => ?_) (fun hc37 => ?_)
      · skip
        replace hc37 := of_decide_eq_true hc37
        refine KC.seq ?_
        refine KC.region ?_
        refine KT.step rfl rfl (K.move rfl) ?_
        refine KT.step rfl rfl (K.fieldAddrO rfl Try.fld38_1 Try.size3) ?_
        refine KT.step rfl rfl (K.loadO rfl (List.getElem?_concat_length ..) (by simp) rfl Try.agg3) ?_
        refine KT.step rfl rfl (K.move rfl) ?_
        refine KT.step rfl rfl (K.idxO (m := gj) rfl rfl hgj Try.underlying23 Try.size3) ?_
        refine KT.step rfl rfl (K.storeO rfl rfl y0 (by rw [vC_len]; omega) rfl rfl Try.size3) ?_
        refine KT.nil ?_
        refine thenK_n ?_
        refine KC.region ?_
        refine KT.step rfl rfl (K.assign rfl) ?_
        refine KT.nil ?_
        refine blockK_n ?_
        refine thenK_n ?_
        refine KC.region ?_
        refine KT.step rfl rfl (K.add rfl rfl (wrap_id (by omega))) ?_
        refine KT.step rfl rfl (K.move rfl) ?_
        refine KT.nil ?_
        refine thenK_n ?_
        obtain ⟨r1, r2, r3⟩ := hup.raise hp hgi hgj hc37 (Int.le_refl _)
        have hgp := gap_put (p := p) (show gj < 4 by omega) hc37 r3
        refine ⟨(_, put1 t.2.1 gj (t.2.1 gi - gre (a gi gj) 4), true, t.2.2.2 + 1), ⟨set_vC y0 hgj, r1, by simp only; omega, fun _ => ?_, fun h => by cases h⟩, by simp only; omega, rfl, by simp [Go.Vm.look, extK]⟩
        show gap p (put1 t.2.1 gj (t.2.1 gi - gre (a gi gj) 4)) < gap p s.2.1
        cases hcc : t.2.2.1 with
        | true => have := hlt hcc; omega
        | false => rw [← (hst hcc).1]; exact hgp
      · skip
        replace hc37 := of_decide_eq_false hc37
        refine KC.skip ?_
        refine blockK_n ?_
        refine thenK_n ?_
        refine KC.region ?_
        refine KT.step rfl rfl (K.add rfl rfl (wrap_id (by omega))) ?_
        refine KT.step rfl rfl (K.move rfl) ?_
        refine KT.nil ?_
        refine thenK_n ?_
        refine ⟨(_, t.2.1, t.2.2.1, t.2.2.2 + 1), ⟨y0, hup, by simp only; omega, hlt, fun h => ⟨(hst h).1, fun q hq hq2 => ?_⟩⟩, by simp only; omega, rfl, by simp [Go.Vm.look, extK]⟩
        by_cases e : q = t.2.2.2
        · subst e
          rw [← (hst h).1, eg]
          show t.2.1 gi - gre (a gi gj) 4 ≤ t.2.1 gj
          omega
        · exact (hst h).2 q hq (by simp only at hq2; omega)
    · skip
      replace hc18 := of_decide_eq_false hc18
      refine KC.exit ?_
      refine thenK_x ?_
      refine thenK_x ?_
      refine blockK_e ?_
      refine blockK_n ?_
      refine thenK_n ?_
      refine ⟨(t.1, t.2.1, t.2.2.1), ⟨y0, hup, fun h => ?_⟩, ?_, rfl, by simp [Go.Vm.look, extK]⟩
      · obtain ⟨e, hall⟩ := hst h
        refine ztG_all fun q hq => ?_
        have := hall q hq (by omega)
        rw [e]
        exact this
      · show gap p t.2.1 + (if t.2.2.1 then 1 else 0) < gap p s.2.1 + (if s.2.2 then 1 else 0)
        rw [hc14, if_pos rfl]
        cases hcc : t.2.2.1 with
        | true => have := hlt hcc; rw [if_pos rfl]; omega
        | false => rw [(hst hcc).1]; simp
  · skip
    refine KC.exit ?_
    refine thenK_x ?_
    refine thenK_x ?_
    refine blockK_e ?_
    refine thenK_n ?_
    refine KC.seq ?_
    refine KC.region ?_
    refine KT.step rfl rfl (K.move rfl) ?_
    refine KT.step rfl rfl (K.assign rfl) ?_
    refine KT.nil ?_
    refine thenK_n ?_
    refine KC.ret ?_
    have hl := hup.done (hin hc14)
    refine ⟨.inl rfl, _, rfl, ?_⟩
    rw [vC_eq fun i hi => lst_eq hl hi] at y0
    exact fin_vC y0

noncomputable def ptL (z : List (List Int)) : List Int := if tgE z = 0 then ((List.range z.length).map (lst z.length (zf z))).drop 1 else []
noncomputable def ptD (z : List (List Int)) : DV := if tgE z = 0 then intsE (((List.range z.length).map (lst z.length (zf z))).drop 1) else Dnil
theorem ptD_ints (z : List (List Int)) : Ints (ptD z) (ptL z) := by unfold ptD ptL; split; exact intsE_ints _; exact .nil
theorem ptL_len {z : List (List Int)} : (ptL z).length ≤ z.length := by unfold ptL; split <;> simp
set_option maxRecDepth 10000 in
theorem Point33 {d : DV} {z : List (List Int)} (hd : Mat d z) (hl : z.length ≤ 9223372036854775807) (hr : ∀ r ∈ z, r.length ≤ 9223372036854775807) : DeepCall Try.prog 33 [d] (.tup [ptD z, DI (tgE z)]) := by
  refine deepCall_K 5 Try.func33 rfl (Nat.le_of_ble_eq_true rfl) fun M W0 => ?_
  refine KC.seq ?_
  refine KC.region ?_
  refine KT.step rfl rfl (K.assign rfl) ?_
  refine KT.step rfl rfl (K.assign rfl) ?_
  refine KT.nil ?_
  refine thenK_n ?_
  refine KC.seq ?_
  refine KC.region ?_
  refine KT.step rfl rfl (K.move rfl) ?_
  refine KT.step rfl rfl (K.call1 rfl plainTry_53 (read53 hd hl hr)) ?_
  refine KT.step rfl rfl (K.move rfl) ?_
  refine KT.step rfl rfl (K.extract rfl rfl) ?_
  refine KT.step rfl rfl (K.extract rfl rfl) ?_
  refine KT.step rfl rfl (K.alloc Try.zero87) ?_
  refine KT.putAll (cs := mcx (rdN z) (rdA z)) rfl rfl rfl rfl rfl rfl rfl rfl Try.size87 ?_
  refine KT.step rfl rfl (K.assign rfl) ?_
  refine KT.nil ?_
  refine thenK_n ?_
  refine KC.seq ?_
  refine KC.seq ?_
  refine KC.region ?_
  refine KT.step rfl rfl (K.move rfl) ?_
  refine KT.step rfl rfl (K.not rfl) ?_
  refine KT.nil ?_
  refine thenK_n ?_
  refine KC.cond rfl (fun hc12 => ?_) (fun hc12 => ?_)
  · skip
    rw [Bool.not_eq_true'] at hc12
    refine KC.seq ?_
    refine KC.region ?_
    refine KT.step rfl rfl (K.assign rfl) ?_
    refine KT.step rfl rfl (K.assign rfl) ?_
    refine KT.nil ?_
    refine thenK_n ?_
    refine KC.ret ?_
    refine thenK_r ?_
    have hte := tgE_bad (z := z) (by rw [hc12]; decide)
    exact ⟨.inl rfl, _, rfl, fin_op (by unfold ptD; rw [hte]; rfl) hte.symm⟩
  · skip
    rw [Bool.not_eq_false'] at hc12
    have hv := hc12
    have q1 := rd_pos hv
    have hz4 := (validZ_rows hv).2.1
    have hz2 := (validZ_rows hv).1
    have hte := tgE_ok hv
    rw [q1.1, q1.2]
    refine KC.skip ?_
    refine thenK_n ?_
    refine KC.seq ?_
    refine KC.seq ?_
    refine KC.region ?_
    refine KT.step rfl rfl (K.loadOA (mc (z.length) (zf z)) rfl rfl (by decide) Try.agg87 Try.size87 rfl) ?_
    refine KT.step rfl rfl (K.call1 rfl plainTry_51 (tight51 hz4 (Go.Zn.lim5 (zf_lim hv)))) ?_
    refine KT.step rfl rfl (K.call1 rfl plainTry_69 (empty69 hz4)) ?_
    refine KT.nil ?_
    refine thenK_n ?_
    refine KC.cond rfl (fun hc15 => ?_) (fun hc15 => ?_)
    · skip
      rw [hc15, if_pos rfl] at hte
      refine KC.seq ?_
      refine KC.region ?_
      refine KT.step rfl rfl (K.assign rfl) ?_
      refine KT.step rfl rfl (K.assign rfl) ?_
      refine KT.nil ?_
      refine thenK_n ?_
      refine KC.ret ?_
      refine thenK_r ?_
      exact ⟨.inl rfl, _, rfl, fin_op (by unfold ptD; rw [hte]; rfl) hte.symm⟩
    · skip
      rw [hc15] at hte
      have hte : tgE z = 0 := hte
      obtain ⟨p, hp, hpb⟩ := sol_ex hz4 (by omega) (Go.Zn.lim5 (zf_lim hv)) hc15
      refine KC.skip ?_
      refine thenK_n ?_
      refine KC.seq ?_
      refine KC.draw Try.mixed ?_
      refine KT.step rfl rfl (K.fieldAddrO rfl Try.fld87_0 Try.size3) ?_
      refine KT.step rfl rfl (K.loadO rfl rfl (by simp) rfl Try.agg3) ?_
      refine KT.step rfl rfl (K.loadOA (mc (z.length) (zf z)) rfl rfl (by decide) Try.agg87 Try.size87 rfl) ?_
      refine KT.step rfl rfl (K.call1 rfl plainTry_73 (guards73 hz4 (by omega))) ?_
      refine KT.step rfl rfl (K.call3 rfl rfl rfl plainTry_75 (least75 (p := p) (gdsD_gds _) hz4 (by omega) (zf5 hv) hp hpb)) ?_
      refine KT.step rfl rfl (K.sliceE (m := 1) rfl rfl (by simp; omega) Try.underlying23 Try.size3) ?_
      refine KT.step rfl rfl (K.assign rfl) ?_
      refine KT.step rfl rfl (K.assign rfl) ?_
      refine KT.nil ?_
      refine ⟨by kernel_rfl, ?_⟩
      refine thenK_n ?_
      refine KC.ret ?_
      exact ⟨.inl rfl, _, rfl, fin_op (by unfold ptD; rw [if_pos hte]) hte.symm⟩
end Go.Proofs.Ytjfpeiioddfjcaa

