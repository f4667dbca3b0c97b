import Derived.Test.YtjfpeiioddfjcaaZnV
import Derived.Test.YtjfpeiioddfjcaaZnG0
/-
  Zones: points.
-/
namespace Go.Proofs.Ytjfpeiioddfjcaa
open Go.Vm Go.Zn
theorem plainTry_72 : plainFn Try.prog 72 = true := by kernel_rfl
theorem plainTry_73 : plainFn Try.prog 73 = true := by kernel_rfl
theorem plainTry_31 : plainFn Try.prog 31 = true := by kernel_rfl
theorem plainTry_38 : plainFn Try.prog 38 = true := by kernel_rfl
theorem plainTry_37 : plainFn Try.prog 37 = true := by kernel_rfl
theorem Try.agg107 : isAggT Try.prog 107 = some false := by kernel_rfl
theorem Try.size107 : sizeT Try.prog 107 = some 1 := by kernel_rfl
theorem Try.one107 : OneT Try.prog 107 (.slice none 0 0) := ⟨by kernel_rfl, by kernel_rfl, rfl, of_decide_eq_true (by kernel_rfl)⟩
theorem Try.agg105 : isAggT Try.prog 105 = some true := by kernel_rfl
theorem Try.size105 : sizeT Try.prog 105 = some 4 := by kernel_rfl
theorem Try.zero105 : zeroT Try.prog 105 = some (.agg #[.int .i64 0, .int .i64 0, .int .i64 0, .int .i64 0]) := by kernel_rfl
theorem build38 (a b c : Int) : pureRun Try.prog (Instr.build 38 #[(0, .int .i64 a), (1, .int .i64 b), (2, .int .i64 c)]) = some (.agg #[.int .i64 a, .int .i64 b, .int .i64 c]) := by kernel_rfl
set_option maxRecDepth 10000 in
theorem hold72 {d : DV} {L : List G3} {v : Nat → Int} {den : Int} (hd : Gds d L) (hl : L.length ≤ 1000000) (hv : ∀ i, i < 4 → 0 ≤ v i ∧ v i ≤ 1000000000)
    (hL : ∀ g ∈ L, (0 ≤ g.1 ∧ g.1 ≤ 3) ∧ (0 ≤ g.2.1 ∧ g.2.1 ≤ 3) ∧ -1000000000000000 ≤ g.2.2 / 2 * den ∧ g.2.2 / 2 * den ≤ 1000000000000000) : DeepCall Try.prog 72 [d, .agg (c4 v), DI den] (DB (holdB L v den)) := by
  refine deepCall_K 5 Try.func72 rfl (Nat.le_of_ble_eq_true rfl) fun M W0 => ?_
  refine KC.seq ?_
  refine KC.region ?_
  refine KT.step rfl rfl (K.box rfl) ?_
  refine KT.step rfl rfl (K.assign rfl) ?_
  refine KT.nil ?_
  refine thenK_n ?_
  refine KC.seq ?_
  refine KC.seq ?_
  refine KC.region ?_
  refine KT.step rfl rfl (K.move rfl) ?_
  refine KT.step rfl rfl (K.lenG rfl hd Try.underlying107) ?_
  refine KT.step rfl rfl (K.move rfl) ?_
  refine KT.nil ?_
  refine thenK_n ?_
  refine KC.block ?_
  refine KC.loop (fun p : List VObj × Nat => p.1) (fun p => [(2, .d (DI den)), (4, .optr 0 0), (9, .d d), (10, .d (DI (L.length : Nat))), (11, .d (DI (p.2 : Nat)))]) (fun p => p.1[0]? = some ⟨(c4 v).map .d, 0⟩ ∧ p.2 ≤ L.length ∧ ∀ q (h : q < L.length), q < p.2 → ¬ (gre (L[q]).2.2 den < v (L[q]).1.toNat - v (L[q]).2.1.toNat)) (fun p => L.length - p.2) (_, 0) ⟨rfl, Nat.zero_le _, fun q _ h => by omega⟩ rfl (by simp [Go.Vm.look, extK, enterK]) ?_
  intro p hp
  obtain ⟨y0, hp2, hall⟩ := hp
  refine KC.seq ?_
  refine KC.region ?_
  refine KT.step rfl rfl (K.lss rfl rfl) ?_
  refine KT.nil ?_
  refine thenK_n ?_
  refine KC.seq ?_
  refine KC.cond rfl (fun hc12 => ?_) (fun hc12 => ?_)
  · skip
    replace hc12 := of_decide_eq_true hc12
    have hil : p.2 < L.length := by omega
    refine KC.skip ?_
    refine thenK_n ?_
    refine KC.seq ?_
    refine KC.block ?_
    refine KC.seq ?_
    refine KC.region ?_
    refine KT.step rfl rfl (K.idxG rfl hd rfl hil Try.underlying107 Try.size38) ?_
    refine KT.step rfl rfl (K.loadG hil rfl Try.agg38 Try.size38) ?_
    refine KT.step rfl rfl (K.alloc Try.zero38) ?_
    refine KT.storeL (cs := (gd3 L[p.2]).map .d) rfl rfl rfl rfl rfl rfl rfl Try.size38 ?_
    refine KT.nil ?_
    refine thenK_n ?_
    refine KC.seq ?_
    obtain ⟨⟨q1, q2⟩, ⟨q3, q4⟩, hgb⟩ := hL _ (List.getElem_mem hil)
    obtain ⟨gi, ei⟩ := Int.eq_ofNat_of_zero_le q1
    obtain ⟨gj, ej⟩ := Int.eq_ofNat_of_zero_le q3
    have y0 : (p.1 ++ [(⟨(gd3 L[p.2]).map .d, 0⟩ : VObj)])[0]? = some ⟨(c4 v).map .d, 0⟩ := get_left y0
    have eg : (gd3 L[p.2]).map XV.d = [.d (DI gi), .d (DI gj), .d (DI (L[p.2]).2.2)] := by unfold gd3; rw [ei, ej]; rfl
    rw [eg] at y0 ⊢
    have hv1 := hv gi (by omega)
    have hv2 := hv gj (by omega)
    refine KC.draw Try.mixed ?_
    refine KT.step rfl rfl (K.fieldAddrO rfl Try.fld38_0 Try.size3) ?_
    refine KT.step rfl rfl (K.loadO rfl (List.getElem?_concat_length ..) (by simp) rfl Try.agg3) ?_
    refine KT.step rfl rfl (K.idxA rfl rfl (show gi < 4 by omega) Try.underlying105 Try.size3) ?_
    refine KT.step rfl rfl (K.loadO rfl y0 (by simp) (c4_get (by omega)) Try.agg3) ?_
    refine KT.step rfl rfl (K.fieldAddrO rfl Try.fld38_1 Try.size3) ?_
    refine KT.step rfl rfl (K.loadO rfl (List.getElem?_concat_length ..) (by simp) rfl Try.agg3) ?_
    refine KT.step rfl rfl (K.idxA rfl rfl (show gj < 4 by omega) Try.underlying105 Try.size3) ?_
    refine KT.step rfl rfl (K.loadO rfl y0 (by simp) (c4_get (by omega)) Try.agg3) ?_
    refine KT.step rfl rfl (K.sub rfl rfl (wrap_id (by omega))) ?_
    refine KT.step rfl rfl (K.fieldAddrO rfl Try.fld38_2 Try.size3) ?_
    refine KT.step rfl rfl (K.loadO rfl (List.getElem?_concat_length ..) (by simp) rfl Try.agg3) ?_
    refine KT.step rfl rfl (K.move rfl) ?_
    refine KT.step rfl rfl (K.call2 rfl rfl plainTry_98 (greatest98 hgb)) ?_
    refine KT.step rfl rfl (K.gtr rfl rfl) ?_
    refine KT.nil ?_
    refine ⟨by kernel_rfl, ?_⟩
    refine thenK_n ?_
    refine KC.cond rfl (fun hc28 => ?_) (fun hc28 => ?_)
    · skip
      replace hc28 := of_decide_eq_true hc28
      refine KC.seq ?_
      refine KC.region ?_
      refine KT.step rfl rfl (K.assign rfl) ?_
      refine KT.nil ?_
      refine thenK_n ?_
      refine KC.ret ?_
      refine blockK_r ?_
      refine thenK_r ?_
      refine thenK_r ?_
      refine blockK_r ?_
      refine thenK_r ?_
      exact ⟨.inl rfl, _, rfl, fin_b (by
        unfold holdB
        refine all_false hil ?_
        rw [ei, ej]
        show (!decide (gre (L[p.2]).2.2 den < v gi - v gj)) = false
        rw [decide_eq_true hc28]; rfl)⟩
    · skip
      replace hc28 := of_decide_eq_false hc28
      refine KC.skip ?_
      refine blockK_n ?_
      refine thenK_n ?_
      refine KC.region ?_
      refine KT.step rfl rfl (K.add rfl rfl (wrap_id (by omega))) ?_
      refine KT.step rfl rfl (K.move rfl) ?_
      refine KT.nil ?_
      refine thenK_n ?_
      refine ⟨(_, p.2 + 1), ⟨y0, by simp only; omega, fun q h hq => ?_⟩, by simp only; omega, rfl, by simp [Go.Vm.look, extK]⟩
      by_cases e : q = p.2
      · subst e
        rw [ei, ej]
        exact hc28
      · exact hall q h (by simp only at hq; omega)
  · skip
    replace hc12 := of_decide_eq_false hc12
    refine KC.exit ?_
    refine thenK_x ?_
    refine thenK_x ?_
    refine blockK_e ?_
    refine thenK_n ?_
    refine KC.seq ?_
    refine KC.region ?_
    refine KT.step rfl rfl (K.assign rfl) ?_
    refine KT.nil ?_
    refine thenK_n ?_
    refine KC.ret ?_
    exact ⟨.inl rfl, _, rfl, fin_b (by
      unfold holdB
      refine List.all_eq_true.2 fun g hg => ?_
      obtain ⟨q, hq, rfl⟩ := List.getElem_of_mem hg
      rw [decide_eq_false (hall q hq (by omega))]; rfl)⟩
set_option maxRecDepth 10000 in
theorem guards73 {n : Nat} {a : Nat → Nat → Int} (hn : n ≤ 4) (h1 : 1 ≤ n) : DeepCall Try.prog 73 [.agg (mc n a)] (gdsD (ztG n a n 0)) := by
  refine deepCall_K 5 Try.func73 rfl (Nat.le_of_ble_eq_true rfl) fun M W0 => ?_
  refine KC.seq ?_
  refine KC.region ?_
  refine KT.step rfl rfl (K.box rfl) ?_
  refine KT.step rfl rfl (K.assign rfl) ?_
  refine KT.nil ?_
  refine thenK_n ?_
  refine KC.seq ?_
  refine KC.region ?_
  refine KT.step rfl rfl (K.assign rfl) ?_
  refine KT.nil ?_
  refine thenK_n ?_
  refine KC.seq ?_
  refine KC.seq ?_
  refine KC.region ?_
  refine KT.step rfl rfl (K.fieldAddrO rfl Try.fld87_0 Try.size3) ?_
  refine KT.step rfl rfl (K.loadO rfl rfl (by simp) rfl Try.agg3) ?_
  refine KT.step rfl rfl (K.move rfl) ?_
  refine KT.nil ?_
  refine thenK_n ?_
  refine KC.block ?_
  refine KC.loop (fun p : List VObj × XV × Nat => p.1) (fun p => [(1, .optr 0 0), (3, p.2.1), (7, .d (DI (n : Nat))), (8, .d (DI (p.2.2 : Nat)))]) (fun p => p.2.2 ≤ n ∧ p.1[0]? = some ⟨mcx n a, 0⟩ ∧ OwnK 3 p.1 p.2.1 ((flatG (ztG n a p.2.2 0)).map .d) ∧ idX p.2.1 ≠ some 0) (fun p => n - p.2.2) (_, .d Dnil, 0) ⟨Nat.zero_le _, rfl, .nil, by simp [idX]⟩ rfl (by simp [Go.Vm.look, extK, enterK]) ?_
  intro p hp
  obtain ⟨hi, y0, hown, hne⟩ := hp
  refine KC.seq ?_
  refine KC.region ?_
  refine KT.step rfl rfl (K.lss rfl rfl) ?_
  refine KT.nil ?_
  refine thenK_n ?_
  refine KC.seq ?_
  refine KC.cond rfl (fun hc9 => ?_) (fun hc9 => ?_)
  · skip
    replace hc9 := of_decide_eq_true hc9
    refine KC.skip ?_
    refine thenK_n ?_
    refine KC.seq ?_
    refine KC.block ?_
    refine KC.seq ?_
    refine KC.region ?_
    refine KT.step rfl rfl (K.move rfl) ?_
    refine KT.step rfl rfl (K.assign rfl) ?_
    refine KT.nil ?_
    refine thenK_n ?_
    refine KC.seq ?_
    refine KC.region ?_
    refine KT.step rfl rfl (K.fieldAddrO rfl Try.fld87_0 Try.size3) ?_
    refine KT.step rfl rfl (K.loadO rfl y0 (by simp) rfl Try.agg3) ?_
    refine KT.step rfl rfl (K.move rfl) ?_
    refine KT.nil ?_
    refine thenK_n ?_
    refine KC.block ?_
    refine KC.loop (fun r : List VObj × XV × Nat => r.1) (fun r => [(1, .optr 0 0), (3, r.2.1), (7, .d (DI (n : Nat))), (8, .d (DI (p.2.2 : Nat))), (4, .d (DI (p.2.2 : Nat))), (12, .d (DI (n : Nat))), (13, .d (DI (r.2.2 : Nat)))]) (fun r => r.2.2 ≤ n ∧ r.1[0]? = some ⟨mcx n a, 0⟩ ∧ OwnK 3 r.1 r.2.1 ((flatG (ztG n a p.2.2 r.2.2)).map .d) ∧ idX r.2.1 ≠ some 0) (fun r => n - r.2.2) (_, p.2.1, 0) ⟨Nat.zero_le _, y0, hown, hne⟩ rfl (by simp [Go.Vm.look, extK, enterK]) ?_
    clear y0 hown hne
    intro r hr
    obtain ⟨hj, y0, hown, hne⟩ := hr
    refine KC.seq ?_
    refine KC.region ?_
    refine KT.step rfl rfl (K.lss rfl rfl) ?_
    refine KT.nil ?_
    refine thenK_n ?_
    refine KC.seq ?_
    refine KC.cond rfl (fun hc14 => ?_) (fun hc14 => ?_)
    · skip
      replace hc14 := of_decide_eq_true hc14
      refine KC.skip ?_
      refine thenK_n ?_
      refine KC.seq ?_
      refine KC.block ?_
      refine KC.seq ?_
      refine KC.region ?_
      refine KT.step rfl rfl (K.move rfl) ?_
      refine KT.step rfl rfl (K.assign rfl) ?_
      refine KT.nil ?_
      refine thenK_n ?_
      refine KC.region ?_
      refine KT.step rfl rfl (K.move rfl) ?_
      refine KT.step rfl rfl (K.move rfl) ?_
      refine KT.step rfl rfl (K.move rfl) ?_
      refine KT.step rfl rfl (K.move rfl) ?_
      refine KT.step rfl rfl (K.move rfl) ?_
      refine KT.step rfl rfl (K.fieldAddrO rfl Try.fld87_1 Try.size85) ?_
      refine KT.step rfl rfl (K.idxA rfl rfl (by omega) Try.underlying85 Try.size84) ?_
      refine KT.step rfl rfl (K.idxA rfl rfl (by omega) Try.underlying84 Try.size3) ?_
      refine KT.step rfl rfl (K.getM rfl y0 rfl (by omega) (by omega) (by decide) Try.agg3) ?_
      refine KT.step rfl rfl (K.buildL rfl (build38 _ _ _)) ?_
      refine KT.step rfl rfl (K.buildC (k := 3) rfl rfl rfl Try.underlying107 Try.size38 Try.zero38 (by decide)) ?_
      refine KT.appK (k := 3) rfl rfl rfl rfl (hown.pushed _) (List.getElem?_concat_length ..) rfl rfl (by rw [List.length_map, flatG_len, ztG_len]; have : p.2.2 * n ≤ 4 * 4 := Nat.mul_le_mul (by omega) hn; omega) Try.underlying107 Try.size38 (of_decide_eq_true (by kernel_rfl)) (by kernel_rfl) (by omega) fun σ2 x2 ho2 k2 w2 => ?_
      have y0' : σ2[0]? = some ⟨mcx n a, 0⟩ := (k2 0 hne (by simp)).trans (get_left y0)
      have hne2 : idX x2 ≠ some 0 := by
        obtain ⟨j, hj1, hj2⟩ := w2
        rw [hj1]; intro h; cases h; simp at hj2
      refine KT.step rfl rfl (K.assign rfl) ?_
      refine KT.nil ?_
      refine blockK_n ?_
      refine thenK_n ?_
      refine KC.region ?_
      refine KT.step rfl rfl (K.add rfl rfl (wrap_id (by omega))) ?_
      refine KT.step rfl rfl (K.move rfl) ?_
      refine KT.nil ?_
      refine thenK_n ?_
      refine ⟨(σ2, x2, r.2.2 + 1), ⟨by simp only; omega, y0', ?_, hne2⟩, by simp only; omega, rfl, by simp [Go.Vm.look, extK]⟩
      show OwnK 3 σ2 x2 ((flatG (ztG n a p.2.2 (r.2.2 + 1))).map .d)
      rw [ztG_step, flatG_snoc, List.map_append]
      exact ho2
    · skip
      replace hc14 := of_decide_eq_false hc14
      refine KC.exit ?_
      refine thenK_x ?_
      refine thenK_x ?_
      refine blockK_e ?_
      refine blockK_n ?_
      refine thenK_n ?_
      refine KC.region ?_
      refine KT.step rfl rfl (K.add rfl rfl (wrap_id (by omega))) ?_
      refine KT.step rfl rfl (K.move rfl) ?_
      refine KT.nil ?_
      refine thenK_n ?_
      have e : r.2.2 = n := by omega
      rw [e, ztG_next] at hown
      refine ⟨(r.1, r.2.1, p.2.2 + 1), ⟨by simp only; omega, y0, hown, hne⟩, by simp only; omega, rfl, by simp [Go.Vm.look, extK]⟩
  · skip
    replace hc9 := of_decide_eq_false hc9
    refine KC.exit ?_
    refine thenK_x ?_
    refine thenK_x ?_
    refine blockK_e ?_
    refine thenK_n ?_
    refine KC.seq ?_
    refine KC.region ?_
    refine KT.step rfl rfl (K.move rfl) ?_
    refine KT.step rfl rfl (K.assign rfl) ?_
    refine KT.nil ?_
    refine thenK_n ?_
    refine KC.ret ?_
    have e : p.2.2 = n := by omega
    rw [e] at hown
    exact ⟨.inl rfl, _, rfl, fin_gds hown (by rw [ztG_len]; have : 1 * 1 ≤ n * n := Nat.mul_le_mul h1 h1; omega)⟩
end Go.Proofs.Ytjfpeiioddfjcaa

