import Derived.Test.YthbnnffmhnjpjaaCyEg
import Derived.Test.YthbnnffmhnjpjaaCyE
/-
  Times: cycles and potentials that are checked, on both sides.
-/
namespace Go.Proofs.Ythbnnffmhnjpjaa
open Go.Vm Go.Cy
theorem plainTry_65 : plainFn Try.prog 65 = true := by kernel_rfl
noncomputable def rweight (n : Nat) (a : Nat → Nat → Int) (c : List Int) : Int := @ite _ (cycP n a c) (Classical.propDecidable _) (wtS a c c.length) 0
theorem rw_yes {n : Nat} {a : Nat → Nat → Int} {c : List Int} (h : cycP n a c) : rweight n a c = wtS a c c.length := @if_pos _ (Classical.propDecidable _) h _ _ _
theorem rw_no {n : Nat} {a : Nat → Nat → Int} {c : List Int} (h : ¬ cycP n a c) : rweight n a c = 0 := @if_neg _ (Classical.propDecidable _) h _ _ _
theorem fin_w {σ : List VObj} {k : Nat} {x y : Int} {b b' : Bool} (h : x = y) (h2 : b = b') : deepen σ (k + 3) (.tup [.d (DI x), .d (DB b)]) = some (.tup [DI y, DB b']) := by rw [h, h2]; rfl
set_option maxRecDepth 10000 in
theorem weight65 {d e : DV} {n : Nat} {a : Nat → Nat → Int} {c : List Int} (hd : Mat d (genM n n a)) (he : Ints e c) (hl : c.length ≤ 9223372036854775807) (h1 : 1 ≤ n) (hn : n ≤ 12) (ha : GoodM 1000000 a) : DeepCall Try.prog 65 [d, e] (.tup [DI (rweight n a c), DB (cycB n a c)]) := by
  refine deepCall_K 5 Try.func65 rfl (Nat.le_of_ble_eq_true rfl) fun M W0 => ?_
  refine KC.seq ?_
  refine KC.region ?_
  refine KT.step rfl rfl (K.assign rfl) ?_
  refine KT.step rfl rfl (K.assign rfl) ?_
  refine KT.nil ?_
  refine thenK_n ?_
  refine KC.seq ?_
  refine KC.region ?_
  refine KT.step rfl rfl (K.assign rfl) ?_
  refine KT.nil ?_
  refine thenK_n ?_
  refine KC.seq ?_
  refine KC.seq ?_
  refine KC.region ?_
  refine KT.step rfl rfl (K.move rfl) ?_
  refine KT.step rfl rfl (K.len rfl he Try.underlying33) ?_
  refine KT.step rfl rfl (K.move rfl) ?_
  refine KT.nil ?_
  refine thenK_n ?_
  refine KC.block ?_
  refine KC.loop (fun _ : Nat => []) (fun k => [(0, .d d), (1, .d e), (6, .d (DI 0)), (14, .d e), (15, .d (DI (c.length : Nat))), (16, .d (DI (k : Nat)))]) (fun k => k ≤ c.length ∧ ∀ q, q < k → inN n (c.getD q 0) ∧ difK c q) (fun k => c.length - k) 0 ⟨Nat.zero_le _, fun q hq => by omega⟩ rfl (by simp [Go.Vm.look, extK, enterK]) ?_
  intro k hk
  obtain ⟨hk, hall⟩ := hk
  refine KC.seq ?_
  refine KC.region ?_
  refine KT.step rfl rfl (K.lss rfl rfl) ?_
  refine KT.nil ?_
  refine thenK_n ?_
  refine KC.seq ?_
  refine KC.cond rfl (fun hc17 => ?_) (fun hc17 => ?_)
  · skip
    replace hc17 := of_decide_eq_true hc17
    have hkl : k < c.length := by omega
    have gk : c.getD k 0 = c[k] := getD_get hkl
    refine KC.skip ?_
    refine thenK_n ?_
    refine KC.seq ?_
    refine KC.block ?_
    refine KC.seq ?_
    refine KC.region ?_
    refine KT.step rfl rfl (K.move rfl) ?_
    refine KT.idxI rfl rfl rfl (by assumption) rfl (by omega) Try.underlying33 Try.size3 fun cs19 => ?_
    refine KT.step rfl rfl (K.load rfl Try.agg3) ?_
    refine KT.step rfl rfl (K.assign rfl) ?_
    refine KT.step rfl rfl (K.assign rfl) ?_
    refine KT.nil ?_
    refine thenK_n ?_
    refine KC.seq ?_
    refine KC.seq ?_
    refine KC.region ?_
    refine KT.step rfl rfl (K.move rfl) ?_
    refine KT.step rfl rfl (K.move rfl) ?_
    refine KT.sliceTo rfl rfl rfl (by assumption) rfl (by omega) Try.underlying33 Try.size3 fun r23 hq23 => ?_
    refine KT.step rfl rfl (K.len rfl hq23 Try.underlying33) ?_
    rw [show (c.take k).length = k by simp; omega]
    refine KT.step rfl rfl (K.move rfl) ?_
    refine KT.nil ?_
    refine thenK_n ?_
    refine KC.block ?_
    refine KC.loop (fun _ : Nat => []) (fun q => [(0, .d d), (1, .d e), (6, .d (DI 0)), (14, .d e), (15, .d (DI (c.length : Nat))), (16, .d (DI (k : Nat))), (8, .d (DI c[k])), (23, .d r23), (24, .d (DI (k : Nat))), (25, .d (DI (q : Nat)))]) (fun q => q ≤ k ∧ ∀ q2, q2 < q → c.getD q2 0 ≠ c.getD k 0) (fun q => k - q) 0 ⟨Nat.zero_le _, fun q hq => by omega⟩ rfl (by simp [Go.Vm.look, extK, enterK]) ?_
    intro q hq
    obtain ⟨hq, hdif⟩ := hq
    refine KC.seq ?_
    refine KC.region ?_
    refine KT.step rfl rfl (K.lss rfl rfl) ?_
    refine KT.nil ?_
    refine thenK_n ?_
    refine KC.seq ?_
    refine KC.cond rfl (fun hc26 => ?_) (fun hc26 => ?_)
    · skip
      replace hc26 := of_decide_eq_true hc26
      refine KC.skip ?_
      refine thenK_n ?_
      refine KC.seq ?_
      refine KC.block ?_
      refine KC.seq ?_
      refine KC.region ?_
      refine KT.idxI rfl rfl rfl (by assumption) rfl (by simp; omega) Try.underlying33 Try.size3 fun cs27 => ?_
      rw [List.getElem_take]
      refine KT.step rfl rfl (K.load rfl Try.agg3) ?_
      refine KT.step rfl rfl (K.assign rfl) ?_
      refine KT.nil ?_
      refine thenK_n ?_
      refine KC.seq ?_
      refine KC.region ?_
      refine KT.step rfl rfl (K.move rfl) ?_
      refine KT.step rfl rfl (K.move rfl) ?_
      refine KT.step rfl rfl (K.eql rfl rfl) ?_
      refine KT.nil ?_
      refine thenK_n ?_
      refine KC.cond rfl (fun hc31 => ?_) (fun hc31 => ?_)
      · skip
        replace hc31 := of_decide_eq_true hc31
        have gq : c.getD q 0 = c[q] := getD_get (by omega)
        refine KC.seq ?_
        refine KC.region ?_
        refine KT.step rfl rfl (K.assign rfl) ?_
        refine KT.step rfl rfl (K.assign rfl) ?_
        refine KT.nil ?_
        refine thenK_n ?_
        refine KC.ret ?_
        refine blockK_r ?_
        refine thenK_r ?_
        refine thenK_r ?_
        refine blockK_r ?_
        refine thenK_r ?_
        refine blockK_r ?_
        refine thenK_r ?_
        refine thenK_r ?_
        refine blockK_r ?_
        refine thenK_r ?_
        exact ⟨.inl rfl, _, rfl, fin_w (rw_no (fun h => (h k hkl).2.2.1 q (by omega) (by rw [gk, gq]; omega))).symm (cycB_false (fun h => (h.1 k hkl).2.2.1 q (by omega) (by rw [gk, gq]; omega))).symm⟩
      · skip
        replace hc31 := of_decide_eq_false hc31
        have gq : c.getD q 0 = c[q] := getD_get (by omega)
        refine KC.skip ?_
        refine blockK_n ?_
        refine thenK_n ?_
        refine KC.region ?_
        refine KT.step rfl rfl (K.add rfl rfl (wrap_id (by omega))) ?_
        refine KT.step rfl rfl (K.move rfl) ?_
        refine KT.nil ?_
        refine thenK_n ?_
        refine ⟨q + 1, ⟨by omega, fun q2 hq2 => ?_⟩, by omega, rfl, by simp [Go.Vm.look, extK]⟩
        by_cases e : q2 = q
        · subst e; rw [gk, gq]; omega
        · exact hdif q2 (by omega)
    · skip
      replace hc26 := of_decide_eq_false hc26
      refine KC.exit ?_
      refine thenK_x ?_
      refine thenK_x ?_
      refine blockK_e ?_
      refine thenK_n ?_
      refine KC.seq ?_
      refine KC.region ?_
      refine KT.step rfl rfl (K.move rfl) ?_
      refine KT.step rfl rfl (K.lss rfl rfl) ?_
      refine KT.step rfl rfl (K.move rfl) ?_
      refine KT.bcase (fun hb35 => ?_) (fun hb35 => ?_)
      · skip
        replace hb35 := of_decide_eq_true hb35
        refine KT.skip rfl rfl ?_
        refine KT.skip rfl rfl ?_
        refine KT.skip rfl rfl ?_
        refine KT.skip rfl rfl ?_
        refine KT.step rfl rfl (K.pick rfl (fun _ => rfl) (fun h => by cases h)) ?_
        refine KT.nil ?_
        refine thenK_n ?_
        refine KC.cond rfl (fun hc40 => ?_) (fun hc40 => ?_)
        · skip
          refine KC.seq ?_
          refine KC.region ?_
          refine KT.step rfl rfl (K.assign rfl) ?_
          refine KT.step rfl rfl (K.assign rfl) ?_
          refine KT.nil ?_
          refine thenK_n ?_
          refine KC.ret ?_
          refine blockK_r ?_
          refine thenK_r ?_
          refine thenK_r ?_
          refine blockK_r ?_
          refine thenK_r ?_
          exact ⟨.inl rfl, _, rfl, fin_w (rw_no (fun h => by have := (h k hkl).1; unfold inN at this; rw [gk] at this; omega)).symm (cycB_false (fun h => by have := (h.1 k hkl).1; unfold inN at this; rw [gk] at this; omega)).symm⟩
        · cases hc40
      · skip
        replace hb35 := of_decide_eq_false hb35
        refine KT.step rfl rfl (K.move rfl) ?_
        refine KT.step rfl rfl (K.move rfl) ?_
        refine KT.step rfl rfl (K.len rfl hd Try.underlying22) ?_
        rw [genM_len]
        refine KT.step rfl rfl (K.geq rfl rfl) ?_
        refine KT.step rfl rfl (K.pick rfl (fun h => by cases h) (fun _ => rfl)) ?_
        refine KT.nil ?_
        refine thenK_n ?_
        refine KC.cond rfl (fun hc40 => ?_) (fun hc40 => ?_)
        · skip
          replace hc40 := of_decide_eq_true hc40
          refine KC.seq ?_
          refine KC.region ?_
          refine KT.step rfl rfl (K.assign rfl) ?_
          refine KT.step rfl rfl (K.assign rfl) ?_
          refine KT.nil ?_
          refine thenK_n ?_
          refine KC.ret ?_
          refine blockK_r ?_
          refine thenK_r ?_
          refine thenK_r ?_
          refine blockK_r ?_
          refine thenK_r ?_
          exact ⟨.inl rfl, _, rfl, fin_w (rw_no (fun h => by have := (h k hkl).1; unfold inN at this; rw [gk] at this; omega)).symm (cycB_false (fun h => by have := (h.1 k hkl).1; unfold inN at this; rw [gk] at this; omega)).symm⟩
        · skip
          replace hc40 := of_decide_eq_false hc40
          refine KC.skip ?_
          refine blockK_n ?_
          refine thenK_n ?_
          refine KC.region ?_
          refine KT.step rfl rfl (K.add rfl rfl (wrap_id (by omega))) ?_
          refine KT.step rfl rfl (K.move rfl) ?_
          refine KT.nil ?_
          refine thenK_n ?_
          refine ⟨k + 1, ⟨by omega, fun q2 hq2 => ?_⟩, by omega, rfl, by simp [Go.Vm.look, extK]⟩
          by_cases e : q2 = k
          · subst e
            refine ⟨by rw [gk]; exact ⟨by omega, by omega⟩, fun q3 hq3 => hdif q3 (by omega)⟩
          · exact hall q2 (by omega)
  · skip
    replace hc17 := of_decide_eq_false hc17
    refine KC.exit ?_
    refine thenK_x ?_
    refine thenK_x ?_
    refine blockK_e ?_
    refine thenK_n ?_
    refine KC.seq ?_
    refine KC.seq ?_
    refine KC.region ?_
    refine KT.step rfl rfl (K.move rfl) ?_
    refine KT.step rfl rfl (K.len rfl he Try.underlying33) ?_
    refine KT.step rfl rfl (K.move rfl) ?_
    refine KT.nil ?_
    refine thenK_n ?_
    refine KC.block ?_
    have hk12 : c.length ≤ n := dif_le fun q hq => hall q (by omega)
    replace hall : ∀ q, q < c.length → inN n (c.getD q 0) ∧ difK c q := fun q hq => hall q (by omega)
    clear hk hc17
    refine KC.loop (fun _ : Nat => []) (fun k => [(0, .d d), (1, .d e), (6, .d (DI (wtS a c k))), (42, .d e), (43, .d (DI (c.length : Nat))), (44, .d (DI (k : Nat)))]) (fun k => k ≤ c.length ∧ ∀ q, q < k → arcI a c q ≠ Nv) (fun k => c.length - k) 0 ⟨Nat.zero_le _, fun q hq => by omega⟩ rfl (by simp [Go.Vm.look, extK, enterK, wtS]) ?_
    intro k hk
    obtain ⟨hk, harcs⟩ := hk
    refine KC.seq ?_
    refine KC.region ?_
    refine KT.step rfl rfl (K.lss rfl rfl) ?_
    refine KT.nil ?_
    refine thenK_n ?_
    refine KC.seq ?_
    refine KC.cond rfl (fun hc45 => ?_) (fun hc45 => ?_)
    · skip
      replace hc45 := of_decide_eq_true hc45
      have hkl : k < c.length := by omega
      have hmod : (k + 1) % c.length < c.length := Nat.mod_lt _ (by omega)
      have gk : c.getD k 0 = c[k] := getD_get hkl
      have gn : nx c k = c[(k + 1) % c.length] := getD_get hmod
      have hik := (hall k hkl).1
      have hin := (hall _ hmod).1
      have gn2 : c.getD ((k + 1) % c.length) 0 = c[(k + 1) % c.length] := getD_get hmod
      rw [gk] at hik
      rw [gn2] at hin
      unfold inN at hik hin
      obtain ⟨x, hx⟩ := Int.eq_ofNat_of_zero_le hik.1
      obtain ⟨y, hy⟩ := Int.eq_ofNat_of_zero_le hin.1
      rw [hx] at gk hik
      rw [hy] at hin
      have hx2 : (c.getD k 0).toNat = x := by rw [gk]; rfl
      have hy2 : (nx c k).toNat = y := by rw [gn, hy]; rfl
      have harc : arcI a c k = a x y := by unfold arcI; rw [hx2, hy2]
      refine KC.skip ?_
      refine thenK_n ?_
      refine KC.seq ?_
      refine KC.block ?_
      refine KC.seq ?_
      refine KC.region ?_
      refine KT.step rfl rfl (K.move rfl) ?_
      refine KT.idxI rfl rfl rfl (by assumption) rfl (by omega) Try.underlying33 Try.size3 fun cs47 => ?_
      refine KT.step rfl rfl (K.load rfl Try.agg3) ?_
      refine KT.step rfl rfl (K.assign rfl) ?_
      refine KT.step rfl rfl (K.assign rfl) ?_
      refine KT.nil ?_
      refine thenK_n ?_
      refine KC.seq ?_
      refine KC.draw Try.mixed ?_
      simp only [hx]
      refine KT.step rfl rfl (K.move rfl) ?_
      refine KT.step rfl rfl (K.move rfl) ?_
      refine KT.idx rfl rfl rfl (by assumption) rfl (by rw [genM_len]; omega) Try.underlying22 Try.size33 fun c51 cs51 hq51 => ?_
      rw [genM_row] at hq51
      refine KT.step rfl rfl (K.load rfl Try.agg33) ?_
      refine KT.step rfl rfl (K.move rfl) ?_
      refine KT.step rfl rfl (K.move rfl) ?_
      refine KT.step rfl rfl (K.add rfl rfl (show IntKind.i64.wrap ((k : Int) + 1) = ((k + 1 : Nat) : Int) from wrap_id (by omega))) ?_
      refine KT.step rfl rfl (K.move rfl) ?_
      refine KT.step rfl rfl (K.len rfl he Try.underlying33) ?_
      refine KT.step rfl rfl (K.rem rfl rfl (by omega) (show Int.tmod ((k + 1 : Nat) : Int) (c.length : Nat) = (((k + 1) % c.length : Nat) : Int) from by rw [Int.tmod_eq_emod_of_nonneg (by omega)]; rfl)) ?_
      refine KT.idxI rfl rfl rfl (by assumption) rfl (Nat.mod_lt _ (by omega)) Try.underlying33 Try.size3 fun cs59 => ?_
      simp only [hy]
      refine KT.step rfl rfl (K.load rfl Try.agg3) ?_
      refine KT.idxI rfl rfl rfl (by assumption) rfl (by simp; omega) Try.underlying33 Try.size3 fun cs61 => ?_
      rw [get_range]
      refine KT.step rfl rfl (K.load rfl Try.agg3) ?_
      refine KT.step rfl rfl (K.assign rfl) ?_
      refine KT.nil ?_
      refine ⟨by kernel_rfl, ?_⟩
      refine thenK_n ?_
      refine KC.seq ?_
      refine KC.seq ?_
      refine KC.region ?_
      refine KT.step rfl rfl (K.move rfl) ?_
      refine KT.step rfl rfl (K.eql rfl rfl) ?_
      refine KT.nil ?_
      refine thenK_n ?_
      refine KC.cond rfl (fun hc64 => ?_) (fun hc64 => ?_)
      · skip
        replace hc64 := of_decide_eq_true hc64
        refine KC.seq ?_
        refine KC.region ?_
        refine KT.step rfl rfl (K.assign rfl) ?_
        refine KT.step rfl rfl (K.assign rfl) ?_
        refine KT.nil ?_
        refine thenK_n ?_
        refine KC.ret ?_
        refine thenK_r ?_
        refine blockK_r ?_
        refine thenK_r ?_
        refine thenK_r ?_
        refine blockK_r ?_
        refine thenK_r ?_
        exact ⟨.inl rfl, _, rfl, fin_w (rw_no (fun h => (h k hkl).2.2.2 (by rw [harc]; exact hc64))).symm (cycB_false (fun h => (h.1 k hkl).2.2.2 (by rw [harc]; exact hc64))).symm⟩
      · skip
        replace hc64 := of_decide_eq_false hc64
        have harcs' : ∀ q, q < k + 1 → arcI a c q ≠ Nv := fun q hq => by
          by_cases e : q = k
          · subst e; rw [harc]; exact hc64
          · exact harcs q (by omega)
        have hw2 := wtS_bd ha (by omega) (c := c) (k := k + 1) harcs'
        simp only [wtS, harc] at hw2
        refine KC.skip ?_
        refine thenK_n ?_
        refine KC.region ?_
        refine KT.step rfl rfl (K.move rfl) ?_
        refine KT.step rfl rfl (K.move rfl) ?_
        refine KT.step rfl rfl (K.add rfl rfl (wrap_id (by omega))) ?_
        refine KT.step rfl rfl (K.assign rfl) ?_
        refine KT.nil ?_
        refine blockK_n ?_
        refine thenK_n ?_
        refine KC.region ?_
        refine KT.step rfl rfl (K.add rfl rfl (wrap_id (by omega))) ?_
        refine KT.step rfl rfl (K.move rfl) ?_
        refine KT.nil ?_
        refine thenK_n ?_
        refine ⟨k + 1, ⟨by omega, harcs'⟩, by omega, rfl, by simp [Go.Vm.look, extK, wtS, harc]⟩
    · skip
      replace hc45 := of_decide_eq_false hc45
      have hkl : k = c.length := by omega
      subst hkl
      have hcyc : cycP n a c := fun q hq => ⟨(hall q hq).1, (hall _ (Nat.mod_lt _ (by omega))).1, (hall q hq).2, harcs q hq⟩
      refine KC.exit ?_
      refine thenK_x ?_
      refine thenK_x ?_
      refine blockK_e ?_
      refine thenK_n ?_
      refine KC.seq ?_
      refine KC.region ?_
      refine KT.step rfl rfl (K.move rfl) ?_
      refine KT.step rfl rfl (K.move rfl) ?_
      refine KT.step rfl rfl (K.len rfl he Try.underlying33) ?_
      refine KT.step rfl rfl (K.gtr rfl rfl) ?_
      refine KT.step rfl rfl (K.assign rfl) ?_
      refine KT.step rfl rfl (K.assign rfl) ?_
      refine KT.nil ?_
      refine thenK_n ?_
      refine KC.ret ?_
      refine ⟨.inl rfl, _, rfl, fin_w (rw_yes hcyc).symm ?_⟩
      by_cases h0 : 0 < c.length
      · rw [cycB_true hcyc h0]; exact decide_eq_true (by omega)
      · rw [cycB_false (fun h => h0 h.2)]; exact decide_eq_false (by omega)
end Go.Proofs.Ythbnnffmhnjpjaa

