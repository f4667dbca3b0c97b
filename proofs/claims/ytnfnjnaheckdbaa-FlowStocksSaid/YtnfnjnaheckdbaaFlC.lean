import Derived.Test.YtnfnjnaheckdbaaFlB
/-
  Dataflow graphs: are the rates balanced, and their denominator.
-/
namespace Go.Proofs.Ytnfnjnaheckdbaa
open Go.Vm Go.Fl
theorem plainTry_75 : plainFn Try.prog 75 = true := by kernel_rfl
theorem plainTry_76 : plainFn Try.prog 76 = true := by kernel_rfl

def balP (R : Rat6) (l : LN) : Bool := !(knB (R l.f) && decide (timesF (R l.f) l.g l.k ≠ R l.t))
theorem knum5 (R : Rat6) : knum R - 1 ≤ 5 := by have := knum_le R; omega
theorem tm_ok {N : Nat} {R : Rat6} (hG : GoodR N R) {i : Nat} (hk : knB (R i) = true) {n d : Nat} (h1 : 1 ≤ n) (h2 : n ≤ 6) (h3 : d ≤ 6) : (R i).1 * n ≤ 9223372036854775807 ∧ (R i).2 * d ≤ 9223372036854775807 ∧ 0 < (R i).1 * n := by
  have hg := hG.val _ hk
  obtain ⟨b1, b2⟩ := hg.le (knum5 R)
  have m1 : (R i).1 * n ≤ 777600000 * 6 := Nat.mul_le_mul b1 h2
  have m2 : (R i).2 * d ≤ 777600000 * 6 := Nat.mul_le_mul b2 h3
  exact ⟨by omega, by omega, Nat.mul_pos hg.n0 h1⟩
set_option maxRecDepth 10000 in
theorem balanced75 {d : DV} {L : List LN} {N : Nat} {R : Rat6} {cap : Option Nat} (hd : Lks d (L.map LN.z)) (hl : L.length ≤ 10) (_ : N ≤ 6) (hL : ∀ l ∈ L, OkL N l) (hG : GoodR N R) :
    DeepCall Try.prog 75 [.agg [DI (N : Nat), d], .sl (frN N R) N cap] (DB (balB L R)) := by
  refine deepCall_K 5 Try.func75 rfl (Nat.le_of_ble_eq_true rfl) fun M W0 => ?_
  refine KC.seq ?_
  refine KC.region ?_
  refine KT.step rfl rfl (K.box rfl) ?_
  refine KT.step rfl rfl (K.assign rfl) ?_
  refine KT.nil ?_
  refine thenK_n ?_
  refine KC.seq ?_
  refine KC.seq ?_
  refine KC.region ?_
  refine KT.step rfl rfl (K.fieldAddrO rfl Try.fld31_1 Try.size29) ?_
  refine KT.step rfl rfl (K.loadO rfl rfl (by simp) rfl Try.agg29) ?_
  refine KT.step rfl rfl (K.lenN rfl hd Try.underlying29) ?_
  refine KT.step rfl rfl (K.move rfl) ?_
  refine KT.nil ?_
  refine thenK_n ?_
  refine KC.block ?_
  refine KC.loop (fun p : List VObj × Nat => p.1) (fun p => [(1, .d (.sl (frN N R) N cap)), (2, .optr 0 0), (9, .d d), (10, .d (DI (L.length : Nat))), (11, .d (DI (p.2 : Nat)))]) (fun p => p.2 ≤ L.length ∧ (L.take p.2).all (balP R) = true ∧ p.1[0]? = some ⟨[.d (DI (N : Nat)), .d d], 0⟩) (fun p => L.length - p.2) (_, 0) ⟨Nat.zero_le _, by simp, rfl⟩ rfl (by simp [Go.Vm.look, extK, enterK]) ?_
  intro p hp
  obtain ⟨σ0, i⟩ := p
  obtain ⟨hi, hall, y0⟩ := hp
  simp only at hi hall y0 ⊢
  have g0 := (List.getElem?_eq_some_iff.1 y0).1
  refine KC.seq ?_
  refine KC.region ?_
  refine KT.step rfl rfl (K.lss rfl rfl) ?_
  refine KT.nil ?_
  refine thenK_n ?_
  refine KC.seq ?_
  refine KC.cond rfl (fun hc12 => ?_) (fun hc12 => ?_)
  · skip
    replace hc12 := of_decide_eq_true hc12
    have hil : i < L.length := by omega
    have ok := hL _ (List.getElem_mem hil)
    refine KC.skip ?_
    refine thenK_n ?_
    refine KC.seq ?_
    refine KC.block ?_
    refine KC.seq ?_
    refine KC.region ?_
    refine KT.step rfl rfl (K.idxN rfl hd rfl hil Try.underlying29 Try.size62) ?_
    refine KT.step rfl rfl (K.loadN hil rfl Try.agg62 Try.size62) ?_
    refine KT.step rfl rfl (K.alloc Try.zero62) ?_
    refine KT.storeH (cs := (lk5 L[i].z).map XV.d) rfl rfl rfl rfl (List.getElem?_concat_length ..) rfl (Nat.le_refl _) rfl Try.size62 fun σ1 l1 u1 v1 => ?_
    simp only [List.length_append, List.length_cons, List.length_nil] at l1
    replace u1 := u1.trans (congrArg (fun c => some (VObj.mk c 0)) (splice_all (by rfl)))
    have y0 := (v1 (0) (by omega)).trans ((List.getElem?_append_left (by omega)).trans y0)
    have x1 := u1
    refine KT.nil ?_
    refine thenK_n ?_
    refine KC.seq ?_
    refine KC.region ?_
    refine KT.step rfl rfl (K.move rfl) ?_
    refine KT.step rfl rfl (K.fieldAddrO rfl Try.fld62_0 Try.size3) ?_
    refine KT.step rfl rfl (K.loadO rfl x1 (by simp) rfl Try.agg3) ?_
    refine KT.step rfl rfl (K.idxDK rfl rfl ok.f Try.underlying111 Try.size116) ?_
    refine KT.step rfl rfl (K.loadF ok.f rfl Try.agg116 Try.size116) ?_
    refine KT.step rfl rfl (K.alloc Try.zero116) ?_
    refine KT.storeH (cs := [.d (DI ((R L[i].f).1 : Nat)), .d (DI ((R L[i].f).2 : Nat))]) rfl rfl rfl rfl (List.getElem?_concat_length ..) rfl (Nat.le_refl _) rfl Try.size116 fun σ2 l2 u2 v2 => ?_
    simp only [List.length_append, List.length_cons, List.length_nil] at l2
    replace u2 := u2.trans (congrArg (fun c => some (VObj.mk c 0)) (splice_all (by rfl)))
    have y0 := (v2 (0) (by omega)).trans ((List.getElem?_append_left (by omega)).trans y0)
    have x1 := (v2 (σ0.length) (by omega)).trans ((List.getElem?_append_left (by omega)).trans x1)
    refine KT.nil ?_
    refine thenK_n ?_
    refine KC.seq ?_
    refine KC.draw Try.mixed ?_
    refine KT.step rfl rfl (K.loadOA ([DI ((R L[i].f).1 : Nat), DI ((R L[i].f).2 : Nat)]) rfl u2 (by decide) Try.agg116 Try.size116 rfl) ?_
    refine KT.step rfl rfl (K.buildL rfl build116z) ?_
    refine KT.step rfl rfl (K.fraN rfl rfl) ?_
    refine KT.step rfl rfl (K.move rfl) ?_
    refine KT.bcase (fun hb23 => ?_) (fun hb23 => ?_)
    · skip
      obtain ⟨m1, m2, m3⟩ := tm_ok hG hb23 ok.g1 ok.g6 ok.k6
      refine KT.step rfl rfl (K.loadOA ([DI ((R L[i].f).1 : Nat), DI ((R L[i].f).2 : Nat)]) rfl u2 (by decide) Try.agg116 Try.size116 rfl) ?_
      refine KT.step rfl rfl (K.fieldAddrO rfl Try.fld62_2 Try.size3) ?_
      refine KT.step rfl rfl (K.loadO rfl x1 (by simp) rfl Try.agg3) ?_
      refine KT.step rfl rfl (K.fieldAddrO rfl Try.fld62_3 Try.size3) ?_
      refine KT.step rfl rfl (K.loadO rfl x1 (by simp) rfl Try.agg3) ?_
      refine KT.step rfl rfl (K.call3 rfl rfl rfl plainTry_103 (times103 m1 m2 m3)) ?_
      refine KT.step rfl rfl (K.move rfl) ?_
      refine KT.step rfl rfl (K.fieldAddrO rfl Try.fld62_1 Try.size3) ?_
      refine KT.step rfl rfl (K.loadO rfl x1 (by simp) rfl Try.agg3) ?_
      refine KT.step rfl rfl (K.idxDK rfl rfl ok.t Try.underlying111 Try.size116) ?_
      refine KT.step rfl rfl (K.loadF ok.t rfl Try.agg116 Try.size116) ?_
      refine KT.step rfl rfl (K.fraNe rfl rfl) ?_
      refine KT.step rfl rfl (K.pick rfl (fun _ => rfl) (fun h => by cases h)) ?_
      refine KT.nil ?_
      refine ⟨by kernel_rfl, ?_⟩
      refine thenK_n ?_
      refine KC.cond rfl (fun hc36 => ?_) (fun hc36 => ?_)
      · skip
        refine KC.seq ?_
        refine KC.region ?_
        refine KT.step rfl rfl (K.assign rfl) ?_
        refine KT.nil ?_
        refine thenK_n ?_
        refine KC.ret ?_
        refine blockK_r ?_
        refine thenK_r ?_
        refine thenK_r ?_
        refine blockK_r ?_
        refine thenK_r ?_
        refine ⟨.inl rfl, _, rfl, fin_b (all_false (p := balP R) hil ?_)⟩
        unfold balP; rw [hb23, hc36]; rfl
      · skip
        refine KC.skip ?_
        refine blockK_n ?_
        refine thenK_n ?_
        refine KC.region ?_
        refine KT.step rfl rfl (K.add rfl rfl (wrap_id (by omega))) ?_
        refine KT.step rfl rfl (K.move rfl) ?_
        refine KT.nil ?_
        refine thenK_n ?_
        refine ⟨(σ2, i + 1), ⟨by simp only; omega, ?_, y0⟩, by simp only; omega, rfl, by simp [Go.Vm.look, extK]⟩
        rw [all_take _ hil, hall, Bool.true_and]
        unfold balP
        rw [hc36, Bool.and_false]; rfl
    · skip
      refine KT.skip rfl rfl ?_
      refine KT.skip rfl rfl ?_
      refine KT.skip rfl rfl ?_
      refine KT.skip rfl rfl ?_
      refine KT.skip rfl rfl ?_
      refine KT.skip rfl rfl ?_
      refine KT.skip rfl rfl ?_
      refine KT.skip rfl rfl ?_
      refine KT.skip rfl rfl ?_
      refine KT.skip rfl rfl ?_
      refine KT.skip rfl rfl ?_
      refine KT.skip rfl rfl ?_
      refine KT.step rfl rfl (K.pick rfl (fun h => by cases h) (fun _ => rfl)) ?_
      refine KT.nil ?_
      refine ⟨by kernel_rfl, ?_⟩
      refine thenK_n ?_
      refine KC.cond rfl (fun hc36 => ?_) (fun hc36 => ?_)
      · cases hc36
      · skip
        refine KC.skip ?_
        refine blockK_n ?_
        refine thenK_n ?_
        refine KC.region ?_
        refine KT.step rfl rfl (K.add rfl rfl (wrap_id (by omega))) ?_
        refine KT.step rfl rfl (K.move rfl) ?_
        refine KT.nil ?_
        refine thenK_n ?_
        refine ⟨(σ2, i + 1), ⟨by simp only; omega, ?_, y0⟩, by simp only; omega, rfl, by simp [Go.Vm.look, extK]⟩
        rw [all_take _ hil, hall, Bool.true_and]
        unfold balP
        rw [hb23]; rfl
  · skip
    replace hc12 := of_decide_eq_false hc12
    refine KC.exit ?_
    refine thenK_x ?_
    refine thenK_x ?_
    refine blockK_e ?_
    refine thenK_n ?_
    refine KC.seq ?_
    refine KC.region ?_
    refine KT.step rfl rfl (K.assign rfl) ?_
    refine KT.nil ?_
    refine thenK_n ?_
    refine KC.ret ?_
    exact ⟨.inl rfl, _, rfl, fin_b (all_end (p := balP R) (by omega) hall)⟩
set_option maxRecDepth 10000 in
theorem denominator76 {N : Nat} {R : Rat6} {cap : Option Nat} (hN : N ≤ 6) (hG : GoodR N R) :
    DeepCall Try.prog 76 [.sl (frN N R) N cap] (DI (commF R N : Nat)) := by
  refine deepCall_K 5 Try.func76 rfl (Nat.le_of_ble_eq_true rfl) fun M W0 => ?_
  refine KC.seq ?_
  refine KC.region ?_
  refine KT.step rfl rfl (K.assign rfl) ?_
  refine KT.nil ?_
  refine thenK_n ?_
  refine KC.seq ?_
  refine KC.region ?_
  refine KT.step rfl rfl (K.assign rfl) ?_
  refine KT.nil ?_
  refine thenK_n ?_
  refine KC.seq ?_
  refine KC.seq ?_
  refine KC.region ?_
  refine KT.step rfl rfl (K.move rfl) ?_
  refine KT.step rfl rfl (K.lenD rfl Try.underlying111) ?_
  refine KT.step rfl rfl (K.move rfl) ?_
  refine KT.nil ?_
  refine thenK_n ?_
  refine KC.block ?_
  refine KC.loop (fun p : List VObj × Nat => p.1) (fun p => [(3, .d (DI (commF R p.2 : Nat))), (6, .d (.sl (frN N R) N cap)), (7, .d (DI (N : Nat))), (8, .d (DI (p.2 : Nat)))]) (fun p => p.2 ≤ N) (fun p => N - p.2) (_, 0) (Nat.zero_le _) rfl (by simp [Go.Vm.look, extK, enterK, commF]) ?_
  intro p hi
  obtain ⟨σ0, i⟩ := p
  simp only at hi ⊢
  refine KC.seq ?_
  refine KC.region ?_
  refine KT.step rfl rfl (K.lss rfl rfl) ?_
  refine KT.nil ?_
  refine thenK_n ?_
  refine KC.seq ?_
  refine KC.cond rfl (fun hc9 => ?_) (fun hc9 => ?_)
  · skip
    replace hc9 := of_decide_eq_true hc9
    have hil : i < N := by omega
    refine KC.skip ?_
    refine thenK_n ?_
    refine KC.seq ?_
    refine KC.block ?_
    refine KC.seq ?_
    refine KC.region ?_
    refine KT.step rfl rfl (K.idxDK rfl rfl hil Try.underlying111 Try.size116) ?_
    refine KT.step rfl rfl (K.loadF hil rfl Try.agg116 Try.size116) ?_
    refine KT.step rfl rfl (K.alloc Try.zero116) ?_
    refine KT.storeH (cs := [.d (DI ((R i).1 : Nat)), .d (DI ((R i).2 : Nat))]) rfl rfl rfl rfl (List.getElem?_concat_length ..) rfl (Nat.le_refl _) rfl Try.size116 fun σ1 l1 u1 v1 => ?_
    simp only [List.length_append, List.length_cons, List.length_nil] at l1
    replace u1 := u1.trans (congrArg (fun c => some (VObj.mk c 0)) (splice_all (by rfl)))
    refine KT.nil ?_
    refine thenK_n ?_
    refine KC.seq ?_
    refine KC.region ?_
    refine KT.step rfl rfl (K.loadOA ([DI ((R i).1 : Nat), DI ((R i).2 : Nat)]) rfl u1 (by decide) Try.agg116 Try.size116 rfl) ?_
    refine KT.step rfl rfl (K.buildL rfl build116z) ?_
    refine KT.step rfl rfl (K.fraN rfl rfl) ?_
    refine KT.nil ?_
    refine thenK_n ?_
    refine KC.cond rfl (fun hc14 => ?_) (fun hc14 => ?_)
    · skip
      obtain ⟨c1, c2, c3⟩ := comm_good hG (i + 1)
      have e : commF R (i + 1) = _ := if_pos hc14
      rw [e] at c2
      have c4 : commF R i * ((R i).2 / Nat.gcd (commF R i) (R i).2) ≤ 777600000 := Nat.le_of_dvd (by decide) c2
      have b2 := ((hG.val _ hc14).le (knum5 R)).2
      have c5 := (comm_good hG i).1
      have hg : 0 < Nat.gcd (commF R i) (R i).2 := Nat.gcd_pos_of_pos_left _ c5
      refine KC.draw Try.mixed ?_
      refine KT.step rfl rfl (K.move rfl) ?_
      refine KT.step rfl rfl (K.fieldAddrO rfl Try.fld116_1 Try.size3) ?_
      refine KT.step rfl rfl (K.loadO rfl u1 (by simp) rfl Try.agg3) ?_
      refine KT.step rfl rfl (K.move rfl) ?_
      refine KT.step rfl rfl (K.fieldAddrO rfl Try.fld116_1 Try.size3) ?_
      refine KT.step rfl rfl (K.loadO rfl u1 (by simp) rfl Try.agg3) ?_
      refine KT.step rfl rfl (K.call2 rfl rfl plainTry_104 (divisor104 (commF R i) (R i).2)) ?_
      refine KT.step rfl rfl (K.quo rfl rfl (by omega) (divN (by omega))) ?_
      refine KT.step rfl rfl (K.mul rfl rfl (mulN (by omega))) ?_
      refine KT.step rfl rfl (K.assign rfl) ?_
      refine KT.nil ?_
      refine ⟨by kernel_rfl, ?_⟩
      refine blockK_n ?_
      refine thenK_n ?_
      refine KC.region ?_
      refine KT.step rfl rfl (K.add rfl rfl (wrap_id (by omega))) ?_
      refine KT.step rfl rfl (K.move rfl) ?_
      refine KT.nil ?_
      refine thenK_n ?_
      refine ⟨(σ1, i + 1), by simp only; omega, by simp only; omega, rfl, ?_⟩
      simp [Go.Vm.look, extK, commF, hc14]
    · skip
      refine KC.skip ?_
      refine blockK_n ?_
      refine thenK_n ?_
      refine KC.region ?_
      refine KT.step rfl rfl (K.add rfl rfl (wrap_id (by omega))) ?_
      refine KT.step rfl rfl (K.move rfl) ?_
      refine KT.nil ?_
      refine thenK_n ?_
      refine ⟨(σ1, i + 1), by simp only; omega, by simp only; omega, rfl, ?_⟩
      simp [Go.Vm.look, extK, commF, hc14]
  · skip
    replace hc9 := of_decide_eq_false hc9
    obtain rfl : i = N := by omega
    refine KC.exit ?_
    refine thenK_x ?_
    refine thenK_x ?_
    refine blockK_e ?_
    refine thenK_n ?_
    refine KC.seq ?_
    refine KC.region ?_
    refine KT.step rfl rfl (K.move rfl) ?_
    refine KT.step rfl rfl (K.assign rfl) ?_
    refine KT.nil ?_
    refine thenK_n ?_
    refine KC.ret ?_
    exact ⟨.inl rfl, _, rfl, fin_d rfl⟩
end Go.Proofs.Ytnfnjnaheckdbaa

