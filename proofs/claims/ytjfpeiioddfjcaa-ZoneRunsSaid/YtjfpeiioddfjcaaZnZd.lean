import Derived.Test.YtjfpeiioddfjcaaZnZc
import Derived.Test.YtjfpeiioddfjcaaZnWb
/-
  Automata: waiting, resetting, holding.
-/
namespace Go.Proofs.Ytjfpeiioddfjcaa
open Go.Vm Go.Zn

theorem c4_put {v : Nat → Int} {i : Nat} {x : Int} (hi : i < 4) : ((c4 v).map XV.d).set (0 + i * 1) (.d (DI x)) = (c4 (put1 v i x)).map XV.d := by
  match i, hi with
  | 0, _ => rfl
  | 1, _ => rfl
  | 2, _ => rfl
  | 3, _ => rfl
  | k + 4, h => omega
theorem c4_eq {v u : Nat → Int} (h : ∀ i, i < 4 → v i = u i) : c4 v = c4 u := by
  unfold c4
  rw [h 0 (by decide), h 1 (by decide), h 2 (by decide), h 3 (by decide)]
/-- Clocks 1 to m - 1 have waited. -/
def wtM (m : Nat) (v : Nat → Int) (w : Int) : Nat → Int := fun i => if 1 ≤ i ∧ i < m then v i + w else v i
theorem wtM_one {v : Nat → Int} {w : Int} : wtM 1 v w = v := by
  funext i; unfold wtM; rw [if_neg (by omega)]
theorem wtM_step {m : Nat} {v : Nat → Int} {w : Int} (hm : 1 ≤ m) : put1 (wtM m v w) m (wtM m v w m + w) = wtM (m + 1) v w := by
  funext i
  unfold put1
  by_cases e : i = m
  · subst e
    unfold wtM
    rw [if_pos rfl, if_neg (by omega), if_pos (by omega)]
  · unfold wtM
    rw [if_neg e]
    by_cases h : 1 ≤ i ∧ i < m
    · rw [if_pos h, if_pos (by omega)]
    · rw [if_neg h, if_neg (by omega)]
/-- Clocks from lo to m - 1 are reset. -/
def rstM (lo m s : Nat) (v : Nat → Int) : Nat → Int := fun i => if lo ≤ i ∧ i < m ∧ s.testBit i = true then 0 else v i
theorem rstM_lo {lo s : Nat} {v : Nat → Int} : rstM lo lo s v = v := by
  funext i; unfold rstM; rw [if_neg (by omega)]
theorem rstM_yes {lo m s : Nat} {v : Nat → Int} (hm : lo ≤ m) (h : s.testBit m = true) : put1 (rstM lo m s v) m 0 = rstM lo (m + 1) s v := by
  funext i
  unfold put1
  by_cases e : i = m
  · subst e
    unfold rstM
    rw [if_pos rfl, if_pos ⟨hm, by omega, h⟩]
  · unfold rstM
    rw [if_neg e]
    by_cases h2 : lo ≤ i ∧ i < m ∧ s.testBit i = true
    · rw [if_pos h2, if_pos ⟨h2.1, by omega, h2.2.2⟩]
    · rw [if_neg h2, if_neg (fun k => h2 ⟨k.1, by omega, k.2.2⟩)]
theorem rstM_no {lo m s : Nat} {v : Nat → Int} (h : s.testBit m = false) : rstM lo m s v = rstM lo (m + 1) s v := by
  funext i
  unfold rstM
  by_cases h2 : lo ≤ i ∧ i < m ∧ s.testBit i = true
  · rw [if_pos h2, if_pos ⟨h2.1, by omega, h2.2.2⟩]
  · rw [if_neg h2, if_neg (fun k => by
      by_cases e : i = m
      · subst e; rw [h] at k; cases k.2.2
      · exact h2 ⟨k.1, by omega, k.2.2⟩)]
theorem wB_den {diff den b : Int} (hd : diff ≤ 1000000000) (hn : 1 ≤ den) : wB diff den b = decide (diff ≤ gre b den) := by
  by_cases hb : b = 1099511627776
  · subst hb
    have e : gre 1099511627776 den = 549755813888 * den - 1 + 0 := rfl
    rw [e, decide_eq_true (show diff ≤ 549755813888 * den - 1 + 0 by omega)]
    unfold wB
    rfl
  · exact wB_gre hb
set_option maxRecDepth 10000 in
theorem waited107 {v : Nat → Int} {w : Int} (hv : ∀ i, i < 4 → 0 ≤ v i ∧ v i ≤ 1000000000) (hw : 0 ≤ w ∧ w ≤ 1000000) : DeepCall Try.prog 107 [.agg (c4 v), DI w] (.agg (c4 (wtM 4 v w))) := by
  refine deepCall_K 5 Try.func107 rfl (Nat.le_of_ble_eq_true rfl) fun M W0 => ?_
  refine KC.seq ?_
  refine KC.region ?_
  refine KT.step rfl rfl (K.box rfl) ?_
  refine KT.step rfl rfl (K.alloc Try.zero105) ?_
  refine KT.nil ?_
  refine thenK_n ?_
  refine KC.seq ?_
  refine KC.seq ?_
  refine KC.region ?_
  refine KT.step rfl rfl (K.assign rfl) ?_
  refine KT.nil ?_
  refine thenK_n ?_
  refine KC.block ?_
  refine KC.loop (fun m : Nat => [⟨(c4 (wtM m v w)).map .d, 0⟩, ⟨(c4 fun _ => 0).map .d, 0⟩]) (fun m => [(1, .d (DI w)), (2, .optr 0 0), (4, .optr 1 0), (5, .d (DI (m : Nat)))]) (fun m => 1 ≤ m ∧ m ≤ 4) (fun m => 4 - m) 1 ⟨Nat.le_refl _, by omega⟩ (by rw [wtM_one]; rfl) (by simp [Go.Vm.look, extK, enterK]) ?_
  intro m hm
  obtain ⟨hm1, hm4⟩ := hm
  refine KC.seq ?_
  refine KC.seq ?_
  refine KC.region ?_
  refine KT.step rfl rfl (K.move rfl) ?_
  refine KT.step rfl rfl (K.lss rfl rfl) ?_
  refine KT.nil ?_
  refine thenK_n ?_
  refine KC.cond rfl (fun hc7 => ?_) (fun hc7 => ?_)
  · skip
    replace hc7 := of_decide_eq_true hc7
    have hvm : wtM m v w m = v m := by unfold wtM; rw [if_neg (by omega)]
    have hvb := hv m (by omega)
    refine KC.skip ?_
    refine thenK_n ?_
    refine KC.seq ?_
    refine KC.block ?_
    refine KC.region ?_
    refine KT.step rfl rfl (K.move rfl) ?_
    refine KT.step rfl rfl (K.idxA rfl rfl (show m < 4 by omega) Try.underlying105 Try.size3) ?_
    refine KT.step rfl rfl (K.loadO rfl rfl (by simp) (c4_get (by omega)) Try.agg3) ?_
    refine KT.step rfl rfl (K.move rfl) ?_
    refine KT.step rfl rfl (K.add rfl rfl (wrap_id (by rw [hvm]; omega))) ?_
    refine KT.step rfl rfl (K.idxA rfl rfl (show m < 4 by omega) Try.underlying105 Try.size3) ?_
    refine KT.step rfl rfl (K.storeO rfl rfl rfl (by show 0 + m * 1 < 4; omega) rfl rfl Try.size3) ?_
    refine KT.nil ?_
    refine blockK_n ?_
    refine thenK_n ?_
    refine KC.region ?_
    refine KT.step rfl rfl (K.move rfl) ?_
    refine KT.step rfl rfl (K.add rfl rfl (wrap_id (by omega))) ?_
    refine KT.step rfl rfl (K.assign rfl) ?_
    refine KT.nil ?_
    refine thenK_n ?_
    refine ⟨m + 1, by omega, by omega, by rw [← wtM_step hm1, ← c4_put (by omega)]; rfl, by simp [Go.Vm.look, extK]⟩
  · skip
    replace hc7 := of_decide_eq_false hc7
    refine KC.exit ?_
    refine thenK_x ?_
    refine thenK_x ?_
    refine blockK_e ?_
    refine thenK_n ?_
    refine KC.seq ?_
    refine KC.region ?_
    refine KT.step rfl rfl (K.loadOA (c4 (wtM m v w)) rfl rfl (by decide) Try.agg105 Try.size105 rfl) ?_
    refine KT.putAll (cs := (c4 (wtM m v w)).map .d) rfl rfl rfl rfl rfl rfl rfl rfl Try.size105 ?_
    refine KT.nil ?_
    refine thenK_n ?_
    refine KC.ret ?_
    have e : m = 4 := by omega
    subst e
    exact ⟨.inl rfl, _, resK_c (c4 (wtM 4 v w)) rfl rfl rfl (by decide) Try.agg105 Try.size105 rfl, rfl⟩
set_option maxRecDepth 10000 in
theorem reset108 {v : Nat → Int} {s : Nat} (hs63 : s < 2 ^ 63) : DeepCall Try.prog 108 [.agg (c4 v), DI (s : Nat)] (.agg (c4 (rstM 0 4 s v))) := by
  refine deepCall_K 5 Try.func108 rfl (Nat.le_of_ble_eq_true rfl) fun M W0 => ?_
  refine KC.seq ?_
  refine KC.region ?_
  refine KT.step rfl rfl (K.box rfl) ?_
  refine KT.step rfl rfl (K.alloc Try.zero105) ?_
  refine KT.nil ?_
  refine thenK_n ?_
  refine KC.seq ?_
  refine KC.seq ?_
  refine KC.region ?_
  refine KT.step rfl rfl (K.move rfl) ?_
  refine KT.nil ?_
  refine thenK_n ?_
  refine KC.block ?_
  refine KC.loop (fun m : Nat => [⟨(c4 (rstM 0 m s v)).map .d, 0⟩, ⟨(c4 fun _ => 0).map .d, 0⟩]) (fun m => [(1, .d (DI (s : Nat))), (2, .optr 0 0), (4, .optr 1 0), (6, .d (DI (m : Nat)))]) (fun m => 0 ≤ m ∧ m ≤ 4) (fun m => 4 - m) 0 ⟨Nat.le_refl _, by omega⟩ (by rw [rstM_lo]; rfl) (by simp [Go.Vm.look, extK, enterK]) ?_
  intro m hm
  obtain ⟨hm1, hm4⟩ := hm
  refine KC.seq ?_
  refine KC.region ?_
  refine KT.step rfl rfl (K.lss rfl rfl) ?_
  refine KT.nil ?_
  refine thenK_n ?_
  refine KC.seq ?_
  refine KC.cond rfl (fun hc7 => ?_) (fun hc7 => ?_)
  · skip
    replace hc7 := of_decide_eq_true hc7
    refine KC.skip ?_
    refine thenK_n ?_
    refine KC.seq ?_
    refine KC.block ?_
    refine KC.seq ?_
    refine KC.region ?_
    refine KT.step rfl rfl (K.move rfl) ?_
    refine KT.step rfl rfl (K.assign rfl) ?_
    refine KT.nil ?_
    refine thenK_n ?_
    refine KC.seq ?_
    refine KC.region ?_
    refine KT.step rfl rfl (K.move rfl) ?_
    refine KT.step rfl rfl (K.move rfl) ?_
    refine KT.step rfl rfl (K.shr rfl rfl (by omega) (shrI (a := s) (i := m) (by omega))) ?_
    refine KT.step rfl rfl (K.band rfl rfl (show IntKind.i64.wrap (BitVec.ofInt IntKind.i64.bits ((s / 2 ^ m : Nat) : Int) &&& BitVec.ofInt IntKind.i64.bits (1 : Int)).toNat = ((s / 2 ^ m &&& 1 : Nat) : Int) from andI (b := 1) (Nat.lt_of_le_of_lt (Nat.div_le_self _ _) hs63) (by decide))) ?_
    refine KT.step rfl rfl (K.eql rfl rfl) ?_
    refine KT.nil ?_
    refine thenK_n ?_
    refine KC.cond rfl (fun hc13 => ?_) (fun hc13 => ?_)
    · skip
      replace hc13 := of_decide_eq_true hc13
      have ht : s.testBit m = true := by rw [← bitOne s m, decide_eq_true hc13]
      refine KC.region ?_
      refine KT.step rfl rfl (K.move rfl) ?_
      refine KT.step rfl rfl (K.idxA rfl rfl (show m < 4 by omega) Try.underlying105 Try.size3) ?_
      refine KT.step rfl rfl (K.storeO rfl rfl rfl (by show 0 + m * 1 < 4; omega) rfl rfl Try.size3) ?_
      refine KT.nil ?_
      refine blockK_n ?_
      refine thenK_n ?_
      refine KC.region ?_
      refine KT.step rfl rfl (K.add rfl rfl (wrap_id (by omega))) ?_
      refine KT.step rfl rfl (K.move rfl) ?_
      refine KT.nil ?_
      refine thenK_n ?_
      refine ⟨m + 1, by omega, by omega, by rw [← rstM_yes hm1 ht, ← c4_put (by omega)]; rfl, by simp [Go.Vm.look, extK]⟩
    · skip
      replace hc13 := of_decide_eq_false hc13
      have ht : s.testBit m = false := by rw [← bitOne s m, decide_eq_false hc13]
      refine KC.skip ?_
      refine blockK_n ?_
      refine thenK_n ?_
      refine KC.region ?_
      refine KT.step rfl rfl (K.add rfl rfl (wrap_id (by omega))) ?_
      refine KT.step rfl rfl (K.move rfl) ?_
      refine KT.nil ?_
      refine thenK_n ?_
      refine ⟨m + 1, by omega, by omega, by rw [rstM_no ht], by simp [Go.Vm.look, extK]⟩
  · skip
    replace hc7 := of_decide_eq_false hc7
    refine KC.exit ?_
    refine thenK_x ?_
    refine thenK_x ?_
    refine blockK_e ?_
    refine thenK_n ?_
    refine KC.seq ?_
    refine KC.region ?_
    refine KT.step rfl rfl (K.loadOA (c4 (rstM 0 m s v)) rfl rfl (by decide) Try.agg105 Try.size105 rfl) ?_
    refine KT.putAll (cs := (c4 (rstM 0 m s v)).map .d) rfl rfl rfl rfl rfl rfl rfl rfl Try.size105 ?_
    refine KT.nil ?_
    refine thenK_n ?_
    refine KC.ret ?_
    have e : m = 4 := by omega
    subst e
    exact ⟨.inl rfl, _, resK_c (c4 (rstM 0 4 s v)) rfl rfl rfl (by decide) Try.agg105 Try.size105 rfl, rfl⟩
set_option maxRecDepth 10000 in
theorem reset87 {v : Nat → Int} {s : Nat} (hs63 : s < 2 ^ 63) : DeepCall Try.prog 87 [.agg (c4 v), DI (s : Nat)] (.agg (c4 (rstM 1 4 s v))) := by
  refine deepCall_K 5 Try.func87 rfl (Nat.le_of_ble_eq_true rfl) fun M W0 => ?_
  refine KC.seq ?_
  refine KC.region ?_
  refine KT.step rfl rfl (K.box rfl) ?_
  refine KT.step rfl rfl (K.alloc Try.zero84) ?_
  refine KT.nil ?_
  refine thenK_n ?_
  refine KC.seq ?_
  refine KC.seq ?_
  refine KC.region ?_
  refine KT.step rfl rfl (K.assign rfl) ?_
  refine KT.nil ?_
  refine thenK_n ?_
  refine KC.block ?_
  refine KC.loop (fun m : Nat => [⟨(c4 (rstM 1 m s v)).map .d, 0⟩, ⟨(c4 fun _ => 0).map .d, 0⟩]) (fun m => [(1, .d (DI (s : Nat))), (2, .optr 0 0), (4, .optr 1 0), (5, .d (DI (m : Nat)))]) (fun m => 1 ≤ m ∧ m ≤ 4) (fun m => 4 - m) 1 ⟨Nat.le_refl _, by omega⟩ (by rw [rstM_lo]; rfl) (by simp [Go.Vm.look, extK, enterK]) ?_
  intro m hm
  obtain ⟨hm1, hm4⟩ := hm
  refine KC.seq ?_
  refine KC.seq ?_
  refine KC.region ?_
  refine KT.step rfl rfl (K.move rfl) ?_
  refine KT.step rfl rfl (K.lss rfl rfl) ?_
  refine KT.nil ?_
  refine thenK_n ?_
  refine KC.cond rfl (fun hc7 => ?_) (fun hc7 => ?_)
  · skip
    replace hc7 := of_decide_eq_true hc7
    refine KC.skip ?_
    refine thenK_n ?_
    refine KC.seq ?_
    refine KC.block ?_
    refine KC.seq ?_
    refine KC.region ?_
    refine KT.step rfl rfl (K.move rfl) ?_
    refine KT.step rfl rfl (K.move rfl) ?_
    refine KT.step rfl rfl (K.shr rfl rfl (by omega) (shrI (a := s) (i := m) (by omega))) ?_
    refine KT.step rfl rfl (K.band rfl rfl (show IntKind.i64.wrap (BitVec.ofInt IntKind.i64.bits ((s / 2 ^ m : Nat) : Int) &&& BitVec.ofInt IntKind.i64.bits (1 : Int)).toNat = ((s / 2 ^ m &&& 1 : Nat) : Int) from andI (b := 1) (Nat.lt_of_le_of_lt (Nat.div_le_self _ _) hs63) (by decide))) ?_
    refine KT.step rfl rfl (K.eql rfl rfl) ?_
    refine KT.nil ?_
    refine thenK_n ?_
    refine KC.cond rfl (fun hc14 => ?_) (fun hc14 => ?_)
    · skip
      replace hc14 := of_decide_eq_true hc14
      have ht : s.testBit m = true := by rw [← bitOne s m, decide_eq_true hc14]
      refine KC.region ?_
      refine KT.step rfl rfl (K.move rfl) ?_
      refine KT.step rfl rfl (K.idxA rfl rfl (show m < 4 by omega) Try.underlying84 Try.size3) ?_
      refine KT.step rfl rfl (K.storeO rfl rfl rfl (by show 0 + m * 1 < 4; omega) rfl rfl Try.size3) ?_
      refine KT.nil ?_
      refine blockK_n ?_
      refine thenK_n ?_
      refine KC.region ?_
      refine KT.step rfl rfl (K.move rfl) ?_
      refine KT.step rfl rfl (K.add rfl rfl (wrap_id (by omega))) ?_
      refine KT.step rfl rfl (K.assign rfl) ?_
      refine KT.nil ?_
      refine thenK_n ?_
      refine ⟨m + 1, by omega, by omega, by rw [← rstM_yes hm1 ht, ← c4_put (by omega)]; rfl, by simp [Go.Vm.look, extK]⟩
    · skip
      replace hc14 := of_decide_eq_false hc14
      have ht : s.testBit m = false := by rw [← bitOne s m, decide_eq_false hc14]
      refine KC.skip ?_
      refine blockK_n ?_
      refine thenK_n ?_
      refine KC.region ?_
      refine KT.step rfl rfl (K.move rfl) ?_
      refine KT.step rfl rfl (K.add rfl rfl (wrap_id (by omega))) ?_
      refine KT.step rfl rfl (K.assign rfl) ?_
      refine KT.nil ?_
      refine thenK_n ?_
      refine ⟨m + 1, by omega, by omega, by rw [rstM_no ht], by simp [Go.Vm.look, extK]⟩
  · skip
    replace hc7 := of_decide_eq_false hc7
    refine KC.exit ?_
    refine thenK_x ?_
    refine thenK_x ?_
    refine blockK_e ?_
    refine thenK_n ?_
    refine KC.seq ?_
    refine KC.region ?_
    refine KT.step rfl rfl (K.loadOA (c4 (rstM 1 m s v)) rfl rfl (by decide) Try.agg84 Try.size84 rfl) ?_
    refine KT.putAll (cs := (c4 (rstM 1 m s v)).map .d) rfl rfl rfl rfl rfl rfl rfl rfl Try.size84 ?_
    refine KT.nil ?_
    refine thenK_n ?_
    refine KC.ret ?_
    have e : m = 4 := by omega
    subst e
    exact ⟨.inl rfl, _, resK_c (c4 (rstM 1 4 s v)) rfl rfl rfl (by decide) Try.agg84 Try.size84 rfl, rfl⟩
set_option maxRecDepth 10000 in
theorem hold83 {d : DV} {L : List G3} {v : Nat → Int} {den : Int} (hd : Gds d L) (hl : L.length ≤ 1000000) (hv : ∀ i, i < 4 → 0 ≤ v i ∧ v i ≤ 1000000000) (hden : 1 ≤ den)
    (hL : ∀ g ∈ L, (0 ≤ g.1 ∧ g.1 ≤ 3) ∧ (0 ≤ g.2.1 ∧ g.2.1 ≤ 3) ∧ (-9223372036854775807 ≤ g.2.2 ∧ g.2.2 ≤ 9223372036854775807) ∧ -1000000000000000 ≤ g.2.2 / 2 * den ∧ g.2.2 / 2 * den ≤ 1000000000000000) : DeepCall Try.prog 83 [d, .agg (c4 v), DI den] (DB (holdB L v den)) := by
  refine deepCall_K 5 Try.func83 rfl (Nat.le_of_ble_eq_true rfl) fun M W0 => ?_
  refine KC.seq ?_
  refine KC.region ?_
  refine KT.step rfl rfl (K.box rfl) ?_
  refine KT.step rfl rfl (K.assign rfl) ?_
  refine KT.nil ?_
  refine thenK_n ?_
  refine KC.seq ?_
  refine KC.seq ?_
  refine KC.region ?_
  refine KT.step rfl rfl (K.move rfl) ?_
  refine KT.step rfl rfl (K.lenG rfl hd Try.underlying117) ?_
  refine KT.step rfl rfl (K.move rfl) ?_
  refine KT.nil ?_
  refine thenK_n ?_
  refine KC.block ?_
  refine KC.loop (fun p : List VObj × Nat => p.1) (fun p => [(2, .d (DI den)), (4, .optr 0 0), (9, .d d), (10, .d (DI (L.length : Nat))), (11, .d (DI (p.2 : Nat)))]) (fun p => p.1[0]? = some ⟨(c4 v).map .d, 0⟩ ∧ p.2 ≤ L.length ∧ ∀ q (h : q < L.length), q < p.2 → v (L[q]).1.toNat - v (L[q]).2.1.toNat ≤ gre (L[q]).2.2 den) (fun p => L.length - p.2) (_, 0) ⟨rfl, Nat.zero_le _, fun q _ h => absurd h (Nat.not_lt_zero _)⟩ rfl (by simp [Go.Vm.look, extK, enterK]) ?_
  intro p hp
  obtain ⟨y0, hp2, hall⟩ := hp
  refine KC.seq ?_
  refine KC.region ?_
  refine KT.step rfl rfl (K.lss rfl rfl) ?_
  refine KT.nil ?_
  refine thenK_n ?_
  refine KC.seq ?_
  refine KC.cond rfl (fun hc12 => ?_) (fun hc12 => ?_)
  · skip
    replace hc12 := of_decide_eq_true hc12
    have hil : p.2 < L.length := by omega
    refine KC.skip ?_
    refine thenK_n ?_
    refine KC.seq ?_
    refine KC.block ?_
    refine KC.seq ?_
    refine KC.region ?_
    refine KT.step rfl rfl (K.idxG rfl hd rfl hil Try.underlying117 Try.size36) ?_
    refine KT.step rfl rfl (K.loadG hil rfl Try.agg36 Try.size36) ?_
    refine KT.step rfl rfl (K.alloc Try.zero36) ?_
    refine KT.storeL (cs := (gd3 L[p.2]).map .d) rfl rfl rfl rfl rfl rfl rfl Try.size36 ?_
    refine KT.nil ?_
    refine thenK_n ?_
    refine KC.seq ?_
    obtain ⟨⟨q1, q2⟩, ⟨q3, q4⟩, hgb⟩ := hL _ (List.getElem_mem hil)
    obtain ⟨gi, ei⟩ := Int.eq_ofNat_of_zero_le q1
    obtain ⟨gj, ej⟩ := Int.eq_ofNat_of_zero_le q3
    have y0 : (p.1 ++ [(⟨(gd3 L[p.2]).map .d, 0⟩ : VObj)])[0]? = some ⟨(c4 v).map .d, 0⟩ := get_left y0
    have eg : (gd3 L[p.2]).map XV.d = [.d (DI gi), .d (DI gj), .d (DI (L[p.2]).2.2)] := by unfold gd3; rw [ei, ej]; rfl
    rw [eg] at y0 ⊢
    have hv1 := hv gi (by omega)
    have hv2 := hv gj (by omega)
    have hwb := wB_den (diff := v gi - v gj) (den := den) (b := L[p.2].2.2) (by omega) hden
    refine KC.draw Try.mixed ?_
    refine KT.step rfl rfl (K.fieldAddrO rfl Try.fld36_0 Try.size3) ?_
    refine KT.step rfl rfl (K.loadO rfl (List.getElem?_concat_length ..) (by simp) rfl Try.agg3) ?_
    refine KT.step rfl rfl (K.idxA rfl rfl (show gi < 4 by omega) Try.underlying84 Try.size3) ?_
    refine KT.step rfl rfl (K.loadO rfl y0 (by simp) (c4_get (by omega)) Try.agg3) ?_
    refine KT.step rfl rfl (K.fieldAddrO rfl Try.fld36_1 Try.size3) ?_
    refine KT.step rfl rfl (K.loadO rfl (List.getElem?_concat_length ..) (by simp) rfl Try.agg3) ?_
    refine KT.step rfl rfl (K.idxA rfl rfl (show gj < 4 by omega) Try.underlying84 Try.size3) ?_
    refine KT.step rfl rfl (K.loadO rfl y0 (by simp) (c4_get (by omega)) Try.agg3) ?_
    refine KT.step rfl rfl (K.sub rfl rfl (wrap_id (by omega))) ?_
    refine KT.step rfl rfl (K.move rfl) ?_
    refine KT.step rfl rfl (K.fieldAddrO rfl Try.fld36_2 Try.size3) ?_
    refine KT.step rfl rfl (K.loadO rfl (List.getElem?_concat_length ..) (by simp) rfl Try.agg3) ?_
    refine KT.step rfl rfl (K.call3 rfl rfl rfl plainTry_38 (Within38 hgb.1 hgb.2)) ?_
    refine KT.step rfl rfl (K.not rfl) ?_
    refine KT.nil ?_
    refine ⟨by kernel_rfl, ?_⟩
    refine thenK_n ?_
    refine KC.cond rfl (fun hc28 => ?_) (fun hc28 => ?_)
    · skip
      rw [hwb, Bool.not_eq_true'] at hc28
      replace hc28 := of_decide_eq_false hc28
      refine KC.seq ?_
      refine KC.region ?_
      refine KT.step rfl rfl (K.assign rfl) ?_
      refine KT.nil ?_
      refine thenK_n ?_
      refine KC.ret ?_
      refine blockK_r ?_
      refine thenK_r ?_
      refine thenK_r ?_
      refine blockK_r ?_
      refine thenK_r ?_
      exact ⟨.inl rfl, _, rfl, fin_b (by
        unfold holdB
        refine all_false hil ?_
        rw [ei, ej]
        show (!decide (gre (L[p.2]).2.2 den < v gi - v gj)) = false
        rw [decide_eq_true (by omega)]; rfl)⟩
    · skip
      rw [hwb, Bool.not_eq_false'] at hc28
      replace hc28 := of_decide_eq_true hc28
      refine KC.skip ?_
      refine blockK_n ?_
      refine thenK_n ?_
      refine KC.region ?_
      refine KT.step rfl rfl (K.add rfl rfl (wrap_id (by omega))) ?_
      refine KT.step rfl rfl (K.move rfl) ?_
      refine KT.nil ?_
      refine thenK_n ?_
      refine ⟨(_, p.2 + 1), ⟨y0, by simp only; omega, fun q h hq => ?_⟩, by simp only; omega, rfl, by simp [Go.Vm.look, extK]⟩
      by_cases e : q = p.2
      · subst e
        rw [ei, ej]
        exact hc28
      · exact hall q h (by simp only at hq; omega)
  · skip
    replace hc12 := of_decide_eq_false hc12
    refine KC.exit ?_
    refine thenK_x ?_
    refine thenK_x ?_
    refine blockK_e ?_
    refine thenK_n ?_
    refine KC.seq ?_
    refine KC.region ?_
    refine KT.step rfl rfl (K.assign rfl) ?_
    refine KT.nil ?_
    refine thenK_n ?_
    refine KC.ret ?_
    exact ⟨.inl rfl, _, rfl, fin_b (by
      unfold holdB
      refine List.all_eq_true.2 fun g hg => ?_
      obtain ⟨q, hq, rfl⟩ := List.getElem_of_mem hg
      rw [decide_eq_false (by have := hall q hq (by omega); omega)]; rfl)⟩
end Go.Proofs.Ytjfpeiioddfjcaa

