import Derived.Test.YthbnnffmhnjpjaaCyRh
import Derived.Test.YthbnnffmhnjpjaaCyE
/-
  Times: cycles and potentials that are checked, on both sides.
-/
namespace Go.Proofs.Ythbnnffmhnjpjaa
open Go.Vm Go.Cy
theorem plainTry_62 : plainFn Try.prog 62 = true := by kernel_rfl
theorem plainTry_63 : plainFn Try.prog 63 = true := by kernel_rfl
theorem plainTry_64 : plainFn Try.prog 64 = true := by kernel_rfl
theorem plainTry_32 : plainFn Try.prog 32 = true := by kernel_rfl
theorem plainTry_65 : plainFn Try.prog 65 = true := by kernel_rfl
theorem plainTry_61 : plainFn Try.prog 61 = true := by kernel_rfl
theorem plainTry_31 : plainFn Try.prog 31 = true := by kernel_rfl
theorem plainTry_33 : plainFn Try.prog 33 = true := by kernel_rfl
theorem plainTry_6 : plainFn Try.prog 6 = true := by kernel_rfl
set_option maxRecDepth 10000 in
theorem wide62 {num den : Int} : DeepCall Try.prog 62 [.agg [DI num, DI den]] (DB (wideB num den)) := by
  refine deepCall_K 5 Try.func62 rfl (Nat.le_of_ble_eq_true rfl) fun M W0 => ?_
  refine KC.seq ?_
  refine KC.region ?_
  refine KT.step rfl rfl (K.box rfl) ?_
  refine KT.step rfl rfl (K.assign rfl) ?_
  refine KT.nil ?_
  refine thenK_n ?_
  refine KC.seq ?_
  refine KC.region ?_
  refine KT.step rfl rfl (K.fieldAddrO rfl Try.fld59_0 Try.size3) ?_
  refine KT.step rfl rfl (K.loadO rfl rfl (by simp) rfl Try.agg3) ?_
  refine KT.step rfl rfl (K.call3 rfl rfl rfl plainTry_52 (within52 _ _ _)) ?_
  refine KT.step rfl rfl (K.move rfl) ?_
  refine KT.bcase (fun hb6 => ?_) (fun hb6 => ?_)
  · skip
    refine KT.step rfl rfl (K.fieldAddrO rfl Try.fld59_1 Try.size3) ?_
    refine KT.step rfl rfl (K.loadO rfl rfl (by simp) rfl Try.agg3) ?_
    refine KT.step rfl rfl (K.call3 rfl rfl rfl plainTry_52 (within52 _ _ _)) ?_
    refine KT.step rfl rfl (K.pick rfl (fun _ => rfl) (fun h => by cases h)) ?_
    refine KT.step rfl rfl (K.assign rfl) ?_
    refine KT.nil ?_
    refine thenK_n ?_
    refine KC.ret ?_
    exact ⟨.inl rfl, _, rfl, fin_b (by unfold wideB F40; rw [hb6, Bool.true_and])⟩
  · skip
    refine KT.skip rfl rfl ?_
    refine KT.skip rfl rfl ?_
    refine KT.skip rfl rfl ?_
    refine KT.step rfl rfl (K.pick rfl (fun h => by cases h) (fun _ => rfl)) ?_
    refine KT.step rfl rfl (K.assign rfl) ?_
    refine KT.nil ?_
    refine thenK_n ?_
    refine KC.ret ?_
    exact ⟨.inl rfl, _, rfl, fin_b (by unfold wideB F40; rw [hb6]; rfl)⟩
set_option maxRecDepth 10000 in
theorem isMean63 {d e : DV} {n : Nat} {a : Nat → Nat → Int} {c : List Int} {num den : Int} (hd : Mat d (genM n n a)) (he : Ints e c) (hl : c.length ≤ 9223372036854775807) (h1 : 1 ≤ n) (hn : n ≤ 12) (ha : GoodM 1000 a) (hnum : inF num) (hden : 1 ≤ den ∧ den ≤ F40) : DeepCall Try.prog 63 [d, e, .agg [DI num, DI den]] (DB (meanB n a c num den)) := by
  unfold inF F40 at *
  refine deepCall_K 5 Try.func63 rfl (Nat.le_of_ble_eq_true rfl) fun M W0 => ?_
  refine KC.seq ?_
  refine KC.region ?_
  refine KT.step rfl rfl (K.box rfl) ?_
  refine KT.step rfl rfl (K.assign rfl) ?_
  refine KT.nil ?_
  refine thenK_n ?_
  refine KC.seq ?_
  refine KC.region ?_
  refine KT.step rfl rfl (K.assign rfl) ?_
  refine KT.step rfl rfl (K.assign rfl) ?_
  refine KT.nil ?_
  refine thenK_n ?_
  refine KC.seq ?_
  refine KC.seq ?_
  refine KC.region ?_
  refine KT.step rfl rfl (K.move rfl) ?_
  refine KT.step rfl rfl (K.len rfl he Try.underlying33) ?_
  refine KT.step rfl rfl (K.move rfl) ?_
  refine KT.nil ?_
  refine thenK_n ?_
  refine KC.block ?_
  refine KC.loop (fun _ : Nat => [⟨[.d (DI num), .d (DI den)], 0⟩]) (fun k => [(0, .d d), (1, .d e), (5, .optr 0 0), (7, .d (DI (wtS a c k))), (8, .d (DI (metN c k : Nat))), (12, .d e), (13, .d (DI (c.length : Nat))), (14, .d (DI (k : Nat)))]) (fun k => k ≤ c.length ∧ ∀ q, q < k → okK n a c q) (fun k => c.length - k) 0 ⟨Nat.zero_le _, fun q hq => by omega⟩ rfl (by simp [Go.Vm.look, extK, enterK, wtS, metN]) ?_
  intro k hk
  obtain ⟨hk, hall⟩ := hk
  refine KC.seq ?_
  refine KC.region ?_
  refine KT.step rfl rfl (K.lss rfl rfl) ?_
  refine KT.nil ?_
  refine thenK_n ?_
  refine KC.seq ?_
  refine KC.cond rfl (fun hc15 => ?_) (fun hc15 => ?_)
  · skip
    replace hc15 := of_decide_eq_true hc15
    have hkl : k < c.length := by omega
    have hmod : (k + 1) % c.length < c.length := Nat.mod_lt _ (by omega)
    have gk : c.getD k 0 = c[k] := getD_get hkl
    have gn : nx c k = c[(k + 1) % c.length] := getD_get hmod
    refine KC.skip ?_
    refine thenK_n ?_
    refine KC.seq ?_
    refine KC.block ?_
    refine KC.seq ?_
    refine KC.region ?_
    refine KT.step rfl rfl (K.move rfl) ?_
    refine KT.idxI rfl rfl rfl (by assumption) rfl (by omega) Try.underlying33 Try.size3 fun cs17 => ?_
    refine KT.step rfl rfl (K.load rfl Try.agg3) ?_
    refine KT.step rfl rfl (K.assign rfl) ?_
    refine KT.step rfl rfl (K.assign rfl) ?_
    refine KT.nil ?_
    refine thenK_n ?_
    refine KC.seq ?_
    refine KC.region ?_
    refine KT.step rfl rfl (K.move rfl) ?_
    refine KT.step rfl rfl (K.move rfl) ?_
    refine KT.step rfl rfl (K.add rfl rfl (show IntKind.i64.wrap ((k : Int) + 1) = ((k + 1 : Nat) : Int) from wrap_id (by omega))) ?_
    refine KT.step rfl rfl (K.move rfl) ?_
    refine KT.step rfl rfl (K.len rfl he Try.underlying33) ?_
    refine KT.step rfl rfl (K.rem rfl rfl (by omega) (show Int.tmod ((k + 1 : Nat) : Int) (c.length : Nat) = (((k + 1) % c.length : Nat) : Int) from by rw [Int.tmod_eq_emod_of_nonneg (by omega)]; rfl)) ?_
    refine KT.idxI rfl rfl rfl (by assumption) rfl (Nat.mod_lt _ (by omega)) Try.underlying33 Try.size3 fun cs25 => ?_
    refine KT.step rfl rfl (K.load rfl Try.agg3) ?_
    refine KT.step rfl rfl (K.assign rfl) ?_
    refine KT.nil ?_
    refine thenK_n ?_
    refine KC.seq ?_
    refine KC.seq ?_
    refine KC.region ?_
    refine KT.step rfl rfl (K.move rfl) ?_
    refine KT.step rfl rfl (K.move rfl) ?_
    refine KT.step rfl rfl (K.len rfl hd Try.underlying22) ?_
    rw [genM_len]
    refine KT.step rfl rfl (K.sub rfl rfl (show IntKind.i64.wrap ((n : Int) - 1) = ((n - 1 : Nat) : Int) from (wrap_id (by omega)).trans (by omega))) ?_
    refine KT.step rfl rfl (K.call3 rfl rfl rfl plainTry_52 (within52 _ _ _)) ?_
    refine KT.step rfl rfl (K.not rfl) ?_
    refine KT.step rfl rfl (K.move rfl) ?_
    refine KT.bcase (fun hb33 => ?_) (fun hb33 => ?_)
    · skip
      rw [Bool.not_eq_true'] at hb33
      refine KT.skip rfl rfl ?_
      refine KT.skip rfl rfl ?_
      refine KT.skip rfl rfl ?_
      refine KT.skip rfl rfl ?_
      refine KT.skip rfl rfl ?_
      refine KT.skip rfl rfl ?_
      refine KT.step rfl rfl (K.pick rfl (fun _ => rfl) (fun h => by cases h)) ?_
      refine KT.step rfl rfl (K.move rfl) ?_
      refine KT.skip rfl rfl ?_
      refine KT.skip rfl rfl ?_
      refine KT.skip rfl rfl ?_
      refine KT.skip rfl rfl ?_
      refine KT.skip rfl rfl ?_
      refine KT.step rfl rfl (K.pick rfl (fun _ => rfl) (fun h => by cases h)) ?_
      refine KT.step rfl rfl (K.move rfl) ?_
      refine KT.skip rfl rfl ?_
      refine KT.skip rfl rfl ?_
      refine KT.skip rfl rfl ?_
      refine KT.skip rfl rfl ?_
      refine KT.skip rfl rfl ?_
      refine KT.skip rfl rfl ?_
      refine KT.skip rfl rfl ?_
      refine KT.skip rfl rfl ?_
      refine KT.step rfl rfl (K.pick rfl (fun _ => rfl) (fun h => by cases h)) ?_
      refine KT.nil ?_
      refine thenK_n ?_
      refine KC.cond rfl (fun hc57 => ?_) (fun hc57 => ?_)
      · skip
        refine KC.seq ?_
        refine KC.region ?_
        refine KT.step rfl rfl (K.assign rfl) ?_
        refine KT.nil ?_
        refine thenK_n ?_
        refine KC.ret ?_
        refine thenK_r ?_
        refine blockK_r ?_
        refine thenK_r ?_
        refine thenK_r ?_
        refine blockK_r ?_
        refine thenK_r ?_
        exact ⟨.inl rfl, _, rfl, fin_b (by unfold meanB; rw [cycB_false (fun h => by have := (h.1 k hkl).1; unfold inN at this; rw [gk] at this; simp at hb33; omega)]; rfl)⟩
      · cases hc57
    · skip
      rw [Bool.not_eq_false'] at hb33
      replace hb33 := Bool.and_eq_true_iff.1 hb33
      replace hb33 := And.intro (of_decide_eq_true hb33.1) (of_decide_eq_true hb33.2)
      obtain ⟨x, hx⟩ := Int.eq_ofNat_of_zero_le hb33.1
      simp only [hx] at *
      refine KT.step rfl rfl (K.move rfl) ?_
      refine KT.step rfl rfl (K.move rfl) ?_
      refine KT.step rfl rfl (K.len rfl hd Try.underlying22) ?_
      rw [genM_len]
      refine KT.step rfl rfl (K.sub rfl rfl (show IntKind.i64.wrap ((n : Int) - 1) = ((n - 1 : Nat) : Int) from (wrap_id (by omega)).trans (by omega))) ?_
      refine KT.step rfl rfl (K.call3 rfl rfl rfl plainTry_52 (within52 _ _ _)) ?_
      refine KT.step rfl rfl (K.not rfl) ?_
      refine KT.step rfl rfl (K.pick rfl (fun h => by cases h) (fun _ => rfl)) ?_
      refine KT.step rfl rfl (K.move rfl) ?_
      refine KT.bcase (fun hb41 => ?_) (fun hb41 => ?_)
      · skip
        rw [Bool.not_eq_true'] at hb41
        refine KT.skip rfl rfl ?_
        refine KT.skip rfl rfl ?_
        refine KT.skip rfl rfl ?_
        refine KT.skip rfl rfl ?_
        refine KT.skip rfl rfl ?_
        refine KT.step rfl rfl (K.pick rfl (fun _ => rfl) (fun h => by cases h)) ?_
        refine KT.step rfl rfl (K.move rfl) ?_
        refine KT.skip rfl rfl ?_
        refine KT.skip rfl rfl ?_
        refine KT.skip rfl rfl ?_
        refine KT.skip rfl rfl ?_
        refine KT.skip rfl rfl ?_
        refine KT.skip rfl rfl ?_
        refine KT.skip rfl rfl ?_
        refine KT.skip rfl rfl ?_
        refine KT.step rfl rfl (K.pick rfl (fun _ => rfl) (fun h => by cases h)) ?_
        refine KT.nil ?_
        refine thenK_n ?_
        refine KC.cond rfl (fun hc57 => ?_) (fun hc57 => ?_)
        · skip
          refine KC.seq ?_
          refine KC.region ?_
          refine KT.step rfl rfl (K.assign rfl) ?_
          refine KT.nil ?_
          refine thenK_n ?_
          refine KC.ret ?_
          refine thenK_r ?_
          refine blockK_r ?_
          refine thenK_r ?_
          refine thenK_r ?_
          refine blockK_r ?_
          refine thenK_r ?_
          exact ⟨.inl rfl, _, rfl, fin_b (by unfold meanB; rw [cycB_false (fun h => by have := (h.1 k hkl).2.1; unfold inN at this; rw [gn] at this; simp at hb41; omega)]; rfl)⟩
        · cases hc57
      · skip
        rw [Bool.not_eq_false'] at hb41
        replace hb41 := Bool.and_eq_true_iff.1 hb41
        replace hb41 := And.intro (of_decide_eq_true hb41.1) (of_decide_eq_true hb41.2)
        obtain ⟨y, hy⟩ := Int.eq_ofNat_of_zero_le hb41.1
        simp only [hy] at *
        have hmetN : metN c k < 2 ^ 63 := Nat.lt_of_lt_of_le (met_lt (n := n) fun q hq => (hall q hq).1) (Nat.pow_le_pow_right (by decide) (by omega))
        have h2x : 2 ^ x < 2 ^ 63 := Nat.pow_lt_pow_right (by decide) (by omega)
        have hx2 : (c.getD k 0).toNat = x := by rw [gk]; rfl
        have hy2 : (nx c k).toNat = y := by rw [gn]; rfl
        have harc : arcI a c k = a x y := by unfold arcI; rw [hx2, hy2]
        have hbit := bitOne (metN c k) x
        refine KT.step rfl rfl (K.move rfl) ?_
        refine KT.step rfl rfl (K.move rfl) ?_
        refine KT.step rfl rfl (K.shr rfl rfl (by omega) (shrI (by omega))) ?_
        refine KT.step rfl rfl (K.band rfl rfl (show IntKind.i64.wrap (BitVec.ofInt IntKind.i64.bits ((metN c k / 2 ^ x : Nat) : Int) &&& BitVec.ofInt IntKind.i64.bits (1 : Int)).toNat = ((metN c k / 2 ^ x &&& 1 : Nat) : Int) from andI (b := 1) (Nat.lt_of_le_of_lt (Nat.div_le_self _ _) hmetN) (by decide))) ?_
        refine KT.step rfl rfl (K.eql rfl rfl) ?_
        refine KT.step rfl rfl (K.pick rfl (fun h => by cases h) (fun _ => rfl)) ?_
        refine KT.step rfl rfl (K.move rfl) ?_
        refine KT.bcase (fun hb48 => ?_) (fun hb48 => ?_)
        · skip
          replace hb48 := of_decide_eq_true hb48
          have hmet : (metN c k).testBit x = true := by rw [← hbit]; exact decide_eq_true hb48
          obtain ⟨q, hq1, hq2⟩ := met_bit.1 hmet
          refine KT.skip rfl rfl ?_
          refine KT.skip rfl rfl ?_
          refine KT.skip rfl rfl ?_
          refine KT.skip rfl rfl ?_
          refine KT.skip rfl rfl ?_
          refine KT.skip rfl rfl ?_
          refine KT.skip rfl rfl ?_
          refine KT.skip rfl rfl ?_
          refine KT.step rfl rfl (K.pick rfl (fun _ => rfl) (fun h => by cases h)) ?_
          refine KT.nil ?_
          refine thenK_n ?_
          refine KC.cond rfl (fun hc57 => ?_) (fun hc57 => ?_)
          · skip
            refine KC.seq ?_
            refine KC.region ?_
            refine KT.step rfl rfl (K.assign rfl) ?_
            refine KT.nil ?_
            refine thenK_n ?_
            refine KC.ret ?_
            refine thenK_r ?_
            refine blockK_r ?_
            refine thenK_r ?_
            refine thenK_r ?_
            refine blockK_r ?_
            refine thenK_r ?_
            exact ⟨.inl rfl, _, rfl, fin_b (by unfold meanB; rw [cycB_false (fun h => (h.1 k hkl).2.2.1 q hq1 (by have := (hall q hq1).1; unfold inN at this; rw [gk]; omega))]; rfl)⟩
          · cases hc57
        · skip
          replace hb48 := of_decide_eq_false hb48
          have hmet : ¬ (metN c k).testBit x = true := by rw [← hbit]; simpa using hb48
          refine KT.step rfl rfl (K.move rfl) ?_
          refine KT.step rfl rfl (K.move rfl) ?_
          refine KT.idx rfl rfl rfl (by assumption) rfl (by rw [genM_len]; omega) Try.underlying22 Try.size33 fun c51 cs51 hq51 => ?_
          rw [genM_row] at hq51
          refine KT.step rfl rfl (K.load rfl Try.agg33) ?_
          refine KT.step rfl rfl (K.move rfl) ?_
          refine KT.idxI rfl rfl rfl (by assumption) rfl (by simp; omega) Try.underlying33 Try.size3 fun cs54 => ?_
          rw [get_range]
          refine KT.step rfl rfl (K.load rfl Try.agg3) ?_
          refine KT.step rfl rfl (K.eql rfl rfl) ?_
          refine KT.step rfl rfl (K.pick rfl (fun h => by cases h) (fun _ => rfl)) ?_
          refine KT.nil ?_
          refine thenK_n ?_
          refine KC.cond rfl (fun hc57 => ?_) (fun hc57 => ?_)
          · skip
            replace hc57 := of_decide_eq_true hc57
            refine KC.seq ?_
            refine KC.region ?_
            refine KT.step rfl rfl (K.assign rfl) ?_
            refine KT.nil ?_
            refine thenK_n ?_
            refine KC.ret ?_
            refine thenK_r ?_
            refine blockK_r ?_
            refine thenK_r ?_
            refine thenK_r ?_
            refine blockK_r ?_
            refine thenK_r ?_
            exact ⟨.inl rfl, _, rfl, fin_b (by unfold meanB; rw [cycB_false (fun h => (h.1 k hkl).2.2.2 (by rw [harc]; exact hc57))]; rfl)⟩
          · skip
            replace hc57 := of_decide_eq_false hc57
            have hok : okK n a c k := by
              refine ⟨by rw [gk]; exact ⟨by omega, by omega⟩, by rw [gn]; exact ⟨by omega, by omega⟩, fun q hq e => hmet (met_bit.2 ⟨q, hq, by rw [e, hx2]⟩), by rw [harc]; exact hc57⟩
            have hall' : ∀ q, q < k + 1 → okK n a c q := fun q hq => by
              by_cases e : q = k
              · subst e; exact hok
              · exact hall q (by omega)
            have hmk : metN c (k + 1) = metN c k ||| 2 ^ x := by simp only [metN, hx2]
            have hk12 : k + 1 ≤ n := dif_le fun q hq => ⟨(hall' q hq).1, (hall' q hq).2.2.1⟩
            have hw1 := wtS_bd ha (by omega) (c := c) (k := k) fun q hq => (hall q hq).2.2.2
            have hw2 := wtS_bd ha (by omega) (c := c) (k := k + 1) fun q hq => (hall' q hq).2.2.2
            simp only [wtS, harc] at hw2
            refine KC.skip ?_
            refine thenK_n ?_
            refine KC.seq ?_
            refine KC.region ?_
            refine KT.step rfl rfl (K.move rfl) ?_
            refine KT.step rfl rfl (K.move rfl) ?_
            refine KT.step rfl rfl (K.shl rfl rfl (by omega) (shlI (by omega))) ?_
            refine KT.step rfl rfl (K.bor rfl rfl (orI hmetN h2x)) ?_
            refine KT.step rfl rfl (K.assign rfl) ?_
            refine KT.nil ?_
            refine thenK_n ?_
            refine KC.region ?_
            refine KT.step rfl rfl (K.move rfl) ?_
            refine KT.step rfl rfl (K.move rfl) ?_
            refine KT.step rfl rfl (K.move rfl) ?_
            refine KT.idx rfl rfl rfl (by assumption) rfl (by rw [genM_len]; omega) Try.underlying22 Try.size33 fun c65 cs65 hq65 => ?_
            rw [genM_row] at hq65
            refine KT.step rfl rfl (K.load rfl Try.agg33) ?_
            refine KT.step rfl rfl (K.move rfl) ?_
            refine KT.idxI rfl rfl rfl (by assumption) rfl (by simp; omega) Try.underlying33 Try.size3 fun cs68 => ?_
            rw [get_range]
            refine KT.step rfl rfl (K.load rfl Try.agg3) ?_
            refine KT.step rfl rfl (K.add rfl rfl (wrap_id (by omega))) ?_
            refine KT.step rfl rfl (K.assign rfl) ?_
            refine KT.nil ?_
            refine blockK_n ?_
            refine thenK_n ?_
            refine KC.region ?_
            refine KT.step rfl rfl (K.add rfl rfl (wrap_id (by omega))) ?_
            refine KT.step rfl rfl (K.move rfl) ?_
            refine KT.nil ?_
            refine thenK_n ?_
            refine ⟨k + 1, ⟨by omega, hall'⟩, by omega, rfl, by simp [Go.Vm.look, extK, wtS, hmk, harc]⟩
  · skip
    replace hc15 := of_decide_eq_false hc15
    have hkl : k = c.length := by omega
    subst hkl
    have hk12 : c.length ≤ n := dif_le fun q hq => ⟨(hall q hq).1, (hall q hq).2.2.1⟩
    have hw1 := wtS_bd ha (by omega) (c := c) (k := c.length) fun q hq => (hall q hq).2.2.2
    have hm1 := mul_bd (a := 12000) (b := 1099511627776) (x := wtS a c c.length) (y := den) (by omega) (by omega) (by omega) (by omega)
    have hm2 := mul_bd (a := 1099511627776) (b := 12) (x := num) (y := (c.length : Nat)) (by omega) (by omega) (by omega) (by omega)
    refine KC.exit ?_
    refine thenK_x ?_
    refine thenK_x ?_
    refine blockK_e ?_
    refine thenK_n ?_
    refine KC.seq ?_
    refine KC.region ?_
    refine KT.step rfl rfl (K.move rfl) ?_
    refine KT.step rfl rfl (K.len rfl he Try.underlying33) ?_
    refine KT.step rfl rfl (K.gtr rfl rfl) ?_
    refine KT.step rfl rfl (K.move rfl) ?_
    refine KT.bcase (fun hb75 => ?_) (fun hb75 => ?_)
    · skip
      replace hb75 := of_decide_eq_true hb75
      refine KT.step rfl rfl (K.move rfl) ?_
      refine KT.step rfl rfl (K.fieldAddrO rfl Try.fld59_1 Try.size3) ?_
      refine KT.step rfl rfl (K.loadO rfl rfl (by simp) rfl Try.agg3) ?_
      refine KT.step rfl rfl (K.mul rfl rfl (wrap_id (by omega))) ?_
      refine KT.step rfl rfl (K.fieldAddrO rfl Try.fld59_0 Try.size3) ?_
      refine KT.step rfl rfl (K.loadO rfl rfl (by simp) rfl Try.agg3) ?_
      refine KT.step rfl rfl (K.move rfl) ?_
      refine KT.step rfl rfl (K.len rfl he Try.underlying33) ?_
      refine KT.step rfl rfl (K.mul rfl rfl (wrap_id (by omega))) ?_
      refine KT.step rfl rfl (K.eql rfl rfl) ?_
      refine KT.step rfl rfl (K.pick rfl (fun _ => rfl) (fun h => by cases h)) ?_
      refine KT.step rfl rfl (K.assign rfl) ?_
      refine KT.nil ?_
      refine thenK_n ?_
      refine KC.ret ?_
      exact ⟨.inl rfl, _, rfl, fin_b (by unfold meanB; rw [cycB_true hall (by omega), Bool.true_and])⟩
    · skip
      replace hb75 := of_decide_eq_false hb75
      refine KT.skip rfl rfl ?_
      refine KT.skip rfl rfl ?_
      refine KT.skip rfl rfl ?_
      refine KT.skip rfl rfl ?_
      refine KT.skip rfl rfl ?_
      refine KT.skip rfl rfl ?_
      refine KT.skip rfl rfl ?_
      refine KT.skip rfl rfl ?_
      refine KT.skip rfl rfl ?_
      refine KT.skip rfl rfl ?_
      refine KT.step rfl rfl (K.pick rfl (fun h => by cases h) (fun _ => rfl)) ?_
      refine KT.step rfl rfl (K.assign rfl) ?_
      refine KT.nil ?_
      refine thenK_n ?_
      refine KC.ret ?_
      exact ⟨.inl rfl, _, rfl, fin_b (by unfold meanB; rw [cycB_false (fun h => by omega)]; rfl)⟩
set_option maxRecDepth 10000 in
theorem isPot64 {d e : DV} {n : Nat} {a : Nat → Nat → Int} {v : List Int} {num den : Int} (hd : Mat d (genM n n a)) (he : Ints e v) (hl : v.length ≤ 9223372036854775807) (h1 : 1 ≤ n) (hn : n ≤ 12) (ha : GoodM 1000000 a) (hnum : inF num) (hden : 1 ≤ den ∧ den ≤ F40) : DeepCall Try.prog 64 [d, e, .agg [DI num, DI den]] (DB (potB n a v num den)) := by
  unfold inF at hnum
  unfold F40 at hnum hden
  refine deepCall_K 5 Try.func64 rfl (Nat.le_of_ble_eq_true rfl) fun M W0 => ?_
  refine KC.seq ?_
  refine KC.region ?_
  refine KT.step rfl rfl (K.box rfl) ?_
  refine KT.step rfl rfl (K.assign rfl) ?_
  refine KT.nil ?_
  refine thenK_n ?_
  refine KC.seq ?_
  refine KC.seq ?_
  refine KC.region ?_
  refine KT.step rfl rfl (K.move rfl) ?_
  refine KT.step rfl rfl (K.len rfl he Try.underlying33) ?_
  refine KT.step rfl rfl (K.move rfl) ?_
  refine KT.step rfl rfl (K.len rfl hd Try.underlying22) ?_
  rw [genM_len]
  refine KT.step rfl rfl (K.neq rfl rfl) ?_
  refine KT.nil ?_
  refine thenK_n ?_
  refine KC.cond rfl (fun hc17 => ?_) (fun hc17 => ?_)
  · skip
    replace hc17 := of_decide_eq_true hc17
    refine KC.seq ?_
    refine KC.region ?_
    refine KT.step rfl rfl (K.assign rfl) ?_
    refine KT.nil ?_
    refine thenK_n ?_
    refine KC.ret ?_
    refine thenK_r ?_
    exact ⟨.inl rfl, _, rfl, fin_b (potB_false fun h => by have := h.1; omega)⟩
  · skip
    replace hc17 := of_decide_eq_false hc17
    refine KC.skip ?_
    refine thenK_n ?_
    refine KC.seq ?_
    refine KC.seq ?_
    refine KC.region ?_
    refine KT.step rfl rfl (K.move rfl) ?_
    refine KT.step rfl rfl (K.len rfl he Try.underlying33) ?_
    refine KT.step rfl rfl (K.move rfl) ?_
    refine KT.nil ?_
    refine thenK_n ?_
    refine KC.block ?_
    refine KC.loop (fun _ : Nat => [⟨[.d (DI num), .d (DI den)], 0⟩]) (fun k => [(0, .d d), (1, .d e), (5, .optr 0 0), (18, .d e), (19, .d (DI (v.length : Nat))), (20, .d (DI (k : Nat)))]) (fun k => k ≤ v.length ∧ ∀ x ∈ v.take k, inF x) (fun k => v.length - k) 0 ⟨Nat.zero_le _, fun x hx => by simp at hx⟩ rfl (by simp [Go.Vm.look, extK, enterK]) ?_
    intro k hk
    obtain ⟨hk, hall⟩ := hk
    refine KC.seq ?_
    refine KC.region ?_
    refine KT.step rfl rfl (K.lss rfl rfl) ?_
    refine KT.nil ?_
    refine thenK_n ?_
    refine KC.seq ?_
    refine KC.cond rfl (fun hc21 => ?_) (fun hc21 => ?_)
    · skip
      replace hc21 := of_decide_eq_true hc21
      refine KC.skip ?_
      refine thenK_n ?_
      refine KC.seq ?_
      refine KC.block ?_
      refine KC.seq ?_
      refine KC.region ?_
      refine KT.idxI rfl rfl rfl (by assumption) rfl (by omega) Try.underlying33 Try.size3 fun cs22 => ?_
      refine KT.step rfl rfl (K.load rfl Try.agg3) ?_
      refine KT.step rfl rfl (K.assign rfl) ?_
      refine KT.nil ?_
      refine thenK_n ?_
      refine KC.seq ?_
      refine KC.region ?_
      refine KT.step rfl rfl (K.move rfl) ?_
      refine KT.step rfl rfl (K.call3 rfl rfl rfl plainTry_52 (within52 _ _ _)) ?_
      refine KT.step rfl rfl (K.not rfl) ?_
      refine KT.nil ?_
      refine thenK_n ?_
      refine KC.cond rfl (fun hc26 => ?_) (fun hc26 => ?_)
      · skip
        rw [Bool.not_eq_true'] at hc26
        refine KC.seq ?_
        refine KC.region ?_
        refine KT.step rfl rfl (K.assign rfl) ?_
        refine KT.nil ?_
        refine thenK_n ?_
        refine KC.ret ?_
        refine blockK_r ?_
        refine thenK_r ?_
        refine thenK_r ?_
        refine blockK_r ?_
        refine thenK_r ?_
        exact ⟨.inl rfl, _, rfl, fin_b (potB_false fun h => by
          have := h.2.1 v[k] (List.getElem_mem (by omega))
          unfold inF F40 at this
          rw [decide_eq_true (by omega), decide_eq_true (by omega)] at hc26
          cases hc26)⟩
      · skip
        rw [Bool.not_eq_false'] at hc26
        replace hc26 := Bool.and_eq_true_iff.1 hc26
        replace hc26 := And.intro (of_decide_eq_true hc26.1) (of_decide_eq_true hc26.2)
        have hin : inF v[k] := ⟨by unfold F40; omega, by unfold F40; omega⟩
        refine KC.skip ?_
        refine blockK_n ?_
        refine thenK_n ?_
        refine KC.region ?_
        refine KT.step rfl rfl (K.add rfl rfl (wrap_id (by omega))) ?_
        refine KT.step rfl rfl (K.move rfl) ?_
        refine KT.nil ?_
        refine thenK_n ?_
        refine ⟨k + 1, ⟨by omega, inF_all_take (by omega) hall hin⟩, by omega, rfl, by simp [Go.Vm.look, extK]⟩
    · skip
      replace hc21 := of_decide_eq_false hc21
      refine KC.exit ?_
      refine thenK_x ?_
      refine thenK_x ?_
      refine blockK_e ?_
      refine thenK_n ?_
      refine KC.seq ?_
      refine KC.seq ?_
      refine KC.region ?_
      refine KT.step rfl rfl (K.move rfl) ?_
      refine KT.step rfl rfl (K.len rfl hd Try.underlying22) ?_
      rw [genM_len]
      refine KT.step rfl rfl (K.move rfl) ?_
      refine KT.nil ?_
      refine thenK_n ?_
      refine KC.block ?_
      have hvall : ∀ x ∈ v, inF x := by have := hall; rwa [List.take_of_length_le (by omega)] at this
      clear hall
      refine KC.loop (fun _ : Nat => [⟨[.d (DI num), .d (DI den)], 0⟩]) (fun i => [(0, .d d), (1, .d e), (5, .optr 0 0), (28, .d d), (29, .d (DI (n : Nat))), (30, .d (DI (i : Nat)))]) (fun i => i ≤ n ∧ ∀ i2, i2 < i → ∀ j2, j2 < n → a i2 j2 ≠ Nv → den * a i2 j2 + v.getD j2 0 ≤ num + v.getD i2 0) (fun i => n - i) 0 ⟨Nat.zero_le _, fun i2 h => by omega⟩ rfl (by simp [Go.Vm.look, extK, enterK]) ?_
      intro i hi
      obtain ⟨hi, hall⟩ := hi
      refine KC.seq ?_
      refine KC.region ?_
      refine KT.step rfl rfl (K.lss rfl rfl) ?_
      refine KT.nil ?_
      refine thenK_n ?_
      refine KC.seq ?_
      refine KC.cond rfl (fun hc31 => ?_) (fun hc31 => ?_)
      · skip
        replace hc31 := of_decide_eq_true hc31
        refine KC.skip ?_
        refine thenK_n ?_
        refine KC.seq ?_
        refine KC.block ?_
        refine KC.seq ?_
        refine KC.region ?_
        refine KT.step rfl rfl (K.move rfl) ?_
        refine KT.idx rfl rfl rfl (by assumption) rfl (by rw [genM_len]; omega) Try.underlying22 Try.size33 fun c33 cs33 hq33 => ?_
        rw [genM_row] at hq33
        refine KT.step rfl rfl (K.load rfl Try.agg33) ?_
        refine KT.step rfl rfl (K.assign rfl) ?_
        refine KT.step rfl rfl (K.assign rfl) ?_
        refine KT.nil ?_
        refine thenK_n ?_
        refine KC.seq ?_
        refine KC.region ?_
        refine KT.step rfl rfl (K.move rfl) ?_
        refine KT.step rfl rfl (K.len rfl hq33 Try.underlying33) ?_
        rw [show ((List.range n).map (a i)).length = n by simp]
        refine KT.step rfl rfl (K.move rfl) ?_
        refine KT.nil ?_
        refine thenK_n ?_
        refine KC.block ?_
        refine KC.loop (fun _ : Nat => [⟨[.d (DI num), .d (DI den)], 0⟩]) (fun j => [(0, .d d), (1, .d e), (5, .optr 0 0), (28, .d d), (29, .d (DI (n : Nat))), (30, .d (DI (i : Nat))), (9, .d (DI (i : Nat))), (35, .d c33), (36, .d (DI (n : Nat))), (37, .d (DI (j : Nat)))]) (fun j => j ≤ n ∧ ∀ j2, j2 < j → a i j2 ≠ Nv → den * a i j2 + v.getD j2 0 ≤ num + v.getD i 0) (fun j => n - j) 0 ⟨Nat.zero_le _, fun j2 h => by omega⟩ rfl (by simp [Go.Vm.look, extK, enterK]) ?_
        intro j hj
        obtain ⟨hj, hall2⟩ := hj
        refine KC.seq ?_
        refine KC.region ?_
        refine KT.step rfl rfl (K.lss rfl rfl) ?_
        refine KT.nil ?_
        refine thenK_n ?_
        refine KC.seq ?_
        refine KC.cond rfl (fun hc38 => ?_) (fun hc38 => ?_)
        · skip
          replace hc38 := of_decide_eq_true hc38
          refine KC.skip ?_
          refine thenK_n ?_
          refine KC.seq ?_
          refine KC.block ?_
          refine KC.seq ?_
          refine KC.region ?_
          refine KT.step rfl rfl (K.move rfl) ?_
          refine KT.idxI rfl rfl rfl (by assumption) rfl (by simp; omega) Try.underlying33 Try.size3 fun cs40 => ?_
          rw [get_range]
          refine KT.step rfl rfl (K.load rfl Try.agg3) ?_
          refine KT.step rfl rfl (K.assign rfl) ?_
          refine KT.step rfl rfl (K.assign rfl) ?_
          refine KT.nil ?_
          refine thenK_n ?_
          refine KC.seq ?_
          refine KC.draw Try.mixed ?_
          refine KT.step rfl rfl (K.move rfl) ?_
          refine KT.step rfl rfl (K.neq rfl rfl) ?_
          refine KT.step rfl rfl (K.move rfl) ?_
          refine KT.bcase (fun hb44 => ?_) (fun hb44 => ?_)
          · skip
            replace hb44 := of_decide_eq_true hb44
            have hg := (ha i j).resolve_left hb44
            have gi : v.getD i 0 = v[i] := getD_get (by omega)
            have gj : v.getD j 0 = v[j] := getD_get (by omega)
            have hvi := inF_get hvall i
            have hvj := inF_get hvall j
            rw [gi] at hvi
            rw [gj] at hvj
            unfold inF F40 at hvi hvj
            have hm := mul_bd (a := 1099511627776) (b := 1000000) (x := den) (y := a i j) (by omega) (by omega) (by omega) (by omega)
            refine KT.step rfl rfl (K.fieldAddrO rfl Try.fld59_1 Try.size3) ?_
            refine KT.step rfl rfl (K.loadO rfl rfl (by simp) rfl Try.agg3) ?_
            refine KT.step rfl rfl (K.move rfl) ?_
            refine KT.step rfl rfl (K.mul rfl rfl (wrap_id (by omega))) ?_
            refine KT.step rfl rfl (K.move rfl) ?_
            refine KT.step rfl rfl (K.move rfl) ?_
            refine KT.idxI rfl rfl rfl (by assumption) rfl (by omega) Try.underlying33 Try.size3 fun cs51 => ?_
            refine KT.step rfl rfl (K.load rfl Try.agg3) ?_
            refine KT.step rfl rfl (K.add rfl rfl (wrap_id (by omega))) ?_
            refine KT.step rfl rfl (K.fieldAddrO rfl Try.fld59_0 Try.size3) ?_
            refine KT.step rfl rfl (K.loadO rfl rfl (by simp) rfl Try.agg3) ?_
            refine KT.step rfl rfl (K.move rfl) ?_
            refine KT.step rfl rfl (K.move rfl) ?_
            refine KT.idxI rfl rfl rfl (by assumption) rfl (by omega) Try.underlying33 Try.size3 fun cs58 => ?_
            refine KT.step rfl rfl (K.load rfl Try.agg3) ?_
            refine KT.step rfl rfl (K.add rfl rfl (wrap_id (by omega))) ?_
            refine KT.step rfl rfl (K.gtr rfl rfl) ?_
            refine KT.step rfl rfl (K.pick rfl (fun _ => rfl) (fun h => by cases h)) ?_
            refine KT.nil ?_
            refine ⟨by kernel_rfl, ?_⟩
            refine thenK_n ?_
            refine KC.cond rfl (fun hc62 => ?_) (fun hc62 => ?_)
            · skip
              replace hc62 := of_decide_eq_true hc62
              refine KC.seq ?_
              refine KC.region ?_
              refine KT.step rfl rfl (K.assign rfl) ?_
              refine KT.nil ?_
              refine thenK_n ?_
              refine KC.ret ?_
              refine blockK_r ?_
              refine thenK_r ?_
              refine thenK_r ?_
              refine blockK_r ?_
              refine blockK_r ?_
              refine thenK_r ?_
              refine thenK_r ?_
              refine blockK_r ?_
              refine thenK_r ?_
              exact ⟨.inl rfl, _, rfl, fin_b (potB_false fun h => by have := h.2.2 i (by omega) j (by omega) hb44; rw [gi, gj] at this; omega)⟩
            · skip
              replace hc62 := of_decide_eq_false hc62
              refine KC.skip ?_
              refine blockK_n ?_
              refine thenK_n ?_
              refine KC.region ?_
              refine KT.step rfl rfl (K.add rfl rfl (wrap_id (by omega))) ?_
              refine KT.step rfl rfl (K.move rfl) ?_
              refine KT.nil ?_
              refine thenK_n ?_
              refine ⟨j + 1, ⟨by omega, fun j2 hj2 hne => ?_⟩, by omega, rfl, by simp [Go.Vm.look, extK]⟩
              by_cases e : j2 = j
              · subst e
                have := hc62
                rw [gi, gj]; omega
              · exact hall2 j2 (by omega) hne
          · skip
            replace hb44 := of_decide_eq_false hb44
            refine KT.skip rfl rfl ?_
            refine KT.skip rfl rfl ?_
            refine KT.skip rfl rfl ?_
            refine KT.skip rfl rfl ?_
            refine KT.skip rfl rfl ?_
            refine KT.skip rfl rfl ?_
            refine KT.skip rfl rfl ?_
            refine KT.skip rfl rfl ?_
            refine KT.skip rfl rfl ?_
            refine KT.skip rfl rfl ?_
            refine KT.skip rfl rfl ?_
            refine KT.skip rfl rfl ?_
            refine KT.skip rfl rfl ?_
            refine KT.skip rfl rfl ?_
            refine KT.skip rfl rfl ?_
            refine KT.skip rfl rfl ?_
            refine KT.skip rfl rfl ?_
            refine KT.step rfl rfl (K.pick rfl (fun h => by cases h) (fun _ => rfl)) ?_
            refine KT.nil ?_
            refine ⟨by kernel_rfl, ?_⟩
            refine thenK_n ?_
            refine KC.cond rfl (fun hc62 => ?_) (fun hc62 => ?_)
            · cases hc62
            · skip
              refine KC.skip ?_
              refine blockK_n ?_
              refine thenK_n ?_
              refine KC.region ?_
              refine KT.step rfl rfl (K.add rfl rfl (wrap_id (by omega))) ?_
              refine KT.step rfl rfl (K.move rfl) ?_
              refine KT.nil ?_
              refine thenK_n ?_
              refine ⟨j + 1, ⟨by omega, fun j2 hj2 hne => ?_⟩, by omega, rfl, by simp [Go.Vm.look, extK]⟩
              by_cases e : j2 = j
              · subst e
                exact absurd (Classical.not_not.1 hb44) hne
              · exact hall2 j2 (by omega) hne
        · skip
          replace hc38 := of_decide_eq_false hc38
          refine KC.exit ?_
          refine thenK_x ?_
          refine thenK_x ?_
          refine blockK_e ?_
          refine blockK_n ?_
          refine thenK_n ?_
          refine KC.region ?_
          refine KT.step rfl rfl (K.add rfl rfl (wrap_id (by omega))) ?_
          refine KT.step rfl rfl (K.move rfl) ?_
          refine KT.nil ?_
          refine thenK_n ?_
          refine ⟨i + 1, ⟨by omega, fun i2 hi2 j2 hj2 => ?_⟩, by omega, rfl, by simp [Go.Vm.look, extK]⟩
          by_cases e : i2 = i
          · subst e; exact hall2 j2 (by omega)
          · exact hall i2 (by omega) j2 hj2
      · skip
        replace hc31 := of_decide_eq_false hc31
        refine KC.exit ?_
        refine thenK_x ?_
        refine thenK_x ?_
        refine blockK_e ?_
        refine thenK_n ?_
        refine KC.seq ?_
        refine KC.region ?_
        refine KT.step rfl rfl (K.assign rfl) ?_
        refine KT.nil ?_
        refine thenK_n ?_
        refine KC.ret ?_
        exact ⟨.inl rfl, _, rfl, fin_b (potB_true ⟨by omega, hvall, fun i2 hi2 j2 hj2 => hall i2 (by omega) j2 hj2⟩)⟩
set_option maxRecDepth 10000 in
theorem rwithin61 (x : Int) : DeepCall Try.prog 61 [DI x] (DB (decide (-F40 ≤ x) && decide (x ≤ F40))) := by
  refine deepCall_K 5 Try.func61 rfl (Nat.le_of_ble_eq_true rfl) fun M W0 => ?_
  refine KC.seq ?_
  refine KC.region ?_
  refine KT.step rfl rfl (K.assign rfl) ?_
  refine KT.nil ?_
  refine thenK_n ?_
  refine KC.seq ?_
  refine KC.region ?_
  refine KT.step rfl rfl (K.move rfl) ?_
  refine KT.step rfl rfl (K.geq rfl rfl) ?_
  refine KT.step rfl rfl (K.move rfl) ?_
  refine KT.bcase (fun hb5 => ?_) (fun hb5 => ?_)
  · skip
    replace hb5 := of_decide_eq_true hb5
    refine KT.step rfl rfl (K.move rfl) ?_
    refine KT.step rfl rfl (K.leq rfl rfl) ?_
    refine KT.step rfl rfl (K.pick rfl (fun _ => rfl) (fun h => by cases h)) ?_
    refine KT.step rfl rfl (K.assign rfl) ?_
    refine KT.nil ?_
    refine thenK_n ?_
    refine KC.ret ?_
    exact ⟨.inl rfl, _, rfl, fin_b (by unfold F40; rw [decide_eq_true (show -1099511627776 ≤ x by omega), Bool.true_and])⟩
  · skip
    replace hb5 := of_decide_eq_false hb5
    refine KT.skip rfl rfl ?_
    refine KT.skip rfl rfl ?_
    refine KT.step rfl rfl (K.pick rfl (fun h => by cases h) (fun _ => rfl)) ?_
    refine KT.step rfl rfl (K.assign rfl) ?_
    refine KT.nil ?_
    refine thenK_n ?_
    refine KC.ret ?_
    exact ⟨.inl rfl, _, rfl, fin_b (by unfold F40; rw [decide_eq_false (show ¬ -1099511627776 ≤ x by omega)]; rfl)⟩

noncomputable def rweight (n : Nat) (a : Nat → Nat → Int) (c : List Int) : Int := @ite _ (cycP n a c) (Classical.propDecidable _) (wtS a c c.length) 0
theorem rw_yes {n : Nat} {a : Nat → Nat → Int} {c : List Int} (h : cycP n a c) : rweight n a c = wtS a c c.length := @if_pos _ (Classical.propDecidable _) h _ _ _
theorem rw_no {n : Nat} {a : Nat → Nat → Int} {c : List Int} (h : ¬ cycP n a c) : rweight n a c = 0 := @if_neg _ (Classical.propDecidable _) h _ _ _
theorem fin_w {σ : List VObj} {k : Nat} {x y : Int} {b b' : Bool} (h : x = y) (h2 : b = b') : deepen σ (k + 3) (.tup [.d (DI x), .d (DB b)]) = some (.tup [DI y, DB b']) := by rw [h, h2]; rfl
set_option maxRecDepth 10000 in
theorem weight65 {d e : DV} {n : Nat} {a : Nat → Nat → Int} {c : List Int} (hd : Mat d (genM n n a)) (he : Ints e c) (hl : c.length ≤ 9223372036854775807) (h1 : 1 ≤ n) (hn : n ≤ 12) (ha : GoodM 1000000 a) : DeepCall Try.prog 65 [d, e] (.tup [DI (rweight n a c), DB (cycB n a c)]) := by
  refine deepCall_K 5 Try.func65 rfl (Nat.le_of_ble_eq_true rfl) fun M W0 => ?_
  refine KC.seq ?_
  refine KC.region ?_
  refine KT.step rfl rfl (K.assign rfl) ?_
  refine KT.step rfl rfl (K.assign rfl) ?_
  refine KT.nil ?_
  refine thenK_n ?_
  refine KC.seq ?_
  refine KC.region ?_
  refine KT.step rfl rfl (K.assign rfl) ?_
  refine KT.nil ?_
  refine thenK_n ?_
  refine KC.seq ?_
  refine KC.seq ?_
  refine KC.region ?_
  refine KT.step rfl rfl (K.move rfl) ?_
  refine KT.step rfl rfl (K.len rfl he Try.underlying33) ?_
  refine KT.step rfl rfl (K.move rfl) ?_
  refine KT.nil ?_
  refine thenK_n ?_
  refine KC.block ?_
  refine KC.loop (fun _ : Nat => []) (fun k => [(0, .d d), (1, .d e), (6, .d (DI 0)), (14, .d e), (15, .d (DI (c.length : Nat))), (16, .d (DI (k : Nat)))]) (fun k => k ≤ c.length ∧ ∀ q, q < k → inN n (c.getD q 0) ∧ difK c q) (fun k => c.length - k) 0 ⟨Nat.zero_le _, fun q hq => by omega⟩ rfl (by simp [Go.Vm.look, extK, enterK]) ?_
  intro k hk
  obtain ⟨hk, hall⟩ := hk
  refine KC.seq ?_
  refine KC.region ?_
  refine KT.step rfl rfl (K.lss rfl rfl) ?_
  refine KT.nil ?_
  refine thenK_n ?_
  refine KC.seq ?_
  refine KC.cond rfl (fun hc17 => ?_) (fun hc17 => ?_)
  · skip
    replace hc17 := of_decide_eq_true hc17
    have hkl : k < c.length := by omega
    have gk : c.getD k 0 = c[k] := getD_get hkl
    refine KC.skip ?_
    refine thenK_n ?_
    refine KC.seq ?_
    refine KC.block ?_
    refine KC.seq ?_
    refine KC.region ?_
    refine KT.step rfl rfl (K.move rfl) ?_
    refine KT.idxI rfl rfl rfl (by assumption) rfl (by omega) Try.underlying33 Try.size3 fun cs19 => ?_
    refine KT.step rfl rfl (K.load rfl Try.agg3) ?_
    refine KT.step rfl rfl (K.assign rfl) ?_
    refine KT.step rfl rfl (K.assign rfl) ?_
    refine KT.nil ?_
    refine thenK_n ?_
    refine KC.seq ?_
    refine KC.seq ?_
    refine KC.region ?_
    refine KT.step rfl rfl (K.move rfl) ?_
    refine KT.step rfl rfl (K.move rfl) ?_
    refine KT.sliceTo rfl rfl rfl (by assumption) rfl (by omega) Try.underlying33 Try.size3 fun r23 hq23 => ?_
    refine KT.step rfl rfl (K.len rfl hq23 Try.underlying33) ?_
    rw [show (c.take k).length = k by simp; omega]
    refine KT.step rfl rfl (K.move rfl) ?_
    refine KT.nil ?_
    refine thenK_n ?_
    refine KC.block ?_
    refine KC.loop (fun _ : Nat => []) (fun q => [(0, .d d), (1, .d e), (6, .d (DI 0)), (14, .d e), (15, .d (DI (c.length : Nat))), (16, .d (DI (k : Nat))), (8, .d (DI c[k])), (23, .d r23), (24, .d (DI (k : Nat))), (25, .d (DI (q : Nat)))]) (fun q => q ≤ k ∧ ∀ q2, q2 < q → c.getD q2 0 ≠ c.getD k 0) (fun q => k - q) 0 ⟨Nat.zero_le _, fun q hq => by omega⟩ rfl (by simp [Go.Vm.look, extK, enterK]) ?_
    intro q hq
    obtain ⟨hq, hdif⟩ := hq
    refine KC.seq ?_
    refine KC.region ?_
    refine KT.step rfl rfl (K.lss rfl rfl) ?_
    refine KT.nil ?_
    refine thenK_n ?_
    refine KC.seq ?_
    refine KC.cond rfl (fun hc26 => ?_) (fun hc26 => ?_)
    · skip
      replace hc26 := of_decide_eq_true hc26
      refine KC.skip ?_
      refine thenK_n ?_
      refine KC.seq ?_
      refine KC.block ?_
      refine KC.seq ?_
      refine KC.region ?_
      refine KT.idxI rfl rfl rfl (by assumption) rfl (by simp; omega) Try.underlying33 Try.size3 fun cs27 => ?_
      rw [List.getElem_take]
      refine KT.step rfl rfl (K.load rfl Try.agg3) ?_
      refine KT.step rfl rfl (K.assign rfl) ?_
      refine KT.nil ?_
      refine thenK_n ?_
      refine KC.seq ?_
      refine KC.region ?_
      refine KT.step rfl rfl (K.move rfl) ?_
      refine KT.step rfl rfl (K.move rfl) ?_
      refine KT.step rfl rfl (K.eql rfl rfl) ?_
      refine KT.nil ?_
      refine thenK_n ?_
      refine KC.cond rfl (fun hc31 => ?_) (fun hc31 => ?_)
      · skip
        replace hc31 := of_decide_eq_true hc31
        have gq : c.getD q 0 = c[q] := getD_get (by omega)
        refine KC.seq ?_
        refine KC.region ?_
        refine KT.step rfl rfl (K.assign rfl) ?_
        refine KT.step rfl rfl (K.assign rfl) ?_
        refine KT.nil ?_
        refine thenK_n ?_
        refine KC.ret ?_
        refine blockK_r ?_
        refine thenK_r ?_
        refine thenK_r ?_
        refine blockK_r ?_
        refine thenK_r ?_
        refine blockK_r ?_
        refine thenK_r ?_
        refine thenK_r ?_
        refine blockK_r ?_
        refine thenK_r ?_
        exact ⟨.inl rfl, _, rfl, fin_w (rw_no (fun h => (h k hkl).2.2.1 q (by omega) (by rw [gk, gq]; omega))).symm (cycB_false (fun h => (h.1 k hkl).2.2.1 q (by omega) (by rw [gk, gq]; omega))).symm⟩
      · skip
        replace hc31 := of_decide_eq_false hc31
        have gq : c.getD q 0 = c[q] := getD_get (by omega)
        refine KC.skip ?_
        refine blockK_n ?_
        refine thenK_n ?_
        refine KC.region ?_
        refine KT.step rfl rfl (K.add rfl rfl (wrap_id (by omega))) ?_
        refine KT.step rfl rfl (K.move rfl) ?_
        refine KT.nil ?_
        refine thenK_n ?_
        refine ⟨q + 1, ⟨by omega, fun q2 hq2 => ?_⟩, by omega, rfl, by simp [Go.Vm.look, extK]⟩
        by_cases e : q2 = q
        · subst e; rw [gk, gq]; omega
        · exact hdif q2 (by omega)
    · skip
      replace hc26 := of_decide_eq_false hc26
      refine KC.exit ?_
      refine thenK_x ?_
      refine thenK_x ?_
      refine blockK_e ?_
      refine thenK_n ?_
      refine KC.seq ?_
      refine KC.region ?_
      refine KT.step rfl rfl (K.move rfl) ?_
      refine KT.step rfl rfl (K.lss rfl rfl) ?_
      refine KT.step rfl rfl (K.move rfl) ?_
      refine KT.bcase (fun hb35 => ?_) (fun hb35 => ?_)
      · skip
        replace hb35 := of_decide_eq_true hb35
        refine KT.skip rfl rfl ?_
        refine KT.skip rfl rfl ?_
        refine KT.skip rfl rfl ?_
        refine KT.skip rfl rfl ?_
        refine KT.step rfl rfl (K.pick rfl (fun _ => rfl) (fun h => by cases h)) ?_
        refine KT.nil ?_
        refine thenK_n ?_
        refine KC.cond rfl (fun hc40 => ?_) (fun hc40 => ?_)
        · skip
          refine KC.seq ?_
          refine KC.region ?_
          refine KT.step rfl rfl (K.assign rfl) ?_
          refine KT.step rfl rfl (K.assign rfl) ?_
          refine KT.nil ?_
          refine thenK_n ?_
          refine KC.ret ?_
          refine blockK_r ?_
          refine thenK_r ?_
          refine thenK_r ?_
          refine blockK_r ?_
          refine thenK_r ?_
          exact ⟨.inl rfl, _, rfl, fin_w (rw_no (fun h => by have := (h k hkl).1; unfold inN at this; rw [gk] at this; omega)).symm (cycB_false (fun h => by have := (h.1 k hkl).1; unfold inN at this; rw [gk] at this; omega)).symm⟩
        · cases hc40
      · skip
        replace hb35 := of_decide_eq_false hb35
        refine KT.step rfl rfl (K.move rfl) ?_
        refine KT.step rfl rfl (K.move rfl) ?_
        refine KT.step rfl rfl (K.len rfl hd Try.underlying22) ?_
        rw [genM_len]
        refine KT.step rfl rfl (K.geq rfl rfl) ?_
        refine KT.step rfl rfl (K.pick rfl (fun h => by cases h) (fun _ => rfl)) ?_
        refine KT.nil ?_
        refine thenK_n ?_
        refine KC.cond rfl (fun hc40 => ?_) (fun hc40 => ?_)
        · skip
          replace hc40 := of_decide_eq_true hc40
          refine KC.seq ?_
          refine KC.region ?_
          refine KT.step rfl rfl (K.assign rfl) ?_
          refine KT.step rfl rfl (K.assign rfl) ?_
          refine KT.nil ?_
          refine thenK_n ?_
          refine KC.ret ?_
          refine blockK_r ?_
          refine thenK_r ?_
          refine thenK_r ?_
          refine blockK_r ?_
          refine thenK_r ?_
          exact ⟨.inl rfl, _, rfl, fin_w (rw_no (fun h => by have := (h k hkl).1; unfold inN at this; rw [gk] at this; omega)).symm (cycB_false (fun h => by have := (h.1 k hkl).1; unfold inN at this; rw [gk] at this; omega)).symm⟩
        · skip
          replace hc40 := of_decide_eq_false hc40
          refine KC.skip ?_
          refine blockK_n ?_
          refine thenK_n ?_
          refine KC.region ?_
          refine KT.step rfl rfl (K.add rfl rfl (wrap_id (by omega))) ?_
          refine KT.step rfl rfl (K.move rfl) ?_
          refine KT.nil ?_
          refine thenK_n ?_
          refine ⟨k + 1, ⟨by omega, fun q2 hq2 => ?_⟩, by omega, rfl, by simp [Go.Vm.look, extK]⟩
          by_cases e : q2 = k
          · subst e
            refine ⟨by rw [gk]; exact ⟨by omega, by omega⟩, fun q3 hq3 => hdif q3 (by omega)⟩
          · exact hall q2 (by omega)
  · skip
    replace hc17 := of_decide_eq_false hc17
    refine KC.exit ?_
    refine thenK_x ?_
    refine thenK_x ?_
    refine blockK_e ?_
    refine thenK_n ?_
    refine KC.seq ?_
    refine KC.seq ?_
    refine KC.region ?_
    refine KT.step rfl rfl (K.move rfl) ?_
    refine KT.step rfl rfl (K.len rfl he Try.underlying33) ?_
    refine KT.step rfl rfl (K.move rfl) ?_
    refine KT.nil ?_
    refine thenK_n ?_
    refine KC.block ?_
    have hk12 : c.length ≤ n := dif_le fun q hq => hall q (by omega)
    replace hall : ∀ q, q < c.length → inN n (c.getD q 0) ∧ difK c q := fun q hq => hall q (by omega)
    clear hk hc17
    refine KC.loop (fun _ : Nat => []) (fun k => [(0, .d d), (1, .d e), (6, .d (DI (wtS a c k))), (42, .d e), (43, .d (DI (c.length : Nat))), (44, .d (DI (k : Nat)))]) (fun k => k ≤ c.length ∧ ∀ q, q < k → arcI a c q ≠ Nv) (fun k => c.length - k) 0 ⟨Nat.zero_le _, fun q hq => by omega⟩ rfl (by simp [Go.Vm.look, extK, enterK, wtS]) ?_
    intro k hk
    obtain ⟨hk, harcs⟩ := hk
    refine KC.seq ?_
    refine KC.region ?_
    refine KT.step rfl rfl (K.lss rfl rfl) ?_
    refine KT.nil ?_
    refine thenK_n ?_
    refine KC.seq ?_
    refine KC.cond rfl (fun hc45 => ?_) (fun hc45 => ?_)
    · skip
      replace hc45 := of_decide_eq_true hc45
      have hkl : k < c.length := by omega
      have hmod : (k + 1) % c.length < c.length := Nat.mod_lt _ (by omega)
      have gk : c.getD k 0 = c[k] := getD_get hkl
      have gn : nx c k = c[(k + 1) % c.length] := getD_get hmod
      have hik := (hall k hkl).1
      have hin := (hall _ hmod).1
      have gn2 : c.getD ((k + 1) % c.length) 0 = c[(k + 1) % c.length] := getD_get hmod
      rw [gk] at hik
      rw [gn2] at hin
      unfold inN at hik hin
      obtain ⟨x, hx⟩ := Int.eq_ofNat_of_zero_le hik.1
      obtain ⟨y, hy⟩ := Int.eq_ofNat_of_zero_le hin.1
      rw [hx] at gk hik
      rw [hy] at hin
      have hx2 : (c.getD k 0).toNat = x := by rw [gk]; rfl
      have hy2 : (nx c k).toNat = y := by rw [gn, hy]; rfl
      have harc : arcI a c k = a x y := by unfold arcI; rw [hx2, hy2]
      refine KC.skip ?_
      refine thenK_n ?_
      refine KC.seq ?_
      refine KC.block ?_
      refine KC.seq ?_
      refine KC.region ?_
      refine KT.step rfl rfl (K.move rfl) ?_
      refine KT.idxI rfl rfl rfl (by assumption) rfl (by omega) Try.underlying33 Try.size3 fun cs47 => ?_
      refine KT.step rfl rfl (K.load rfl Try.agg3) ?_
      refine KT.step rfl rfl (K.assign rfl) ?_
      refine KT.step rfl rfl (K.assign rfl) ?_
      refine KT.nil ?_
      refine thenK_n ?_
      refine KC.seq ?_
      refine KC.draw Try.mixed ?_
      simp only [hx]
      refine KT.step rfl rfl (K.move rfl) ?_
      refine KT.step rfl rfl (K.move rfl) ?_
      refine KT.idx rfl rfl rfl (by assumption) rfl (by rw [genM_len]; omega) Try.underlying22 Try.size33 fun c51 cs51 hq51 => ?_
      rw [genM_row] at hq51
      refine KT.step rfl rfl (K.load rfl Try.agg33) ?_
      refine KT.step rfl rfl (K.move rfl) ?_
      refine KT.step rfl rfl (K.move rfl) ?_
      refine KT.step rfl rfl (K.add rfl rfl (show IntKind.i64.wrap ((k : Int) + 1) = ((k + 1 : Nat) : Int) from wrap_id (by omega))) ?_
      refine KT.step rfl rfl (K.move rfl) ?_
      refine KT.step rfl rfl (K.len rfl he Try.underlying33) ?_
      refine KT.step rfl rfl (K.rem rfl rfl (by omega) (show Int.tmod ((k + 1 : Nat) : Int) (c.length : Nat) = (((k + 1) % c.length : Nat) : Int) from by rw [Int.tmod_eq_emod_of_nonneg (by omega)]; rfl)) ?_
      refine KT.idxI rfl rfl rfl (by assumption) rfl (Nat.mod_lt _ (by omega)) Try.underlying33 Try.size3 fun cs59 => ?_
      simp only [hy]
      refine KT.step rfl rfl (K.load rfl Try.agg3) ?_
      refine KT.idxI rfl rfl rfl (by assumption) rfl (by simp; omega) Try.underlying33 Try.size3 fun cs61 => ?_
      rw [get_range]
      refine KT.step rfl rfl (K.load rfl Try.agg3) ?_
      refine KT.step rfl rfl (K.assign rfl) ?_
      refine KT.nil ?_
      refine ⟨by kernel_rfl, ?_⟩
      refine thenK_n ?_
      refine KC.seq ?_
      refine KC.seq ?_
      refine KC.region ?_
      refine KT.step rfl rfl (K.move rfl) ?_
      refine KT.step rfl rfl (K.eql rfl rfl) ?_
      refine KT.nil ?_
      refine thenK_n ?_
      refine KC.cond rfl (fun hc64 => ?_) (fun hc64 => ?_)
      · skip
        replace hc64 := of_decide_eq_true hc64
        refine KC.seq ?_
        refine KC.region ?_
        refine KT.step rfl rfl (K.assign rfl) ?_
        refine KT.step rfl rfl (K.assign rfl) ?_
        refine KT.nil ?_
        refine thenK_n ?_
        refine KC.ret ?_
        refine thenK_r ?_
        refine blockK_r ?_
        refine thenK_r ?_
        refine thenK_r ?_
        refine blockK_r ?_
        refine thenK_r ?_
        exact ⟨.inl rfl, _, rfl, fin_w (rw_no (fun h => (h k hkl).2.2.2 (by rw [harc]; exact hc64))).symm (cycB_false (fun h => (h.1 k hkl).2.2.2 (by rw [harc]; exact hc64))).symm⟩
      · skip
        replace hc64 := of_decide_eq_false hc64
        have harcs' : ∀ q, q < k + 1 → arcI a c q ≠ Nv := fun q hq => by
          by_cases e : q = k
          · subst e; rw [harc]; exact hc64
          · exact harcs q (by omega)
        have hw2 := wtS_bd ha (by omega) (c := c) (k := k + 1) harcs'
        simp only [wtS, harc] at hw2
        refine KC.skip ?_
        refine thenK_n ?_
        refine KC.region ?_
        refine KT.step rfl rfl (K.move rfl) ?_
        refine KT.step rfl rfl (K.move rfl) ?_
        refine KT.step rfl rfl (K.add rfl rfl (wrap_id (by omega))) ?_
        refine KT.step rfl rfl (K.assign rfl) ?_
        refine KT.nil ?_
        refine blockK_n ?_
        refine thenK_n ?_
        refine KC.region ?_
        refine KT.step rfl rfl (K.add rfl rfl (wrap_id (by omega))) ?_
        refine KT.step rfl rfl (K.move rfl) ?_
        refine KT.nil ?_
        refine thenK_n ?_
        refine ⟨k + 1, ⟨by omega, harcs'⟩, by omega, rfl, by simp [Go.Vm.look, extK, wtS, harc]⟩
    · skip
      replace hc45 := of_decide_eq_false hc45
      have hkl : k = c.length := by omega
      subst hkl
      have hcyc : cycP n a c := fun q hq => ⟨(hall q hq).1, (hall _ (Nat.mod_lt _ (by omega))).1, (hall q hq).2, harcs q hq⟩
      refine KC.exit ?_
      refine thenK_x ?_
      refine thenK_x ?_
      refine blockK_e ?_
      refine thenK_n ?_
      refine KC.seq ?_
      refine KC.region ?_
      refine KT.step rfl rfl (K.move rfl) ?_
      refine KT.step rfl rfl (K.move rfl) ?_
      refine KT.step rfl rfl (K.len rfl he Try.underlying33) ?_
      refine KT.step rfl rfl (K.gtr rfl rfl) ?_
      refine KT.step rfl rfl (K.assign rfl) ?_
      refine KT.step rfl rfl (K.assign rfl) ?_
      refine KT.nil ?_
      refine thenK_n ?_
      refine KC.ret ?_
      refine ⟨.inl rfl, _, rfl, fin_w (rw_yes hcyc).symm ?_⟩
      by_cases h0 : 0 < c.length
      · rw [cycB_true hcyc h0]; exact decide_eq_true (by omega)
      · rw [cycB_false (fun h => h0 h.2)]; exact decide_eq_false (by omega)
set_option maxRecDepth 10000 in
theorem holds31 {d e : DV} {n : Nat} {a : Nat → Nat → Int} {v : List Int} {num den : Int} (hd : Mat d (genM n n a)) (he : Ints e v) (hl : v.length ≤ 9223372036854775807) (h1 : 1 ≤ n) (hn : n ≤ 12) (ha : GoodM 1000000 a) : DeepCall Try.prog 31 [d, e, DI num, DI den] (DB (wideB num den && potB n a v num den)) := by
  refine deepCall_K 5 Try.func31 rfl (Nat.le_of_ble_eq_true rfl) fun M W0 => ?_
  refine KC.seq ?_
  refine KC.region ?_
  refine KT.step rfl rfl (K.assign rfl) ?_
  refine KT.nil ?_
  refine thenK_n ?_
  refine KC.seq ?_
  refine KC.seq ?_
  refine KC.region ?_
  refine KT.step rfl rfl (K.move rfl) ?_
  refine KT.step rfl rfl (K.len rfl he Try.underlying33) ?_
  refine KT.step rfl rfl (K.move rfl) ?_
  refine KT.step rfl rfl (K.len rfl hd Try.underlying22) ?_
  rw [genM_len]
  refine KT.step rfl rfl (K.neq rfl rfl) ?_
  refine KT.step rfl rfl (K.move rfl) ?_
  refine KT.bcase (fun hb20 => ?_) (fun hb20 => ?_)
  · skip
    replace hb20 := of_decide_eq_true hb20
    refine KT.skip rfl rfl ?_
    refine KT.skip rfl rfl ?_
    refine KT.skip rfl rfl ?_
    refine KT.step rfl rfl (K.pick rfl (fun _ => rfl) (fun h => by cases h)) ?_
    refine KT.step rfl rfl (K.move rfl) ?_
    refine KT.skip rfl rfl ?_
    refine KT.skip rfl rfl ?_
    refine KT.step rfl rfl (K.pick rfl (fun _ => rfl) (fun h => by cases h)) ?_
    refine KT.step rfl rfl (K.move rfl) ?_
    refine KT.skip rfl rfl ?_
    refine KT.skip rfl rfl ?_
    refine KT.step rfl rfl (K.pick rfl (fun _ => rfl) (fun h => by cases h)) ?_
    refine KT.nil ?_
    refine thenK_n ?_
    refine KC.cond rfl (fun hc32 => ?_) (fun hc32 => ?_)
    · skip
      refine KC.seq ?_
      refine KC.region ?_
      refine KT.step rfl rfl (K.assign rfl) ?_
      refine KT.nil ?_
      refine thenK_n ?_
      refine KC.ret ?_
      refine thenK_r ?_
      exact ⟨.inl rfl, _, rfl, fin_b (by rw [potB_false (fun h => by have := h.1; omega), Bool.and_false])⟩
    · cases hc32
  · skip
    replace hb20 := of_decide_eq_false hb20
    refine KT.step rfl rfl (K.move rfl) ?_
    refine KT.step rfl rfl (K.call1 rfl plainTry_61 (rwithin61 _)) ?_
    refine KT.step rfl rfl (K.not rfl) ?_
    refine KT.step rfl rfl (K.pick rfl (fun h => by cases h) (fun _ => rfl)) ?_
    refine KT.step rfl rfl (K.move rfl) ?_
    refine KT.bcase (fun hb25 => ?_) (fun hb25 => ?_)
    · skip
      rw [Bool.not_eq_true'] at hb25
      refine KT.skip rfl rfl ?_
      refine KT.skip rfl rfl ?_
      refine KT.step rfl rfl (K.pick rfl (fun _ => rfl) (fun h => by cases h)) ?_
      refine KT.step rfl rfl (K.move rfl) ?_
      refine KT.skip rfl rfl ?_
      refine KT.skip rfl rfl ?_
      refine KT.step rfl rfl (K.pick rfl (fun _ => rfl) (fun h => by cases h)) ?_
      refine KT.nil ?_
      refine thenK_n ?_
      refine KC.cond rfl (fun hc32 => ?_) (fun hc32 => ?_)
      · skip
        refine KC.seq ?_
        refine KC.region ?_
        refine KT.step rfl rfl (K.assign rfl) ?_
        refine KT.nil ?_
        refine thenK_n ?_
        refine KC.ret ?_
        refine thenK_r ?_
        exact ⟨.inl rfl, _, rfl, fin_b (by rw [show wideB num den = false from Bool.eq_false_iff.2 fun h => by rw [wideB_iff] at h; exact (by unfold inF at h; rw [decide_eq_true h.1.1, decide_eq_true h.1.2] at hb25; cases hb25)]; rfl)⟩
      · cases hc32
    · skip
      rw [Bool.not_eq_false'] at hb25
      replace hb25 := Bool.and_eq_true_iff.1 hb25
      replace hb25 := And.intro (of_decide_eq_true hb25.1) (of_decide_eq_true hb25.2)
      refine KT.step rfl rfl (K.move rfl) ?_
      refine KT.step rfl rfl (K.lss rfl rfl) ?_
      refine KT.step rfl rfl (K.pick rfl (fun h => by cases h) (fun _ => rfl)) ?_
      refine KT.step rfl rfl (K.move rfl) ?_
      refine KT.bcase (fun hb29 => ?_) (fun hb29 => ?_)
      · skip
        replace hb29 := of_decide_eq_true hb29
        refine KT.skip rfl rfl ?_
        refine KT.skip rfl rfl ?_
        refine KT.step rfl rfl (K.pick rfl (fun _ => rfl) (fun h => by cases h)) ?_
        refine KT.nil ?_
        refine thenK_n ?_
        refine KC.cond rfl (fun hc32 => ?_) (fun hc32 => ?_)
        · skip
          refine KC.seq ?_
          refine KC.region ?_
          refine KT.step rfl rfl (K.assign rfl) ?_
          refine KT.nil ?_
          refine thenK_n ?_
          refine KC.ret ?_
          refine thenK_r ?_
          exact ⟨.inl rfl, _, rfl, fin_b (by rw [show wideB num den = false from Bool.eq_false_iff.2 fun h => by rw [wideB_iff] at h; exact (by omega)]; rfl)⟩
        · cases hc32
      · skip
        replace hb29 := of_decide_eq_false hb29
        refine KT.step rfl rfl (K.move rfl) ?_
        refine KT.step rfl rfl (K.gtr rfl rfl) ?_
        refine KT.step rfl rfl (K.pick rfl (fun h => by cases h) (fun _ => rfl)) ?_
        refine KT.nil ?_
        refine thenK_n ?_
        refine KC.cond rfl (fun hc32 => ?_) (fun hc32 => ?_)
        · skip
          replace hc32 := of_decide_eq_true hc32
          refine KC.seq ?_
          refine KC.region ?_
          refine KT.step rfl rfl (K.assign rfl) ?_
          refine KT.nil ?_
          refine thenK_n ?_
          refine KC.ret ?_
          refine thenK_r ?_
          exact ⟨.inl rfl, _, rfl, fin_b (by rw [show wideB num den = false from Bool.eq_false_iff.2 fun h => by rw [wideB_iff] at h; exact (by unfold F40 at h; omega)]; rfl)⟩
        · skip
          replace hc32 := of_decide_eq_false hc32
          have hwd : wideB num den = true := wideB_iff.2 ⟨hb25, by omega, by unfold F40; omega⟩
          have hnum := hb25
          unfold F40 at hnum
          have hden : 1 ≤ den ∧ den ≤ 1099511627776 := by omega
          refine KC.skip ?_
          refine thenK_n ?_
          refine KC.seq ?_
          refine KC.seq ?_
          refine KC.region ?_
          refine KT.step rfl rfl (K.move rfl) ?_
          refine KT.step rfl rfl (K.len rfl he Try.underlying33) ?_
          refine KT.step rfl rfl (K.move rfl) ?_
          refine KT.nil ?_
          refine thenK_n ?_
          refine KC.block ?_
          refine KC.loop (fun _ : Nat => []) (fun k => [(0, .d d), (1, .d e), (2, .d (DI num)), (3, .d (DI den)), (33, .d e), (34, .d (DI (v.length : Nat))), (35, .d (DI (k : Nat)))]) (fun k => k ≤ v.length ∧ ∀ x ∈ v.take k, inF x) (fun k => v.length - k) 0 ⟨Nat.zero_le _, fun x hx => by simp at hx⟩ rfl (by simp [Go.Vm.look, extK, enterK]) ?_
          intro k hk
          obtain ⟨hk, hall⟩ := hk
          refine KC.seq ?_
          refine KC.region ?_
          refine KT.step rfl rfl (K.lss rfl rfl) ?_
          refine KT.nil ?_
          refine thenK_n ?_
          refine KC.seq ?_
          refine KC.cond rfl (fun hc36 => ?_) (fun hc36 => ?_)
          · skip
            replace hc36 := of_decide_eq_true hc36
            refine KC.skip ?_
            refine thenK_n ?_
            refine KC.seq ?_
            refine KC.block ?_
            refine KC.seq ?_
            refine KC.region ?_
            refine KT.idxI rfl rfl rfl (by assumption) rfl (by omega) Try.underlying33 Try.size3 fun cs37 => ?_
            refine KT.step rfl rfl (K.load rfl Try.agg3) ?_
            refine KT.step rfl rfl (K.assign rfl) ?_
            refine KT.nil ?_
            refine thenK_n ?_
            refine KC.seq ?_
            refine KC.region ?_
            refine KT.step rfl rfl (K.move rfl) ?_
            refine KT.step rfl rfl (K.call1 rfl plainTry_61 (rwithin61 _)) ?_
            refine KT.step rfl rfl (K.not rfl) ?_
            refine KT.nil ?_
            refine thenK_n ?_
            refine KC.cond rfl (fun hc41 => ?_) (fun hc41 => ?_)
            · skip
              rw [Bool.not_eq_true'] at hc41
              refine KC.seq ?_
              refine KC.region ?_
              refine KT.step rfl rfl (K.assign rfl) ?_
              refine KT.nil ?_
              refine thenK_n ?_
              refine KC.ret ?_
              refine blockK_r ?_
              refine thenK_r ?_
              refine thenK_r ?_
              refine blockK_r ?_
              refine thenK_r ?_
              exact ⟨.inl rfl, _, rfl, fin_b (by rw [potB_false (fun h => by have := h.2.1 v[k] (List.getElem_mem (by omega)); unfold inF at this; rw [decide_eq_true this.1, decide_eq_true this.2] at hc41; cases hc41), Bool.and_false])⟩
            · skip
              rw [Bool.not_eq_false'] at hc41
              replace hc41 := Bool.and_eq_true_iff.1 hc41
              replace hc41 := And.intro (of_decide_eq_true hc41.1) (of_decide_eq_true hc41.2)
              have hin : inF v[k] := hc41
              refine KC.skip ?_
              refine blockK_n ?_
              refine thenK_n ?_
              refine KC.region ?_
              refine KT.step rfl rfl (K.add rfl rfl (wrap_id (by omega))) ?_
              refine KT.step rfl rfl (K.move rfl) ?_
              refine KT.nil ?_
              refine thenK_n ?_
              refine ⟨k + 1, ⟨by omega, inF_all_take (by omega) hall hin⟩, by omega, rfl, by simp [Go.Vm.look, extK]⟩
          · skip
            replace hc36 := of_decide_eq_false hc36
            refine KC.exit ?_
            refine thenK_x ?_
            refine thenK_x ?_
            refine blockK_e ?_
            refine thenK_n ?_
            refine KC.seq ?_
            refine KC.seq ?_
            refine KC.region ?_
            refine KT.step rfl rfl (K.move rfl) ?_
            refine KT.step rfl rfl (K.len rfl hd Try.underlying22) ?_
            rw [genM_len]
            refine KT.step rfl rfl (K.move rfl) ?_
            refine KT.nil ?_
            refine thenK_n ?_
            refine KC.block ?_
            have hvall : ∀ x ∈ v, inF x := by have := hall; rwa [List.take_of_length_le (by omega)] at this
            clear hall
            refine KC.loop (fun _ : Nat => []) (fun i => [(0, .d d), (1, .d e), (2, .d (DI num)), (3, .d (DI den)), (43, .d d), (44, .d (DI (n : Nat))), (45, .d (DI (i : Nat)))]) (fun i => i ≤ n ∧ ∀ i2, i2 < i → ∀ j2, j2 < n → a i2 j2 ≠ Nv → den * a i2 j2 + v.getD j2 0 ≤ num + v.getD i2 0) (fun i => n - i) 0 ⟨Nat.zero_le _, fun i2 h => by omega⟩ rfl (by simp [Go.Vm.look, extK, enterK]) ?_
            intro i hi
            obtain ⟨hi, hall⟩ := hi
            refine KC.seq ?_
            refine KC.region ?_
            refine KT.step rfl rfl (K.lss rfl rfl) ?_
            refine KT.nil ?_
            refine thenK_n ?_
            refine KC.seq ?_
            refine KC.cond rfl (fun hc46 => ?_) (fun hc46 => ?_)
            · skip
              replace hc46 := of_decide_eq_true hc46
              refine KC.skip ?_
              refine thenK_n ?_
              refine KC.seq ?_
              refine KC.block ?_
              refine KC.seq ?_
              refine KC.region ?_
              refine KT.step rfl rfl (K.move rfl) ?_
              refine KT.idx rfl rfl rfl (by assumption) rfl (by rw [genM_len]; omega) Try.underlying22 Try.size33 fun c48 cs48 hq48 => ?_
              rw [genM_row] at hq48
              refine KT.step rfl rfl (K.load rfl Try.agg33) ?_
              refine KT.step rfl rfl (K.assign rfl) ?_
              refine KT.step rfl rfl (K.assign rfl) ?_
              refine KT.nil ?_
              refine thenK_n ?_
              refine KC.seq ?_
              refine KC.region ?_
              refine KT.step rfl rfl (K.move rfl) ?_
              refine KT.step rfl rfl (K.len rfl hq48 Try.underlying33) ?_
              rw [show ((List.range n).map (a i)).length = n by simp]
              refine KT.step rfl rfl (K.move rfl) ?_
              refine KT.nil ?_
              refine thenK_n ?_
              refine KC.block ?_
              refine KC.loop (fun _ : Nat => []) (fun j => [(0, .d d), (1, .d e), (2, .d (DI num)), (3, .d (DI den)), (43, .d d), (44, .d (DI (n : Nat))), (45, .d (DI (i : Nat))), (11, .d (DI (i : Nat))), (50, .d c48), (51, .d (DI (n : Nat))), (52, .d (DI (j : Nat)))]) (fun j => j ≤ n ∧ ∀ j2, j2 < j → a i j2 ≠ Nv → den * a i j2 + v.getD j2 0 ≤ num + v.getD i 0) (fun j => n - j) 0 ⟨Nat.zero_le _, fun j2 h => by omega⟩ rfl (by simp [Go.Vm.look, extK, enterK]) ?_
              intro j hj
              obtain ⟨hj, hall2⟩ := hj
              refine KC.seq ?_
              refine KC.region ?_
              refine KT.step rfl rfl (K.lss rfl rfl) ?_
              refine KT.nil ?_
              refine thenK_n ?_
              refine KC.seq ?_
              refine KC.cond rfl (fun hc53 => ?_) (fun hc53 => ?_)
              · skip
                replace hc53 := of_decide_eq_true hc53
                refine KC.skip ?_
                refine thenK_n ?_
                refine KC.seq ?_
                refine KC.block ?_
                refine KC.seq ?_
                refine KC.region ?_
                refine KT.step rfl rfl (K.move rfl) ?_
                refine KT.idxI rfl rfl rfl (by assumption) rfl (by simp; omega) Try.underlying33 Try.size3 fun cs55 => ?_
                rw [get_range]
                refine KT.step rfl rfl (K.load rfl Try.agg3) ?_
                refine KT.step rfl rfl (K.assign rfl) ?_
                refine KT.step rfl rfl (K.assign rfl) ?_
                refine KT.nil ?_
                refine thenK_n ?_
                refine KC.seq ?_
                refine KC.draw Try.mixed ?_
                refine KT.step rfl rfl (K.move rfl) ?_
                refine KT.step rfl rfl (K.neq rfl rfl) ?_
                refine KT.step rfl rfl (K.move rfl) ?_
                refine KT.bcase (fun hb59 => ?_) (fun hb59 => ?_)
                · skip
                  replace hb59 := of_decide_eq_true hb59
                  have hg := (ha i j).resolve_left hb59
                  have gi : v.getD i 0 = v[i] := getD_get (by omega)
                  have gj : v.getD j 0 = v[j] := getD_get (by omega)
                  have hvi := inF_get hvall i
                  have hvj := inF_get hvall j
                  rw [gi] at hvi
                  rw [gj] at hvj
                  unfold inF F40 at hvi hvj
                  have hm := mul_bd (a := 1099511627776) (b := 1000000) (x := den) (y := a i j) (by omega) (by omega) (by omega) (by omega)
                  refine KT.step rfl rfl (K.move rfl) ?_
                  refine KT.step rfl rfl (K.move rfl) ?_
                  refine KT.step rfl rfl (K.mul rfl rfl (wrap_id (by omega))) ?_
                  refine KT.step rfl rfl (K.move rfl) ?_
                  refine KT.step rfl rfl (K.move rfl) ?_
                  refine KT.idxI rfl rfl rfl (by assumption) rfl (by omega) Try.underlying33 Try.size3 fun cs65 => ?_
                  refine KT.step rfl rfl (K.load rfl Try.agg3) ?_
                  refine KT.step rfl rfl (K.add rfl rfl (wrap_id (by omega))) ?_
                  refine KT.step rfl rfl (K.move rfl) ?_
                  refine KT.step rfl rfl (K.move rfl) ?_
                  refine KT.step rfl rfl (K.move rfl) ?_
                  refine KT.idxI rfl rfl rfl (by assumption) rfl (by omega) Try.underlying33 Try.size3 fun cs71 => ?_
                  refine KT.step rfl rfl (K.load rfl Try.agg3) ?_
                  refine KT.step rfl rfl (K.add rfl rfl (wrap_id (by omega))) ?_
                  refine KT.step rfl rfl (K.gtr rfl rfl) ?_
                  refine KT.step rfl rfl (K.pick rfl (fun _ => rfl) (fun h => by cases h)) ?_
                  refine KT.nil ?_
                  refine ⟨by kernel_rfl, ?_⟩
                  refine thenK_n ?_
                  refine KC.cond rfl (fun hc75 => ?_) (fun hc75 => ?_)
                  · skip
                    replace hc75 := of_decide_eq_true hc75
                    refine KC.seq ?_
                    refine KC.region ?_
                    refine KT.step rfl rfl (K.assign rfl) ?_
                    refine KT.nil ?_
                    refine thenK_n ?_
                    refine KC.ret ?_
                    refine blockK_r ?_
                    refine thenK_r ?_
                    refine thenK_r ?_
                    refine blockK_r ?_
                    refine blockK_r ?_
                    refine thenK_r ?_
                    refine thenK_r ?_
                    refine blockK_r ?_
                    refine thenK_r ?_
                    exact ⟨.inl rfl, _, rfl, fin_b (by rw [potB_false (fun h => by have := h.2.2 i (by omega) j (by omega) hb59; rw [gi, gj] at this; omega), Bool.and_false])⟩
                  · skip
                    replace hc75 := of_decide_eq_false hc75
                    refine KC.skip ?_
                    refine blockK_n ?_
                    refine thenK_n ?_
                    refine KC.region ?_
                    refine KT.step rfl rfl (K.add rfl rfl (wrap_id (by omega))) ?_
                    refine KT.step rfl rfl (K.move rfl) ?_
                    refine KT.nil ?_
                    refine thenK_n ?_
                    refine ⟨j + 1, ⟨by omega, fun j2 hj2 hne => ?_⟩, by omega, rfl, by simp [Go.Vm.look, extK]⟩
                    by_cases e : j2 = j
                    · subst e
                      have := hc75
                      rw [gi, gj]; omega
                    · exact hall2 j2 (by omega) hne
                · skip
                  replace hb59 := of_decide_eq_false hb59
                  refine KT.skip rfl rfl ?_
                  refine KT.skip rfl rfl ?_
                  refine KT.skip rfl rfl ?_
                  refine KT.skip rfl rfl ?_
                  refine KT.skip rfl rfl ?_
                  refine KT.skip rfl rfl ?_
                  refine KT.skip rfl rfl ?_
                  refine KT.skip rfl rfl ?_
                  refine KT.skip rfl rfl ?_
                  refine KT.skip rfl rfl ?_
                  refine KT.skip rfl rfl ?_
                  refine KT.skip rfl rfl ?_
                  refine KT.skip rfl rfl ?_
                  refine KT.skip rfl rfl ?_
                  refine KT.skip rfl rfl ?_
                  refine KT.step rfl rfl (K.pick rfl (fun h => by cases h) (fun _ => rfl)) ?_
                  refine KT.nil ?_
                  refine ⟨by kernel_rfl, ?_⟩
                  refine thenK_n ?_
                  refine KC.cond rfl (fun hc75 => ?_) (fun hc75 => ?_)
                  · cases hc75
                  · skip
                    refine KC.skip ?_
                    refine blockK_n ?_
                    refine thenK_n ?_
                    refine KC.region ?_
                    refine KT.step rfl rfl (K.add rfl rfl (wrap_id (by omega))) ?_
                    refine KT.step rfl rfl (K.move rfl) ?_
                    refine KT.nil ?_
                    refine thenK_n ?_
                    refine ⟨j + 1, ⟨by omega, fun j2 hj2 hne => ?_⟩, by omega, rfl, by simp [Go.Vm.look, extK]⟩
                    by_cases e : j2 = j
                    · subst e
                      exact absurd (Classical.not_not.1 hb59) hne
                    · exact hall2 j2 (by omega) hne
              · skip
                replace hc53 := of_decide_eq_false hc53
                refine KC.exit ?_
                refine thenK_x ?_
                refine thenK_x ?_
                refine blockK_e ?_
                refine blockK_n ?_
                refine thenK_n ?_
                refine KC.region ?_
                refine KT.step rfl rfl (K.add rfl rfl (wrap_id (by omega))) ?_
                refine KT.step rfl rfl (K.move rfl) ?_
                refine KT.nil ?_
                refine thenK_n ?_
                refine ⟨i + 1, ⟨by omega, fun i2 hi2 j2 hj2 => ?_⟩, by omega, rfl, by simp [Go.Vm.look, extK]⟩
                by_cases e : i2 = i
                · subst e; exact hall2 j2 (by omega)
                · exact hall i2 (by omega) j2 hj2
            · skip
              replace hc46 := of_decide_eq_false hc46
              refine KC.exit ?_
              refine thenK_x ?_
              refine thenK_x ?_
              refine blockK_e ?_
              refine thenK_n ?_
              refine KC.seq ?_
              refine KC.region ?_
              refine KT.step rfl rfl (K.assign rfl) ?_
              refine KT.nil ?_
              refine thenK_n ?_
              refine KC.ret ?_
              exact ⟨.inl rfl, _, rfl, fin_b (by rw [hwd, potB_true ⟨by omega, hvall, fun i2 hi2 j2 hj2 => hall i2 (by omega) j2 hj2⟩]; rfl)⟩

noncomputable def checkB (m : List (List Int)) (c v : List Int) (num den : Int) : Bool := validB 1000 m && ((wideB num den && meanB m.length (mf m) c num den) && potB m.length (mf m) v num den)
theorem build59 (a b : Int) : pureRun Try.prog (Instr.build 59 #[(0, .int .i64 a), (1, .int .i64 b)]) = some (.agg #[.int .i64 a, .int .i64 b]) := by kernel_rfl
def errV (m : List (List Int)) : Int := if validB 1000 m then 0 else 2
theorem fin_ck {σ : List VObj} {k : Nat} {x y : Int} {b b' : Bool} (h : b = b') (h2 : x = y) : deepen σ (k + 3) (.tup [.d (DB b), .d (DI x)]) = some (.tup [DB b', DI y]) := by rw [h, h2]; rfl
set_option maxRecDepth 10000 in
theorem check32 {d e f : DV} {m : List (List Int)} {c v : List Int} {num den : Int} (hd : Mat d m) (hl : m.length ≤ 9223372036854775807) (hr : ∀ r ∈ m, r.length ≤ 9223372036854775807) (he : Ints e c) (hlc : c.length ≤ 9223372036854775807) (hf : Ints f v) (hlv : v.length ≤ 9223372036854775807) : DeepCall Try.prog 32 [d, e, f, DI num, DI den] (.tup [DB (checkB m c v num den), DI (errV m)]) := by
  refine deepCall_K 5 Try.func32 rfl (Nat.le_of_ble_eq_true rfl) fun M W0 => ?_
  refine KC.seq ?_
  refine KC.region ?_
  refine KT.step rfl rfl (K.assign rfl) ?_
  refine KT.step rfl rfl (K.assign rfl) ?_
  refine KT.nil ?_
  refine thenK_n ?_
  refine KC.seq ?_
  refine KC.seq ?_
  refine KC.region ?_
  refine KT.step rfl rfl (K.move rfl) ?_
  refine KT.step rfl rfl (K.call2 rfl rfl plainTry_47 (valid47 hd hl hr (L := 1000) (by omega))) ?_
  refine KT.step rfl rfl (K.not rfl) ?_
  refine KT.nil ?_
  refine thenK_n ?_
  refine KC.cond rfl (fun hc15 => ?_) (fun hc15 => ?_)
  · skip
    refine KC.seq ?_
    refine KC.region ?_
    refine KT.step rfl rfl (K.assign rfl) ?_
    refine KT.step rfl rfl (K.assign rfl) ?_
    refine KT.nil ?_
    refine thenK_n ?_
    refine KC.ret ?_
    refine thenK_r ?_
    have hno : validB 1000 m = false := by rw [Bool.not_eq_true'] at hc15; exact hc15
    exact ⟨.inl rfl, _, rfl, fin_ck (by unfold checkB; rw [hno]; rfl) (by unfold errV; rw [hno]; rfl)⟩
  · skip
    rw [Bool.not_eq_false'] at hc15
    obtain ⟨p1, p2, p3, p4, p5⟩ := valid_of hc15
    have hd' : Mat d (genM m.length m.length (mf m)) := p3 ▸ hd
    have p4' : GoodM 1000000 (mf m) := fun i j => (p4 i j).mono (by omega)
    refine KC.skip ?_
    refine thenK_n ?_
    refine KC.seq ?_
    refine KC.region ?_
    refine KT.step rfl rfl (K.move rfl) ?_
    refine KT.step rfl rfl (K.move rfl) ?_
    refine KT.step rfl rfl (K.buildL rfl (build59 num den)) ?_
    refine KT.step rfl rfl (K.alloc Try.zero59) ?_
    refine KT.step rfl rfl (K.storeN rfl rfl rfl (by simp [cellsX, Value.cells]) rfl Try.size59) ?_
    refine KT.nil ?_
    refine thenK_n ?_
    refine KC.seq ?_
    refine KC.region ?_
    refine KT.step rfl rfl (K.loadOA ([DI num, DI den]) rfl rfl (by decide) Try.agg59 Try.size59 rfl) ?_
    refine KT.step rfl rfl (K.call1 rfl plainTry_62 (wide62)) ?_
    refine KT.step rfl rfl (K.move rfl) ?_
    refine KT.bcase (fun hb21 => ?_) (fun hb21 => ?_)
    · skip
      have hw := wideB_iff.1 hb21
      have hden : 1 ≤ den ∧ den ≤ F40 := hw.2
      refine KT.step rfl rfl (K.move rfl) ?_
      refine KT.step rfl rfl (K.move rfl) ?_
      refine KT.step rfl rfl (K.loadOA ([DI num, DI den]) rfl rfl (by decide) Try.agg59 Try.size59 rfl) ?_
      refine KT.step rfl rfl (K.call3 rfl rfl rfl plainTry_63 (isMean63 hd' he hlc p1 (by omega) p4 hw.1 hden)) ?_
      refine KT.step rfl rfl (K.pick rfl (fun _ => rfl) (fun h => by cases h)) ?_
      refine KT.step rfl rfl (K.move rfl) ?_
      refine KT.bcase (fun hb27 => ?_) (fun hb27 => ?_)
      · skip
        refine KT.step rfl rfl (K.move rfl) ?_
        refine KT.step rfl rfl (K.move rfl) ?_
        refine KT.step rfl rfl (K.loadOA ([DI num, DI den]) rfl rfl (by decide) Try.agg59 Try.size59 rfl) ?_
        refine KT.step rfl rfl (K.call3 rfl rfl rfl plainTry_64 (isPot64 hd' hf hlv p1 (by omega) p4' hw.1 hden)) ?_
        refine KT.step rfl rfl (K.pick rfl (fun _ => rfl) (fun h => by cases h)) ?_
        refine KT.step rfl rfl (K.assign rfl) ?_
        refine KT.step rfl rfl (K.assign rfl) ?_
        refine KT.nil ?_
        refine thenK_n ?_
        refine KC.ret ?_
        exact ⟨.inl rfl, _, rfl, fin_ck (by unfold checkB; rw [hc15]; simp only [Bool.true_and]; rw [hb21, Bool.true_and, hb27, Bool.true_and]) (by unfold errV; rw [hc15]; rfl)⟩
      · skip
        refine KT.skip rfl rfl ?_
        refine KT.skip rfl rfl ?_
        refine KT.skip rfl rfl ?_
        refine KT.skip rfl rfl ?_
        refine KT.step rfl rfl (K.pick rfl (fun h => by cases h) (fun _ => rfl)) ?_
        refine KT.step rfl rfl (K.assign rfl) ?_
        refine KT.step rfl rfl (K.assign rfl) ?_
        refine KT.nil ?_
        refine thenK_n ?_
        refine KC.ret ?_
        exact ⟨.inl rfl, _, rfl, fin_ck (by unfold checkB; rw [hc15]; simp only [Bool.true_and]; rw [hb21, Bool.true_and, hb27, Bool.false_and]) (by unfold errV; rw [hc15]; rfl)⟩
    · skip
      refine KT.skip rfl rfl ?_
      refine KT.skip rfl rfl ?_
      refine KT.skip rfl rfl ?_
      refine KT.skip rfl rfl ?_
      refine KT.step rfl rfl (K.pick rfl (fun h => by cases h) (fun _ => rfl)) ?_
      refine KT.step rfl rfl (K.move rfl) ?_
      refine KT.skip rfl rfl ?_
      refine KT.skip rfl rfl ?_
      refine KT.skip rfl rfl ?_
      refine KT.skip rfl rfl ?_
      refine KT.step rfl rfl (K.pick rfl (fun h => by cases h) (fun _ => rfl)) ?_
      refine KT.step rfl rfl (K.assign rfl) ?_
      refine KT.step rfl rfl (K.assign rfl) ?_
      refine KT.nil ?_
      refine thenK_n ?_
      refine KC.ret ?_
      exact ⟨.inl rfl, _, rfl, fin_ck (by unfold checkB; rw [hc15]; simp only [Bool.true_and]; rw [hb21]; rfl) (by unfold errV; rw [hc15]; rfl)⟩
set_option maxRecDepth 10000 in
theorem rcheck33 {d e f : DV} {m : List (List Int)} {c v : List Int} {num den : Int} (hd : Mat d m) (hl : m.length ≤ 9223372036854775807) (hr : ∀ r ∈ m, r.length ≤ 9223372036854775807) (he : Ints e c) (hlc : c.length ≤ 9223372036854775807) (hf : Ints f v) (hlv : v.length ≤ 9223372036854775807) : DeepCall Try.prog 33 [d, e, f, DI num, DI den] (.tup [DB (checkB m c v num den), DI (errV m)]) := by
  refine deepCall_K 5 Try.func33 rfl (Nat.le_of_ble_eq_true rfl) fun M W0 => ?_
  refine KC.seq ?_
  refine KC.region ?_
  refine KT.step rfl rfl (K.assign rfl) ?_
  refine KT.step rfl rfl (K.assign rfl) ?_
  refine KT.nil ?_
  refine thenK_n ?_
  refine KC.seq ?_
  refine KC.seq ?_
  refine KC.region ?_
  refine KT.step rfl rfl (K.move rfl) ?_
  refine KT.step rfl rfl (K.call1 rfl plainTry_38 (small38 hd hl hr)) ?_
  refine KT.step rfl rfl (K.not rfl) ?_
  refine KT.nil ?_
  refine thenK_n ?_
  refine KC.cond rfl (fun hc16 => ?_) (fun hc16 => ?_)
  · skip
    refine KC.seq ?_
    refine KC.region ?_
    refine KT.step rfl rfl (K.assign rfl) ?_
    refine KT.step rfl rfl (K.assign rfl) ?_
    refine KT.nil ?_
    refine thenK_n ?_
    refine KC.ret ?_
    refine thenK_r ?_
    have hno : validB 1000 m = false := by rw [Bool.not_eq_true'] at hc16; exact hc16
    exact ⟨.inl rfl, _, rfl, fin_ck (by unfold checkB; rw [hno]; rfl) (by unfold errV; rw [hno]; rfl)⟩
  · skip
    rw [Bool.not_eq_false'] at hc16
    obtain ⟨p1, p2, p3, p4, p5⟩ := valid_of hc16
    have hd' : Mat d (genM m.length m.length (mf m)) := p3 ▸ hd
    have p4' : GoodM 1000000 (mf m) := fun i j => (p4 i j).mono (by omega)
    refine KC.skip ?_
    refine thenK_n ?_
    refine KC.seq ?_
    refine KC.region ?_
    refine KT.step rfl rfl (K.move rfl) ?_
    refine KT.step rfl rfl (K.move rfl) ?_
    refine KT.step rfl rfl (K.call2 rfl rfl plainTry_65 (weight65 hd' he hlc p1 (by omega) p4')) ?_
    refine KT.step rfl rfl (K.move rfl) ?_
    refine KT.step rfl rfl (K.extract rfl rfl) ?_
    refine KT.step rfl rfl (K.extract rfl rfl) ?_
    refine KT.step rfl rfl (K.assign rfl) ?_
    refine KT.step rfl rfl (K.assign rfl) ?_
    refine KT.nil ?_
    refine thenK_n ?_
    refine KC.seq ?_
    refine KC.region ?_
    refine KT.step rfl rfl (K.move rfl) ?_
    refine KT.step rfl rfl (K.move rfl) ?_
    refine KT.bcase (fun hb24 => ?_) (fun hb24 => ?_)
    · skip
      refine KT.step rfl rfl (K.move rfl) ?_
      refine KT.step rfl rfl (K.move rfl) ?_
      refine KT.step rfl rfl (K.move rfl) ?_
      refine KT.step rfl rfl (K.move rfl) ?_
      refine KT.step rfl rfl (K.call4 rfl rfl rfl rfl plainTry_31 (holds31 hd' hf hlv p1 (by omega) p4')) ?_
      refine KT.step rfl rfl (K.pick rfl (fun _ => rfl) (fun h => by cases h)) ?_
      refine KT.step rfl rfl (K.move rfl) ?_
      refine KT.bcase (fun hb31 => ?_) (fun hb31 => ?_)
      · skip
        have hb31' := Bool.and_eq_true_iff.1 hb31
        have hw := wideB_iff.1 hb31'.1
        have hcy := (cycB_iff.1 hb24)
        have hrw := rw_yes hcy.1
        have hk12 : c.length ≤ m.length := dif_le fun q hq => ⟨(hcy.1 q hq).1, (hcy.1 q hq).2.2.1⟩
        have hw1 := wtS_bd p4 (by omega) (c := c) (k := c.length) fun q hq => (hcy.1 q hq).2.2.2
        unfold inF F40 at hw
        have hm1 := mul_bd (a := 6000) (b := 1099511627776) (x := wtS (mf m) c c.length) (y := den) (by omega) (by omega) (by omega) (by omega)
        have hm2 := mul_bd (a := 1099511627776) (b := 6) (x := num) (y := (c.length : Nat)) (by omega) (by omega) (by omega) (by omega)
        rw [hrw]
        refine KT.step rfl rfl (K.move rfl) ?_
        refine KT.step rfl rfl (K.move rfl) ?_
        refine KT.step rfl rfl (K.mul rfl rfl (wrap_id (by omega))) ?_
        refine KT.step rfl rfl (K.move rfl) ?_
        refine KT.step rfl rfl (K.move rfl) ?_
        refine KT.step rfl rfl (K.len rfl he Try.underlying33) ?_
        refine KT.step rfl rfl (K.mul rfl rfl (wrap_id (by omega))) ?_
        refine KT.step rfl rfl (K.eql rfl rfl) ?_
        refine KT.step rfl rfl (K.pick rfl (fun _ => rfl) (fun h => by cases h)) ?_
        refine KT.step rfl rfl (K.assign rfl) ?_
        refine KT.step rfl rfl (K.assign rfl) ?_
        refine KT.nil ?_
        refine thenK_n ?_
        refine KC.ret ?_
        exact ⟨.inl rfl, _, rfl, fin_ck (by unfold checkB; rw [hc16]; simp only [Bool.true_and]; unfold meanB; rw [hb24, hb31'.1, hb31'.2]; simp only [Bool.true_and, Bool.and_true]) (by unfold errV; rw [hc16]; rfl)⟩
      · skip
        refine KT.skip rfl rfl ?_
        refine KT.skip rfl rfl ?_
        refine KT.skip rfl rfl ?_
        refine KT.skip rfl rfl ?_
        refine KT.skip rfl rfl ?_
        refine KT.skip rfl rfl ?_
        refine KT.skip rfl rfl ?_
        refine KT.skip rfl rfl ?_
        refine KT.step rfl rfl (K.pick rfl (fun h => by cases h) (fun _ => rfl)) ?_
        refine KT.step rfl rfl (K.assign rfl) ?_
        refine KT.step rfl rfl (K.assign rfl) ?_
        refine KT.nil ?_
        refine thenK_n ?_
        refine KC.ret ?_
        exact ⟨.inl rfl, _, rfl, fin_ck (by unfold checkB; rw [hc16]; simp only [Bool.true_and]; unfold meanB; rw [hb24]; simp only [Bool.true_and]; cases h1 : wideB num den with | false => rfl | true => rw [h1, Bool.true_and] at hb31; rw [hb31, Bool.and_false]) (by unfold errV; rw [hc16]; rfl)⟩
    · skip
      refine KT.skip rfl rfl ?_
      refine KT.skip rfl rfl ?_
      refine KT.skip rfl rfl ?_
      refine KT.skip rfl rfl ?_
      refine KT.skip rfl rfl ?_
      refine KT.step rfl rfl (K.pick rfl (fun h => by cases h) (fun _ => rfl)) ?_
      refine KT.step rfl rfl (K.move rfl) ?_
      refine KT.skip rfl rfl ?_
      refine KT.skip rfl rfl ?_
      refine KT.skip rfl rfl ?_
      refine KT.skip rfl rfl ?_
      refine KT.skip rfl rfl ?_
      refine KT.skip rfl rfl ?_
      refine KT.skip rfl rfl ?_
      refine KT.skip rfl rfl ?_
      refine KT.step rfl rfl (K.pick rfl (fun h => by cases h) (fun _ => rfl)) ?_
      refine KT.step rfl rfl (K.assign rfl) ?_
      refine KT.step rfl rfl (K.assign rfl) ?_
      refine KT.nil ?_
      refine thenK_n ?_
      refine KC.ret ?_
      exact ⟨.inl rfl, _, rfl, fin_ck (by unfold checkB; rw [hc16]; simp only [Bool.true_and]; unfold meanB; rw [hb24]; simp only [Bool.false_and, Bool.and_false]) (by unfold errV; rw [hc16]; rfl)⟩

theorem few_check (m : List (List Int)) (c v : List Int) (num den : Int) : checkB (fewM m) c v num den = checkB m c v num den ∧ errV (fewM m) = errV m := by
  unfold checkB errV
  rw [few_validB]
  cases h : validB 1000 m with
  | false => exact ⟨rfl, rfl⟩
  | true => rw [few_valid h]; exact ⟨rfl, rfl⟩
set_option maxRecDepth 10000 in
theorem law6 {d e f : DV} {m : List (List Int)} {c v : List Int} {num den : Int} (hd : Mat d m) (hl : m.length ≤ 9223372036854775807) (hr : ∀ r ∈ m, r.length ≤ 9223372036854775807) (he : Ints e c) (hlc : c.length ≤ 9223372036854775807) (hf : Ints f v) (hlv : v.length ≤ 9223372036854775807) : DeepCall Try.prog 6 [d, e, f, DI num, DI den] (DB true) := by
  obtain ⟨g1, g2⟩ := few_check m c v num den
  refine deepCall_K 5 Try.func6 rfl (Nat.le_of_ble_eq_true rfl) fun M W0 => ?_
  refine KC.seq ?_
  refine KC.region ?_
  refine KT.step rfl rfl (K.assign rfl) ?_
  refine KT.nil ?_
  refine thenK_n ?_
  refine KC.seq ?_
  refine KC.region ?_
  refine KT.step rfl rfl (K.move rfl) ?_
  refine KT.step rfl rfl (K.call1 rfl plainTry_19 (rows19 hd hl (fun i hi => by rw [show m.getD i [] = m[i] by simp [hi]]; exact hr _ (List.getElem_mem hi)))) ?_
  refine KT.step rfl rfl (K.move rfl) ?_
  refine KT.step rfl rfl (K.move rfl) ?_
  refine KT.step rfl rfl (K.move rfl) ?_
  refine KT.step rfl rfl (K.move rfl) ?_
  refine KT.step rfl rfl (K.call5 rfl rfl rfl rfl rfl plainTry_32 (check32 (show Mat (rows8 m d) (fewM m) from rows8_mat hd) (few_len m).1 (few_len m).2 he hlc hf hlv)) ?_
  refine KT.step rfl rfl (K.move rfl) ?_
  refine KT.step rfl rfl (K.extract rfl rfl) ?_
  refine KT.step rfl rfl (K.extract rfl rfl) ?_
  refine KT.step rfl rfl (K.assign rfl) ?_
  refine KT.step rfl rfl (K.assign rfl) ?_
  refine KT.nil ?_
  refine thenK_n ?_
  refine KC.seq ?_
  refine KC.region ?_
  refine KT.step rfl rfl (K.move rfl) ?_
  refine KT.step rfl rfl (K.move rfl) ?_
  refine KT.step rfl rfl (K.move rfl) ?_
  refine KT.step rfl rfl (K.move rfl) ?_
  refine KT.step rfl rfl (K.move rfl) ?_
  refine KT.step rfl rfl (K.call5 rfl rfl rfl rfl rfl plainTry_33 (rcheck33 hd hl hr he hlc hf hlv)) ?_
  refine KT.step rfl rfl (K.move rfl) ?_
  refine KT.step rfl rfl (K.extract rfl rfl) ?_
  refine KT.step rfl rfl (K.extract rfl rfl) ?_
  refine KT.step rfl rfl (K.assign rfl) ?_
  refine KT.step rfl rfl (K.assign rfl) ?_
  refine KT.nil ?_
  refine thenK_n ?_
  refine KC.seq ?_
  refine KC.region ?_
  refine KT.step rfl rfl (K.move rfl) ?_
  refine KT.step rfl rfl (K.move rfl) ?_
  refine KT.step rfl rfl (K.eqB Try.underlying4 rfl rfl) ?_
  refine KT.step rfl rfl (K.move rfl) ?_
  refine KT.bcase (fun hb37 => ?_) (fun hb37 => ?_)
  · skip
    refine KT.step rfl rfl (K.move rfl) ?_
    refine KT.step rfl rfl (K.move rfl) ?_
    refine KT.step rfl rfl (K.eql rfl rfl) ?_
    refine KT.step rfl rfl (K.pick rfl (fun _ => rfl) (fun h => by cases h)) ?_
    refine KT.step rfl rfl (K.move rfl) ?_
    refine KT.bcase (fun hb42 => ?_) (fun hb42 => ?_)
    · skip
      replace hb42 := of_decide_eq_true hb42
      refine KT.step rfl rfl (K.call0 plainTry_24 (awake24)) ?_
      refine KT.step rfl rfl (K.pick rfl (fun _ => rfl) (fun h => by cases h)) ?_
      refine KT.step rfl rfl (K.assign rfl) ?_
      refine KT.nil ?_
      refine thenK_n ?_
      refine KC.ret ?_
      exact ⟨.inl rfl, _, rfl, rfl⟩
    · skip
      exact absurd g2 (of_decide_eq_false hb42)
  · skip
    exact absurd g1 (of_decide_eq_false hb37)
end Go.Proofs.Ythbnnffmhnjpjaa

