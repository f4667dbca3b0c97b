import Derived.Test.YtjfpeiioddfjcaaZnRa
import Derived.Test.YtjfpeiioddfjcaaZnP0
/-
  Zones: the reference: sums along ways.
-/
namespace Go.Proofs.Ytjfpeiioddfjcaa
open Go.Vm Go.Zn
theorem plainTry_58 : plainFn Try.prog 58 = true := by kernel_rfl
theorem plainTry_60 : plainFn Try.prog 60 = true := by kernel_rfl
theorem plainTry_59 : plainFn Try.prog 59 = true := by kernel_rfl
theorem plainTry_22 : plainFn Try.prog 22 = true := by kernel_rfl
theorem plainTry_92 : plainFn Try.prog 92 = true := by kernel_rfl
theorem plainTry_52 : plainFn Try.prog 52 = true := by kernel_rfl
theorem plainTry_17 : plainFn Try.prog 17 = true := by kernel_rfl
set_option maxRecDepth 10000 in
theorem rsum58 {x y : Int} (hx : Zg TOP x) (hy : Zg TOP y) : DeepCall Try.prog 58 [DI x, DI y] (DI (bsum x y)) := by
  unfold Zg Lim TOP at hx hy
  refine deepCall_K 5 Try.func58 rfl (Nat.le_of_ble_eq_true rfl) fun M W0 => ?_
  refine KC.seq ?_
  refine KC.region ?_
  refine KT.step rfl rfl (K.assign rfl) ?_
  refine KT.nil ?_
  refine thenK_n ?_
  refine KC.seq ?_
  refine KC.block ?_
  refine KC.seq ?_
  refine KC.region ?_
  refine KT.step rfl rfl (K.move rfl) ?_
  refine KT.step rfl rfl (K.eql rfl rfl) ?_
  refine KT.step rfl rfl (K.move rfl) ?_
  refine KT.bcase (fun hb8 => ?_) (fun hb8 => ?_)
  · skip
    replace hb8 := of_decide_eq_true hb8
    refine KT.skip rfl rfl ?_
    refine KT.skip rfl rfl ?_
    refine KT.step rfl rfl (K.pick rfl (fun _ => rfl) (fun h => by cases h)) ?_
    refine KT.step rfl rfl (K.assign rfl) ?_
    refine KT.nil ?_
    refine thenK_n ?_
    refine KC.cond rfl (fun hc5 => ?_) (fun hc5 => ?_)
    · skip
      refine KC.seq ?_
      refine KC.region ?_
      refine KT.step rfl rfl (K.assign rfl) ?_
      refine KT.nil ?_
      refine thenK_n ?_
      refine KC.ret ?_
      refine blockK_r ?_
      refine thenK_r ?_
      exact ⟨.inl rfl, _, rfl, fin_d (by unfold bsum; rw [if_pos (.inl hb8)])⟩
    · cases hc5
  · skip
    replace hb8 := of_decide_eq_false hb8
    refine KT.step rfl rfl (K.move rfl) ?_
    refine KT.step rfl rfl (K.eql rfl rfl) ?_
    refine KT.step rfl rfl (K.pick rfl (fun h => by cases h) (fun _ => rfl)) ?_
    refine KT.step rfl rfl (K.assign rfl) ?_
    refine KT.nil ?_
    refine thenK_n ?_
    refine KC.cond rfl (fun hc5 => ?_) (fun hc5 => ?_)
    · skip
      replace hc5 := of_decide_eq_true hc5
      refine KC.seq ?_
      refine KC.region ?_
      refine KT.step rfl rfl (K.assign rfl) ?_
      refine KT.nil ?_
      refine thenK_n ?_
      refine KC.ret ?_
      refine blockK_r ?_
      refine thenK_r ?_
      exact ⟨.inl rfl, _, rfl, fin_d (by unfold bsum; rw [if_pos (.inr hc5)])⟩
    · skip
      replace hc5 := of_decide_eq_false hc5
      refine KC.seq ?_
      refine KC.region ?_
      refine KT.step rfl rfl (K.move rfl) ?_
      refine KT.step rfl rfl (K.band rfl rfl (andOne x)) ?_
      refine KT.step rfl rfl (K.eql rfl rfl) ?_
      refine KT.step rfl rfl (K.move rfl) ?_
      refine KT.bcase (fun hb16 => ?_) (fun hb16 => ?_)
      · skip
        replace hb16 := of_decide_eq_true hb16
        refine KT.step rfl rfl (K.move rfl) ?_
        refine KT.step rfl rfl (K.band rfl rfl (andOne y)) ?_
        refine KT.step rfl rfl (K.eql rfl rfl) ?_
        refine KT.step rfl rfl (K.pick rfl (fun _ => rfl) (fun h => by cases h)) ?_
        refine KT.step rfl rfl (K.assign rfl) ?_
        refine KT.nil ?_
        refine thenK_n ?_
        refine KC.cond rfl (fun hc12 => ?_) (fun hc12 => ?_)
        · skip
          replace hc12 := of_decide_eq_true hc12
          refine KC.seq ?_
          refine KC.region ?_
          refine KT.step rfl rfl (K.move rfl) ?_
          refine KT.step rfl rfl (K.move rfl) ?_
          refine KT.step rfl rfl (K.add rfl rfl (wrap_id (by omega))) ?_
          refine KT.step rfl rfl (K.sub rfl rfl (wrap_id (by omega))) ?_
          refine KT.step rfl rfl (K.assign rfl) ?_
          refine KT.nil ?_
          refine thenK_n ?_
          refine KC.ret ?_
          refine blockK_r ?_
          refine thenK_r ?_
          exact ⟨.inl rfl, _, rfl, fin_d (congrArg (fun n => DI n) (bsum_odd hb8 hc5 hb16 hc12))⟩
        · skip
          replace hc12 := of_decide_eq_false hc12
          refine KC.skip ?_
          refine blockK_n ?_
          refine thenK_n ?_
          refine KC.seq ?_
          refine KC.region ?_
          refine KT.step rfl rfl (K.move rfl) ?_
          refine KT.step rfl rfl (K.bandNot rfl rfl (clrOne (by omega))) ?_
          refine KT.step rfl rfl (K.move rfl) ?_
          refine KT.step rfl rfl (K.bandNot rfl rfl (clrOne (by omega))) ?_
          refine KT.step rfl rfl (K.add rfl rfl (wrap_id (by omega))) ?_
          refine KT.step rfl rfl (K.assign rfl) ?_
          refine KT.nil ?_
          refine thenK_n ?_
          refine KC.ret ?_
          exact ⟨.inl rfl, _, rfl, fin_d (congrArg (fun n => DI n) (bsum_even hb8 hc5 (by omega)))⟩
      · skip
        replace hb16 := of_decide_eq_false hb16
        refine KT.skip rfl rfl ?_
        refine KT.skip rfl rfl ?_
        refine KT.skip rfl rfl ?_
        refine KT.step rfl rfl (K.pick rfl (fun h => by cases h) (fun _ => rfl)) ?_
        refine KT.step rfl rfl (K.assign rfl) ?_
        refine KT.nil ?_
        refine thenK_n ?_
        refine KC.cond rfl (fun hc12 => ?_) (fun hc12 => ?_)
        · cases hc12
        · skip
          refine KC.skip ?_
          refine blockK_n ?_
          refine thenK_n ?_
          refine KC.seq ?_
          refine KC.region ?_
          refine KT.step rfl rfl (K.move rfl) ?_
          refine KT.step rfl rfl (K.bandNot rfl rfl (clrOne (by omega))) ?_
          refine KT.step rfl rfl (K.move rfl) ?_
          refine KT.step rfl rfl (K.bandNot rfl rfl (clrOne (by omega))) ?_
          refine KT.step rfl rfl (K.add rfl rfl (wrap_id (by omega))) ?_
          refine KT.step rfl rfl (K.assign rfl) ?_
          refine KT.nil ?_
          refine thenK_n ?_
          refine KC.ret ?_
          exact ⟨.inl rfl, _, rfl, fin_d (congrArg (fun n => DI n) (bsum_even hb8 hc5 (by omega)))⟩

/-- A zone with rows of its own length. -/
structure Sq (z : List (List Int)) : Prop where
  lo : 1 ≤ z.length
  hi : z.length ≤ 4
  rows : ∀ r ∈ z, r.length = z.length
  good : ZgM 20480000 (zf z)
theorem Sq.get {z : List (List Int)} (h : Sq z) {i j : Nat} (hi : i < z.length) (hj : j < z[i].length) : z[i][j] = zf z i j := by
  unfold zf
  rw [show z.getD i [] = z[i] by simp [hi]]
  simp [hj]
theorem sq_of {z : List (List Int)} (h : validZ z = true) : Sq z := ⟨by have := (validZ_rows h).1; omega, (validZ_rows h).2.1, fun r hr => ((validZ_rows h).2.2 r hr).1, fun i j => Lim.mono (zf_lim h i j) (by omega) (by omega)⟩
theorem sq_gen {n : Nat} {a : Nat → Nat → Int} (h1 : 1 ≤ n) (hn : n ≤ 4) (ha : ZgM 20480000 (zf (genM n n a))) : Sq (genM n n a) := ⟨by rw [genM_length]; exact h1, by rw [genM_length]; exact hn, fun r hr => by
  unfold genM at hr
  obtain ⟨k, _, rfl⟩ := List.mem_map.1 hr
  rw [List.length_map, List.length_range, genM_length], ha⟩
set_option maxRecDepth 10000 in
theorem at60 {d : DV} {z : List (List Int)} {i j : Nat} (hd : Mat d z) (hs : Sq z) (hi : i < z.length) (hj : j < z.length) : DeepCall Try.prog 60 [d, DI (i : Nat), DI (j : Nat)] (DI (atm (zf z) i j)) := by
  have hjl : j < z[i].length := by rw [hs.rows _ (List.getElem_mem hi)]; exact hj
  refine deepCall_K 5 Try.func60 rfl (Nat.le_of_ble_eq_true rfl) fun M W0 => ?_
  refine KC.seq ?_
  refine KC.region ?_
  refine KT.step rfl rfl (K.assign rfl) ?_
  refine KT.nil ?_
  refine thenK_n ?_
  refine KC.seq ?_
  refine KC.seq ?_
  refine KC.region ?_
  refine KT.step rfl rfl (K.move rfl) ?_
  refine KT.step rfl rfl (K.eql rfl rfl) ?_
  refine KT.nil ?_
  refine thenK_n ?_
  refine KC.cond rfl (fun hc8 => ?_) (fun hc8 => ?_)
  · skip
    replace hc8 := of_decide_eq_true hc8
    refine KC.seq ?_
    refine KC.region ?_
    refine KT.step rfl rfl (K.move rfl) ?_
    refine KT.step rfl rfl (K.move rfl) ?_
    refine KT.idx rfl rfl rfl hd rfl hi Try.underlying22 Try.size23 fun c11 cs11 hq11 => ?_
    refine KT.step rfl rfl (K.load rfl Try.agg23) ?_
    refine KT.step rfl rfl (K.move rfl) ?_
    refine KT.idxI rfl rfl rfl hq11 rfl hjl Try.underlying23 Try.size3 fun cs14 => ?_
    refine KT.step rfl rfl (K.load rfl Try.agg3) ?_
    refine KT.step rfl rfl (K.min2 rfl rfl) ?_
    refine KT.step rfl rfl (K.assign rfl) ?_
    refine KT.nil ?_
    refine thenK_n ?_
    refine KC.ret ?_
    refine thenK_r ?_
    exact ⟨.inl rfl, _, rfl, fin_d (by unfold atm; rw [if_pos (by omega), ← hs.get hi hjl])⟩
  · skip
    replace hc8 := of_decide_eq_false hc8
    refine KC.skip ?_
    refine thenK_n ?_
    refine KC.seq ?_
    refine KC.region ?_
    refine KT.step rfl rfl (K.move rfl) ?_
    refine KT.step rfl rfl (K.move rfl) ?_
    refine KT.idx rfl rfl rfl hd rfl hi Try.underlying22 Try.size23 fun c19 cs19 hq19 => ?_
    refine KT.step rfl rfl (K.load rfl Try.agg23) ?_
    refine KT.step rfl rfl (K.move rfl) ?_
    refine KT.idxI rfl rfl rfl hq19 rfl hjl Try.underlying23 Try.size3 fun cs22 => ?_
    refine KT.step rfl rfl (K.load rfl Try.agg3) ?_
    refine KT.step rfl rfl (K.assign rfl) ?_
    refine KT.nil ?_
    refine thenK_n ?_
    refine KC.ret ?_
    exact ⟨.inl rfl, _, rfl, fin_d (by unfold atm; rw [if_neg (by omega), ← hs.get hi hjl])⟩
set_option maxRecDepth 10000 in
theorem along59 {d e : DV} {z : List (List Int)} {q : List Nat} (hd : Mat d z) (hs : Sq z) (he : Ints e (zl q)) (hq : ∀ x ∈ q, x < z.length) (hql : q.length ≤ 11) : DeepCall Try.prog 59 [d, e] (DI (alI (atm (zf z)) q)) := by
  refine deepCall_K 5 Try.func59 rfl (Nat.le_of_ble_eq_true rfl) fun M W0 => ?_
  refine KC.seq ?_
  refine KC.region ?_
  refine KT.step rfl rfl (K.assign rfl) ?_
  refine KT.nil ?_
  refine thenK_n ?_
  refine KC.seq ?_
  refine KC.region ?_
  refine KT.step rfl rfl (K.assign rfl) ?_
  refine KT.nil ?_
  refine thenK_n ?_
  refine KC.seq ?_
  refine KC.seq ?_
  refine KC.region ?_
  refine KT.step rfl rfl (K.assign rfl) ?_
  refine KT.nil ?_
  refine thenK_n ?_
  refine KC.block ?_
  refine KC.loop (fun _ : Nat => []) (fun k => [(0, .d d), (1, .d e), (5, .d (DI (alP (atm (zf z)) q k))), (6, .d (DI ((k + 1 : Nat) : Int)))]) (fun k => k = 0 ∨ k + 1 ≤ q.length) (fun k => q.length - k) 0 (.inl rfl) rfl (by simp [Go.Vm.look, extK, enterK, alP]) ?_
  intro k hk
  refine KC.seq ?_
  refine KC.seq ?_
  refine KC.region ?_
  refine KT.step rfl rfl (K.move rfl) ?_
  refine KT.step rfl rfl (K.move rfl) ?_
  refine KT.step rfl rfl (K.len rfl he Try.underlying23) ?_
  rw [zl_len]
  refine KT.step rfl rfl (K.lss rfl rfl) ?_
  refine KT.nil ?_
  refine thenK_n ?_
  refine KC.cond rfl (fun hc10 => ?_) (fun hc10 => ?_)
  · skip
    replace hc10 := of_decide_eq_true hc10
    refine KC.skip ?_
    refine thenK_n ?_
    refine KC.seq ?_
    refine KC.block ?_
    refine KC.draw Try.mixed ?_
    refine KT.step rfl rfl (K.move rfl) ?_
    refine KT.step rfl rfl (K.move rfl) ?_
    refine KT.step rfl rfl (K.move rfl) ?_
    refine KT.step rfl rfl (K.move rfl) ?_
    refine KT.step rfl rfl (K.sub rfl rfl (show IntKind.i64.wrap (((k + 1 : Nat) : Int) - 1) = ((k : Nat) : Int) from (wrap_id (by omega)).trans (by omega))) ?_
    refine KT.idxI (m := k) rfl rfl rfl he rfl (by rw [zl_len]; omega) Try.underlying23 Try.size3 fun cs18 => ?_
    rw [zl_get]
    refine KT.step rfl rfl (K.load rfl Try.agg3) ?_
    refine KT.step rfl rfl (K.move rfl) ?_
    refine KT.step rfl rfl (K.move rfl) ?_
    refine KT.idxI (m := k + 1) rfl rfl rfl he rfl (by rw [zl_len]; omega) Try.underlying23 Try.size3 fun cs22 => ?_
    rw [zl_get]
    refine KT.step rfl rfl (K.load rfl Try.agg3) ?_
    refine KT.step rfl rfl (K.call3 rfl rfl rfl plainTry_60 (at60 hd hs (getD_lt hq (by omega)) (getD_lt hq (by omega)))) ?_
    refine KT.step rfl rfl (K.call2 rfl rfl plainTry_58 (rsum58 (Lim.mono (alP_good (atm_good hs.good) k) (by unfold TOP; omega) (by unfold TOP; omega)) ((atm_good hs.good) _ _).top)) ?_
    refine KT.step rfl rfl (K.assign rfl) ?_
    refine KT.nil ?_
    refine ⟨by kernel_rfl, ?_⟩
    refine blockK_n ?_
    refine thenK_n ?_
    refine KC.region ?_
    refine KT.step rfl rfl (K.move rfl) ?_
    refine KT.step rfl rfl (K.add rfl rfl (oneN (by omega))) ?_
    refine KT.step rfl rfl (K.assign rfl) ?_
    refine KT.nil ?_
    refine thenK_n ?_
    refine ⟨k + 1, .inr (by omega), by omega, rfl, by simp [Go.Vm.look, extK, alP]⟩
  · skip
    replace hc10 := of_decide_eq_false hc10
    refine KC.exit ?_
    refine thenK_x ?_
    refine thenK_x ?_
    refine blockK_e ?_
    refine thenK_n ?_
    refine KC.seq ?_
    refine KC.region ?_
    refine KT.step rfl rfl (K.move rfl) ?_
    refine KT.step rfl rfl (K.assign rfl) ?_
    refine KT.nil ?_
    refine thenK_n ?_
    refine KC.ret ?_
    exact ⟨.inl rfl, _, rfl, fin_d (by unfold alI; rw [show q.length - 1 = k by omega])⟩
set_option maxRecDepth 10000 in
theorem Refutes22 {d e : DV} {z : List (List Int)} {l : List Int} (hd : Mat d z) (hs : Sq z) (he : Ints e l) (hll : l.length ≤ 9223372036854775807) : DeepCall Try.prog 22 [d, e] (DB (rrB z.length (zf z) l)) := by
  refine deepCall_K 5 Try.func22 rfl (Nat.le_of_ble_eq_true rfl) fun M W0 => ?_
  refine KC.seq ?_
  refine KC.region ?_
  refine KT.step rfl rfl (K.assign rfl) ?_
  refine KT.nil ?_
  refine thenK_n ?_
  refine KC.seq ?_
  refine KC.seq ?_
  refine KC.region ?_
  refine KT.step rfl rfl (K.move rfl) ?_
  refine KT.step rfl rfl (K.len rfl he Try.underlying23) ?_
  refine KT.step rfl rfl (K.move rfl) ?_
  refine KT.nil ?_
  refine thenK_n ?_
  refine KC.block ?_
  refine KC.loop (fun _ : Nat => []) (fun k => [(0, .d d), (1, .d e), (9, .d e), (10, .d (DI (l.length : Nat))), (11, .d (DI (k : Nat)))]) (fun k => k ≤ l.length ∧ (∀ q, q < k → 0 ≤ l.getD q 0 ∧ l.getD q 0 < z.length) ∧ ∀ q r, q < r → r < k → l.getD q 0 ≠ l.getD r 0) (fun k => l.length - k) 0 ⟨Nat.zero_le _, fun q hq => by omega, fun q r _ h => by omega⟩ rfl (by simp [Go.Vm.look, extK, enterK]) ?_
  intro k hk
  obtain ⟨hk, hall1, hall2⟩ := hk
  refine KC.seq ?_
  refine KC.region ?_
  refine KT.step rfl rfl (K.lss rfl rfl) ?_
  refine KT.nil ?_
  refine thenK_n ?_
  refine KC.seq ?_
  refine KC.cond rfl (fun hc12 => ?_) (fun hc12 => ?_)
  · skip
    replace hc12 := of_decide_eq_true hc12
    have hkl : k < l.length := by omega
    have gk : l.getD k 0 = l[k] := by simp [hkl]
    refine KC.skip ?_
    refine thenK_n ?_
    refine KC.seq ?_
    refine KC.block ?_
    refine KC.seq ?_
    refine KC.region ?_
    refine KT.step rfl rfl (K.move rfl) ?_
    refine KT.idxI rfl rfl rfl (by assumption) rfl (by omega) Try.underlying23 Try.size3 fun cs14 => ?_
    refine KT.step rfl rfl (K.load rfl Try.agg3) ?_
    refine KT.step rfl rfl (K.assign rfl) ?_
    refine KT.step rfl rfl (K.assign rfl) ?_
    refine KT.nil ?_
    refine thenK_n ?_
    refine KC.seq ?_
    refine KC.seq ?_
    refine KC.region ?_
    refine KT.step rfl rfl (K.move rfl) ?_
    refine KT.step rfl rfl (K.lss rfl rfl) ?_
    refine KT.step rfl rfl (K.move rfl) ?_
    refine KT.bcase (fun hb18 => ?_) (fun hb18 => ?_)
    · skip
      replace hb18 := of_decide_eq_true hb18
      refine KT.skip rfl rfl ?_
      refine KT.skip rfl rfl ?_
      refine KT.skip rfl rfl ?_
      refine KT.skip rfl rfl ?_
      refine KT.step rfl rfl (K.pick rfl (fun _ => rfl) (fun h => by cases h)) ?_
      refine KT.nil ?_
      refine thenK_n ?_
      refine KC.cond rfl (fun hc23 => ?_) (fun hc23 => ?_)
      · skip
        refine KC.seq ?_
        refine KC.region ?_
        refine KT.step rfl rfl (K.assign rfl) ?_
        refine KT.nil ?_
        refine thenK_n ?_
        refine KC.ret ?_
        refine thenK_r ?_
        refine blockK_r ?_
        refine thenK_r ?_
        refine thenK_r ?_
        refine blockK_r ?_
        refine thenK_r ?_
        exact ⟨.inl rfl, _, rfl, fin_b (Bool.eq_false_iff.2 fun h => by
          unfold rrB at h
          have := (difB_iff.1 (Bool.and_eq_true_iff.1 h).1).1 l[k] (List.getElem_mem hkl)
          omega)⟩
      · cases hc23
    · skip
      replace hb18 := of_decide_eq_false hb18
      refine KT.step rfl rfl (K.move rfl) ?_
      refine KT.step rfl rfl (K.move rfl) ?_
      refine KT.step rfl rfl (K.len rfl hd Try.underlying22) ?_
      refine KT.step rfl rfl (K.geq rfl rfl) ?_
      refine KT.step rfl rfl (K.pick rfl (fun h => by cases h) (fun _ => rfl)) ?_
      refine KT.nil ?_
      refine thenK_n ?_
      refine KC.cond rfl (fun hc23 => ?_) (fun hc23 => ?_)
      · skip
        replace hc23 := of_decide_eq_true hc23
        refine KC.seq ?_
        refine KC.region ?_
        refine KT.step rfl rfl (K.assign rfl) ?_
        refine KT.nil ?_
        refine thenK_n ?_
        refine KC.ret ?_
        refine thenK_r ?_
        refine blockK_r ?_
        refine thenK_r ?_
        refine thenK_r ?_
        refine blockK_r ?_
        refine thenK_r ?_
        exact ⟨.inl rfl, _, rfl, fin_b (Bool.eq_false_iff.2 fun h => by
          unfold rrB at h
          have := (difB_iff.1 (Bool.and_eq_true_iff.1 h).1).1 l[k] (List.getElem_mem hkl)
          omega)⟩
      · skip
        replace hc23 := of_decide_eq_false hc23
        refine KC.skip ?_
        refine thenK_n ?_
        refine KC.seq ?_
        refine KC.region ?_
        refine KT.step rfl rfl (K.move rfl) ?_
        refine KT.step rfl rfl (K.move rfl) ?_
        refine KT.sliceTo rfl rfl rfl (by assumption) rfl (by omega) Try.underlying23 Try.size3 fun r26 hq26 => ?_
        refine KT.step rfl rfl (K.len rfl hq26 Try.underlying23) ?_
        rw [show (l.take k).length = k by simp; omega]
        refine KT.step rfl rfl (K.move rfl) ?_
        refine KT.nil ?_
        refine thenK_n ?_
        refine KC.block ?_
        refine KC.loop (fun _ : Nat => []) (fun j => [(0, .d d), (1, .d e), (9, .d e), (10, .d (DI (l.length : Nat))), (11, .d (DI (k : Nat))), (6, .d (DI l[k])), (26, .d r26), (27, .d (DI (k : Nat))), (28, .d (DI (j : Nat)))]) (fun j => j ≤ k ∧ ∀ q, q < j → l[k] ≠ l.getD q 0) (fun j => k - j) 0 ⟨Nat.zero_le _, fun q h => by omega⟩ rfl (by simp [Go.Vm.look, extK, enterK]) ?_
        intro j hj
        obtain ⟨hj, hall3⟩ := hj
        refine KC.seq ?_
        refine KC.region ?_
        refine KT.step rfl rfl (K.lss rfl rfl) ?_
        refine KT.nil ?_
        refine thenK_n ?_
        refine KC.seq ?_
        refine KC.cond rfl (fun hc29 => ?_) (fun hc29 => ?_)
        · skip
          replace hc29 := of_decide_eq_true hc29
          refine KC.skip ?_
          refine thenK_n ?_
          refine KC.seq ?_
          refine KC.block ?_
          refine KC.seq ?_
          refine KC.region ?_
          refine KT.idxI rfl rfl rfl hq26 rfl (by simp; omega) Try.underlying23 Try.size3 fun cs30 => ?_
          rw [List.getElem_take]
          refine KT.step rfl rfl (K.load rfl Try.agg3) ?_
          refine KT.step rfl rfl (K.assign rfl) ?_
          refine KT.nil ?_
          refine thenK_n ?_
          refine KC.seq ?_
          refine KC.region ?_
          refine KT.step rfl rfl (K.move rfl) ?_
          refine KT.step rfl rfl (K.move rfl) ?_
          refine KT.step rfl rfl (K.eql rfl rfl) ?_
          refine KT.nil ?_
          refine thenK_n ?_
          refine KC.cond rfl (fun hc34 => ?_) (fun hc34 => ?_)
          · skip
            replace hc34 := of_decide_eq_true hc34
            refine KC.seq ?_
            refine KC.region ?_
            refine KT.step rfl rfl (K.assign rfl) ?_
            refine KT.nil ?_
            refine thenK_n ?_
            refine KC.ret ?_
            refine blockK_r ?_
            refine thenK_r ?_
            refine thenK_r ?_
            refine blockK_r ?_
            refine blockK_r ?_
            refine thenK_r ?_
            refine thenK_r ?_
            refine blockK_r ?_
            refine thenK_r ?_
            exact ⟨.inl rfl, _, rfl, fin_b (Bool.eq_false_iff.2 fun h => by
              unfold rrB at h
              have hd := (difB_iff.1 (Bool.and_eq_true_iff.1 h).1).2
              have := List.pairwise_iff_getElem.1 hd j k (by omega) hkl (by omega)
              exact this hc34.symm)⟩
          · skip
            replace hc34 := of_decide_eq_false hc34
            refine KC.skip ?_
            refine blockK_n ?_
            refine thenK_n ?_
            refine KC.region ?_
            refine KT.step rfl rfl (K.add rfl rfl (wrap_id (by omega))) ?_
            refine KT.step rfl rfl (K.move rfl) ?_
            refine KT.nil ?_
            refine thenK_n ?_
            refine ⟨j + 1, ⟨by omega, fun q hq => ?_⟩, by omega, rfl, by simp [Go.Vm.look, extK]⟩
            by_cases e : q = j
            · subst e
              rw [show l.getD q 0 = l[q] by simp [show q < l.length by omega]]
              exact hc34
            · exact hall3 q (by omega)
        · skip
          replace hc29 := of_decide_eq_false hc29
          refine KC.exit ?_
          refine thenK_x ?_
          refine thenK_x ?_
          refine blockK_e ?_
          refine blockK_n ?_
          refine thenK_n ?_
          refine KC.region ?_
          refine KT.step rfl rfl (K.add rfl rfl (wrap_id (by omega))) ?_
          refine KT.step rfl rfl (K.move rfl) ?_
          refine KT.nil ?_
          refine thenK_n ?_
          refine ⟨k + 1, ⟨by omega, fun q hq => ?_, fun q r hqr hr => ?_⟩, by omega, rfl, by simp [Go.Vm.look, extK]⟩
          · by_cases e : q = k
            · subst e; rw [gk]; omega
            · exact hall1 q (by omega)
          · by_cases e : r = k
            · subst e
              exact fun h => hall3 q (by omega) (by rw [← gk]; exact h.symm)
            · exact hall2 q r hqr (by omega)
  · skip
    replace hc12 := of_decide_eq_false hc12
    refine KC.exit ?_
    refine thenK_x ?_
    refine thenK_x ?_
    refine blockK_e ?_
    refine thenK_n ?_
    refine KC.seq ?_
    have hdf : difB z.length l = true := difB_iff.2 ⟨fun x hx => by
      obtain ⟨q, hq, rfl⟩ := List.getElem_of_mem hx
      have := hall1 q (by omega)
      rwa [show l.getD q 0 = l[q] by simp [hq]] at this, List.pairwise_iff_getElem.2 fun i j hi hj hij => by
      have := hall2 i j hij (by omega)
      rwa [show l.getD i 0 = l[i] by simp [hi], show l.getD j 0 = l[j] by simp [hj]] at this⟩
    obtain ⟨q, rfl⟩ := nat_of (difB_iff.1 hdf).1
    obtain ⟨d1, d2⟩ := zl_dif.1 hdf
    have hql := dif_len d1 d2
    have hz4 := hs.hi
    have hzq : (zl q).length = q.length := zl_len
    refine KC.draw Try.mixed ?_
    refine KT.step rfl rfl (K.move rfl) ?_
    refine KT.step rfl rfl (K.len rfl he Try.underlying23) ?_
    refine KT.step rfl rfl (K.gtr rfl rfl) ?_
    refine KT.step rfl rfl (K.move rfl) ?_
    refine KT.bcase (fun hb40 => ?_) (fun hb40 => ?_)
    · skip
      replace hb40 := of_decide_eq_true hb40
      refine KT.step rfl rfl (K.move rfl) ?_
      refine KT.step rfl rfl (K.move rfl) ?_
      refine KT.step rfl rfl (K.call2 rfl rfl plainTry_59 (along59 hd hs he d1 (by omega))) ?_
      refine KT.step rfl rfl (K.move rfl) ?_
      refine KT.step rfl rfl (K.move rfl) ?_
      refine KT.step rfl rfl (K.move rfl) ?_
      refine KT.step rfl rfl (K.len rfl he Try.underlying23) ?_
      refine KT.step rfl rfl (K.sub rfl rfl (show IntKind.i64.wrap ((((zl q).length : Nat) : Int) - 1) = (((zl q).length - 1 : Nat) : Int) from (wrap_id (by omega)).trans (by omega))) ?_
      refine KT.idxI (m := (zl q).length - 1) rfl rfl rfl he rfl (by omega) Try.underlying23 Try.size3 fun cs49 => ?_
      rw [zl_get]
      refine KT.step rfl rfl (K.load rfl Try.agg3) ?_
      refine KT.step rfl rfl (K.move rfl) ?_
      refine KT.idxI (m := 0) rfl rfl rfl he rfl (by omega) Try.underlying23 Try.size3 fun cs52 => ?_
      rw [zl_get]
      refine KT.step rfl rfl (K.load rfl Try.agg3) ?_
      refine KT.step rfl rfl (K.call3 rfl rfl rfl plainTry_60 (at60 hd hs (getD_lt d1 (by omega)) (getD_lt d1 (by omega)))) ?_
      refine KT.step rfl rfl (K.call2 rfl rfl plainTry_58 (rsum58 (Lim.mono (alI_good (atm_good hs.good) (by omega)) (by decide) (by decide)) ((atm_good hs.good) _ _).top)) ?_
      refine KT.step rfl rfl (K.lss rfl rfl) ?_
      refine KT.step rfl rfl (K.pick rfl (fun _ => rfl) (fun h => by cases h)) ?_
      refine KT.step rfl rfl (K.assign rfl) ?_
      refine KT.nil ?_
      refine ⟨by kernel_rfl, ?_⟩
      refine thenK_n ?_
      refine KC.ret ?_
      exact ⟨.inl rfl, _, rfl, fin_b (by
        unfold rrB rrI
        rw [hdf, decide_eq_true (show 0 < (zl q).length by omega), Bool.true_and, Bool.true_and, zl_nat, zl_len])⟩
    · skip
      replace hb40 := of_decide_eq_false hb40
      refine KT.skip rfl rfl ?_
      refine KT.skip rfl rfl ?_
      refine KT.skip rfl rfl ?_
      refine KT.skip rfl rfl ?_
      refine KT.skip rfl rfl ?_
      refine KT.skip rfl rfl ?_
      refine KT.skip rfl rfl ?_
      refine KT.skip rfl rfl ?_
      refine KT.skip rfl rfl ?_
      refine KT.skip rfl rfl ?_
      refine KT.skip rfl rfl ?_
      refine KT.skip rfl rfl ?_
      refine KT.skip rfl rfl ?_
      refine KT.skip rfl rfl ?_
      refine KT.skip rfl rfl ?_
      refine KT.skip rfl rfl ?_
      refine KT.step rfl rfl (K.pick rfl (fun h => by cases h) (fun _ => rfl)) ?_
      refine KT.step rfl rfl (K.assign rfl) ?_
      refine KT.nil ?_
      refine ⟨by kernel_rfl, ?_⟩
      refine thenK_n ?_
      refine KC.ret ?_
      exact ⟨.inl rfl, _, rfl, fin_b (by
        unfold rrB
        rw [decide_eq_false (show ¬ 0 < (zl q).length by omega), Bool.false_and, Bool.and_false])⟩
end Go.Proofs.Ytjfpeiioddfjcaa

