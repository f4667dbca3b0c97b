import Derived.Test.YtnfnjnaheckdbaaFlSq
/-
  The law FlowStarts.
-/
namespace Go.Proofs.Ytnfnjnaheckdbaa
open Go.Vm Go.Fl
theorem plainTry_7 : plainFn Try.prog 7 = true := by kernel_rfl
theorem plainTry_34 : plainFn Try.prog 34 = true := by kernel_rfl
set_option maxRecDepth 10000 in
theorem equalFunc34 {d e : DV} {x y : List (List Int)} (hd : Mat d x) (he : Mat e y) (hl : x.length ≤ 9223372036854775807) (hr : ∀ r ∈ x, r.length ≤ 9223372036854775807) :
    DeepCall Try.prog 34 [d, e, .fn (.func 21) [] []] (DB (decide (x = y))) := by
  refine deepCall_K 5 Try.func34 rfl (Nat.le_of_ble_eq_true rfl) fun M W0 => ?_
  refine KC.seq ?_
  refine KC.region ?_
  refine KT.step rfl rfl (K.assign rfl) ?_
  refine KT.nil ?_
  refine thenK_n ?_
  refine KC.seq ?_
  refine KC.seq ?_
  refine KC.region ?_
  refine KT.step rfl rfl (K.move rfl) ?_
  refine KT.step rfl rfl (K.len rfl (by assumption) Try.underlying50) ?_
  refine KT.step rfl rfl (K.move rfl) ?_
  refine KT.step rfl rfl (K.len rfl (by assumption) Try.underlying50) ?_
  refine KT.step rfl rfl (K.neq rfl rfl) ?_
  refine KT.nil ?_
  refine thenK_n ?_
  refine KC.cond rfl (fun hc14 => ?_) (fun hc14 => ?_)
  · skip
    replace hc14 := of_decide_eq_true hc14
    refine KC.seq ?_
    refine KC.region ?_
    refine KT.step rfl rfl (K.assign rfl) ?_
    refine KT.nil ?_
    refine thenK_n ?_
    refine KC.ret ?_
    refine thenK_r ?_
    exact ⟨.inl rfl, _, rfl, fin_b (decide_eq_false fun h => by subst h; omega)⟩
  · skip
    replace hc14 := of_decide_eq_false hc14
    refine KC.skip ?_
    refine thenK_n ?_
    refine KC.seq ?_
    refine KC.seq ?_
    refine KC.region ?_
    refine KT.step rfl rfl (K.move rfl) ?_
    refine KT.step rfl rfl (K.len rfl (by assumption) Try.underlying50) ?_
    refine KT.step rfl rfl (K.move rfl) ?_
    refine KT.nil ?_
    refine thenK_n ?_
    refine KC.block ?_
    refine KC.loop (fun _ : Nat => []) (fun i => [(0, .d d), (1, .d e), (2, .d (.fn (.func 21) [] [])), (15, .d d), (16, .d (DI x.length)), (17, .d (DI i))]) (fun i => i ≤ x.length ∧ x.take i = y.take i) (fun i => x.length - i) 0 ⟨Nat.zero_le _, rfl⟩ rfl (by simp [Go.Vm.look, extK, enterK]) ?_
    intro i hi
    obtain ⟨hi, hall⟩ := hi
    refine KC.seq ?_
    refine KC.region ?_
    refine KT.step rfl rfl (K.lss rfl rfl) ?_
    refine KT.nil ?_
    refine thenK_n ?_
    refine KC.seq ?_
    refine KC.cond rfl (fun hc18 => ?_) (fun hc18 => ?_)
    · skip
      replace hc18 := of_decide_eq_true hc18
      refine KC.skip ?_
      refine thenK_n ?_
      refine KC.seq ?_
      refine KC.block ?_
      refine KC.seq ?_
      refine KC.region ?_
      refine KT.step rfl rfl (K.move rfl) ?_
      refine KT.idx rfl rfl rfl (by assumption) rfl (by omega) Try.underlying50 Try.size25 fun c20 cs20 hq20 => ?_
      refine KT.step rfl rfl (K.load rfl Try.agg25) ?_
      refine KT.step rfl rfl (K.assign rfl) ?_
      refine KT.step rfl rfl (K.assign rfl) ?_
      refine KT.nil ?_
      refine thenK_n ?_
      refine KC.seq ?_
      refine KC.region ?_
      refine KT.step rfl rfl (K.move rfl) ?_
      refine KT.step rfl rfl (K.move rfl) ?_
      refine KT.idx rfl rfl rfl (by assumption) rfl (by omega) Try.underlying50 Try.size25 fun c24 cs24 hq24 => ?_
      refine KT.step rfl rfl (K.load rfl Try.agg25) ?_
      refine KT.step rfl rfl (K.assign rfl) ?_
      refine KT.nil ?_
      refine thenK_n ?_
      refine KC.seq ?_
      refine KC.region ?_
      refine KT.step rfl rfl (K.move rfl) ?_
      refine KT.step rfl rfl (K.move rfl) ?_
      refine KT.step rfl rfl (K.move rfl) ?_
      refine KT.step rfl rfl (K.callW rfl rfl rfl plainTry_21 (equal21 hq20 hq24 (hr _ (List.getElem_mem _)))) ?_
      refine KT.step rfl rfl (K.not rfl) ?_
      refine KT.nil ?_
      refine thenK_n ?_
      refine KC.cond rfl (fun hc30 => ?_) (fun hc30 => ?_)
      · skip
        replace hc30 : ¬ x[i] = y[i] := by simpa using hc30
        refine KC.seq ?_
        refine KC.region ?_
        refine KT.step rfl rfl (K.assign rfl) ?_
        refine KT.nil ?_
        refine thenK_n ?_
        refine KC.ret ?_
        refine blockK_r ?_
        refine thenK_r ?_
        refine thenK_r ?_
        refine blockK_r ?_
        refine thenK_r ?_
        exact ⟨.inl rfl, _, rfl, fin_b (decide_eq_false fun h => by subst h; exact hc30 rfl)⟩
      · skip
        replace hc30 : x[i] = y[i] := by simpa using hc30
        refine KC.skip ?_
        refine blockK_n ?_
        refine thenK_n ?_
        refine KC.region ?_
        refine KT.step rfl rfl (K.add rfl rfl (wrap_id (by omega))) ?_
        refine KT.step rfl rfl (K.move rfl) ?_
        refine KT.nil ?_
        refine thenK_n ?_
        refine ⟨i + 1, ⟨by omega, ?_⟩, by omega, rfl, by simp [Go.Vm.look, extK]⟩
        rw [List.take_succ_eq_append_getElem (by omega), List.take_succ_eq_append_getElem (by omega), hall, hc30]
    · skip
      replace hc18 := of_decide_eq_false hc18
      refine KC.exit ?_
      refine thenK_x ?_
      refine thenK_x ?_
      refine blockK_e ?_
      refine thenK_n ?_
      refine KC.seq ?_
      refine KC.region ?_
      refine KT.step rfl rfl (K.assign rfl) ?_
      refine KT.nil ?_
      refine thenK_n ?_
      refine KC.ret ?_
      have hx : x.take i = x := List.take_of_length_le (by omega)
      have hy : y.take i = y := List.take_of_length_le (by omega)
      rw [hx, hy] at hall
      exact ⟨.inl rfl, _, rfl, fin_b (decide_eq_true hall)⟩

theorem stA_take {n pe : Int} {L : List LZ} {tm : List Int} : stA n (L.take 12) tm pe = stA n L tm pe := by
  by_cases h : (scA n L).2 = 0
  · obtain ⟨N, Ln, q, s, h1, h2, hr, _, _⟩ := sc_of h
    subst h2
    rw [take12_rep hr]
  · unfold stA
    rw [scA_take, repA_take, if_neg h, if_neg h]
theorem stR_take {n pe : Int} {L : List LZ} {tm : List Int} : stR n (L.take 12) tm pe = stR n L tm pe := by unfold stR; rw [stA_take]
theorem stA_cases {n pe : Int} {L : List LZ} {tm : List Int} (h : (stA n L tm pe).2 = 0) : ∃ (N : Nat) (Ln : List LN) (q : Nat → Nat) (s : List Nat), n = (N : Int) ∧ RepG N Ln q ∧ s.length = tot q ∧ (stA n L tm pe).1 = runS Ln tm (seqP pe.toNat s) ∧ tot q * pe.toNat ≤ 400 := by
  by_cases htB : tmB tm n pe = true
  · by_cases hs : (scA n L).2 = 0
    · obtain ⟨N, Ln, q, s, rfl, rfl, hr, hf, hsc⟩ := sc_of hs
      have hs1 : (scA (N : Int) (Ln.map LN.z)).1 = zs s := by rw [hsc]
      by_cases h4 : 400 < tot q * pe.toNat
      · have e1 : (stA (N : Int) (Ln.map LN.z) tm pe).2 = 3 := by
          unfold stA; rw [if_pos htB, if_pos hs, if_pos (by rw [hr.r]; exact h4)]
        rw [e1] at h; cases h
      · have e1 : stA (N : Int) (Ln.map LN.z) tm pe = (runS Ln tm (seqP pe.toNat s), 0) := by
          unfold stA; rw [if_pos htB, if_pos hs, if_neg (by rw [hr.r]; exact h4), hs1, toN_z, zs_toNat]
        exact ⟨N, Ln, q, s, rfl, hr, greedy_len hr.n6 hf, by rw [e1], by omega⟩
    · rw [stA_sc htB hs] at h; exact absurd h hs
  · rw [stA_tm (by simpa using htB)] at h; cases h
theorem stR_mat (n pe : Int) (L : List LZ) (tm : List Int) : ∃ l, Mat (stR n L tm pe) l ∧ l.length ≤ 9223372036854775807 ∧ ∀ r ∈ l, r.length ≤ 9223372036854775807 := by
  by_cases h : (stA n L tm pe).2 = 0
  · obtain ⟨N, Ln, q, s, rfl, hr, hsl, e, h4⟩ := stA_cases h
    refine ⟨(List.range N).map (runS Ln tm (seqP pe.toNat s)), ?_, ?_, fun r hr2 => ?_⟩
    · unfold stR
      rw [if_pos h, e]
      exact stD_mat N _
    · have := hr.n6; rw [List.length_map, List.length_range]; omega
    · obtain ⟨j, _, rfl⟩ := List.mem_map.1 hr2
      have h1 : (seqP pe.toNat s).count j ≤ (seqP pe.toNat s).length := List.count_le_length
      rw [runS_len]
      rw [seqP_len, hsl, Nat.mul_comm] at h1
      omega
  · exact ⟨[], by unfold stR; rw [if_neg h]; exact .nil, by simp, fun r hr => by cases hr⟩
set_option maxRecDepth 10000 in
theorem startsLaw {d td : DV} {n pe : Int} {L : List LZ} {tm : List Int} (hd : Lks d L) (hl : L.length ≤ 9223372036854775807) (htd : Ints td tm) (htl : tm.length ≤ 9223372036854775807) : DeepCall Try.prog 7 [.agg [DI n, d], td, DI pe] (DB true) := by
  have hlt : (L.take 12).length ≤ 9223372036854775807 := by rw [List.length_take]; omega
  have hst := startsOf32 (n := n) (pe := pe) (lkD_lks (L.take 12)) hlt htd htl
  rw [stR_take, stA_take] at hst
  have hst2 := rstarts33 (n := n) (pe := pe) hd hl htd htl
  obtain ⟨l, hm, hml, hmr⟩ := stR_mat n pe L tm
  have heq := equalFunc34 hm hm hml hmr
  refine deepCall_K 5 Try.func7 rfl (Nat.le_of_ble_eq_true rfl) fun M W0 => ?_
  refine KC.seq ?_
  refine KC.region ?_
  refine KT.step rfl rfl (K.box rfl) ?_
  refine KT.step rfl rfl (K.assign rfl) ?_
  refine KT.nil ?_
  refine thenK_n ?_
  refine KC.seq ?_
  refine KC.region ?_
  refine KT.step rfl rfl (K.loadOA ([DI n, d]) rfl rfl (by decide) Try.agg24 Try.size24 rfl) ?_
  refine KT.step rfl rfl (K.call1 rfl plainTry_19 (of19 hd hl)) ?_
  refine KT.step rfl rfl (K.move rfl) ?_
  refine KT.step rfl rfl (K.move rfl) ?_
  refine KT.step rfl rfl (K.call3 rfl rfl rfl plainTry_32 (hst)) ?_
  refine KT.step rfl rfl (K.move rfl) ?_
  refine KT.step rfl rfl (K.extract rfl rfl) ?_
  refine KT.step rfl rfl (K.extract rfl rfl) ?_
  refine KT.step rfl rfl (K.assign rfl) ?_
  refine KT.step rfl rfl (K.assign rfl) ?_
  refine KT.nil ?_
  refine thenK_n ?_
  refine KC.seq ?_
  refine KC.region ?_
  refine KT.step rfl rfl (K.loadOA ([DI n, d]) rfl rfl (by decide) Try.agg24 Try.size24 rfl) ?_
  refine KT.step rfl rfl (K.move rfl) ?_
  refine KT.step rfl rfl (K.move rfl) ?_
  refine KT.step rfl rfl (K.call3 rfl rfl rfl plainTry_33 (hst2)) ?_
  refine KT.step rfl rfl (K.move rfl) ?_
  refine KT.step rfl rfl (K.extract rfl rfl) ?_
  refine KT.step rfl rfl (K.extract rfl rfl) ?_
  refine KT.step rfl rfl (K.assign rfl) ?_
  refine KT.step rfl rfl (K.assign rfl) ?_
  refine KT.nil ?_
  refine thenK_n ?_
  refine KC.seq ?_
  refine KC.region ?_
  refine KT.step rfl rfl (K.move rfl) ?_
  refine KT.step rfl rfl (K.move rfl) ?_
  refine KT.step rfl rfl (K.eql rfl rfl) ?_
  refine KT.step rfl rfl (K.move rfl) ?_
  refine KT.bcase (fun hb29 => ?_) (fun hb29 => ?_)
  · skip
    replace hb29 := of_decide_eq_true hb29
    refine KT.step rfl rfl (K.move rfl) ?_
    refine KT.step rfl rfl (K.move rfl) ?_
    refine KT.step rfl rfl (K.call3 rfl rfl rfl plainTry_34 (heq)) ?_
    refine KT.step rfl rfl (K.pick rfl (fun _ => rfl) (fun h => by cases h)) ?_
    refine KT.step rfl rfl (K.move rfl) ?_
    refine KT.bcase (fun hb34 => ?_) (fun hb34 => ?_)
    · skip
      refine KT.step rfl rfl (K.call0 plainTry_22 (awake22)) ?_
      refine KT.step rfl rfl (K.pick rfl (fun _ => rfl) (fun h => by cases h)) ?_
      refine KT.step rfl rfl (K.assign rfl) ?_
      refine KT.nil ?_
      refine thenK_n ?_
      refine KC.ret ?_
      exact ⟨.inl rfl, _, rfl, rfl⟩
    · skip
      exact absurd rfl (of_decide_eq_false hb34)
  · skip
    exact absurd rfl (of_decide_eq_false hb29)
end Go.Proofs.Ytnfnjnaheckdbaa

