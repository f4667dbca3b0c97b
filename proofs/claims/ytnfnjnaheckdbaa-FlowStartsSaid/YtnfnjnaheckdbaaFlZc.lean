import Derived.Test.YtnfnjnaheckdbaaFlZb
/-
  The law FlowRepeats: Repeat is the reference's.
-/
namespace Go.Proofs.Ytnfnjnaheckdbaa
open Go.Vm Go.Fl
theorem plainTry_3 : plainFn Try.prog 3 = true := by kernel_rfl

theorem repA_take {n : Int} {L : List LZ} : repA n (L.take 12) = repA n L := by
  by_cases h : L.length ≤ 12
  · rw [List.take_of_length_le h]
  · have h1 : validB n L = false := by
      unfold validB; rw [decide_eq_false (show ¬ L.length ≤ 10 by omega)]; simp
    have h2 : validB n (L.take 12) = false := by
      unfold validB; rw [decide_eq_false (show ¬ (L.take 12).length ≤ 10 by rw [List.length_take]; omega)]; simp
    rw [repA_bad h1, repA_bad h2]
theorem rpD_take {n : Int} {L : List LZ} : rpD n (L.take 12) = rpD n L := by unfold rpD; rw [repA_take]
theorem rrD_ints (n : Int) (L : List LZ) : Ints (rrD n L) (rpI n L) := by
  unfold rrD rpI
  split
  · have : Ints (.sl ((List.range n.toNat).map fun i => DI ((repA n L).1 i : Int)) ((List.range n.toNat).map fun i => ((repA n L).1 i : Int)).length (some n.toNat)) ((List.range n.toNat).map fun i => ((repA n L).1 i : Int)) := .sl (by simp) fun i c x hc hx => by
      by_cases hi : i < n.toNat
      · simp [hi] at hc hx; subst hc hx; rfl
      · simp [hi] at hc
    have e : ((List.range n.toNat).map fun i => ((repA n L).1 i : Int)).length = n.toNat := by simp
    rw [e] at this
    exact this
  · exact .nil
set_option maxRecDepth 10000 in
theorem repeats {d : DV} {n : Int} {L : List LZ} (hd : Lks d L) (hl : L.length ≤ 9223372036854775807) : DeepCall Try.prog 3 [.agg [DI n, d]] (DB true) := by
  have hlt : (L.take 12).length ≤ 9223372036854775807 := by rw [List.length_take]; omega
  have hrep := repeat_any (n := n) (lkD_lks (L.take 12)) hlt
  rw [rpD_take, repA_take] at hrep
  refine deepCall_K 5 Try.func3 rfl (Nat.le_of_ble_eq_true rfl) fun M W0 => ?_
  refine KC.seq ?_
  refine KC.region ?_
  refine KT.step rfl rfl (K.box rfl) ?_
  refine KT.step rfl rfl (K.assign rfl) ?_
  refine KT.nil ?_
  refine thenK_n ?_
  refine KC.seq ?_
  refine KC.region ?_
  refine KT.step rfl rfl (K.loadOA ([DI n, d]) rfl rfl (by decide) Try.agg24 Try.size24 rfl) ?_
  refine KT.step rfl rfl (K.call1 rfl plainTry_19 (of19 hd hl)) ?_
  refine KT.step rfl rfl (K.call1 rfl plainTry_18 (hrep)) ?_
  refine KT.step rfl rfl (K.move rfl) ?_
  refine KT.step rfl rfl (K.extract rfl rfl) ?_
  refine KT.step rfl rfl (K.extract rfl rfl) ?_
  refine KT.step rfl rfl (K.assign rfl) ?_
  refine KT.step rfl rfl (K.assign rfl) ?_
  refine KT.nil ?_
  refine thenK_n ?_
  refine KC.seq ?_
  refine KC.region ?_
  refine KT.step rfl rfl (K.loadOA ([DI n, d]) rfl rfl (by decide) Try.agg24 Try.size24 rfl) ?_
  refine KT.step rfl rfl (K.call1 rfl plainTry_20 (rrepeat20 hd hl)) ?_
  refine KT.step rfl rfl (K.move rfl) ?_
  refine KT.step rfl rfl (K.extract rfl rfl) ?_
  refine KT.step rfl rfl (K.extract rfl rfl) ?_
  refine KT.step rfl rfl (K.assign rfl) ?_
  refine KT.step rfl rfl (K.assign rfl) ?_
  refine KT.nil ?_
  refine thenK_n ?_
  refine KC.seq ?_
  refine KC.region ?_
  refine KT.step rfl rfl (K.move rfl) ?_
  refine KT.step rfl rfl (K.move rfl) ?_
  refine KT.step rfl rfl (K.call2 rfl rfl plainTry_21 (equal21 (rpD_ints _ _) (rrD_ints _ _) (rpI_len _ _))) ?_
  refine KT.step rfl rfl (K.move rfl) ?_
  refine KT.bcase (fun hb21 => ?_) (fun hb21 => ?_)
  · skip
    refine KT.step rfl rfl (K.move rfl) ?_
    refine KT.step rfl rfl (K.move rfl) ?_
    refine KT.step rfl rfl (K.eql rfl rfl) ?_
    refine KT.step rfl rfl (K.pick rfl (fun _ => rfl) (fun h => by cases h)) ?_
    refine KT.step rfl rfl (K.move rfl) ?_
    refine KT.bcase (fun hb26 => ?_) (fun hb26 => ?_)
    · skip
      replace hb26 := of_decide_eq_true hb26
      refine KT.step rfl rfl (K.call0 plainTry_22 (awake22)) ?_
      refine KT.step rfl rfl (K.pick rfl (fun _ => rfl) (fun h => by cases h)) ?_
      refine KT.step rfl rfl (K.assign rfl) ?_
      refine KT.nil ?_
      refine thenK_n ?_
      refine KC.ret ?_
      exact ⟨.inl rfl, _, rfl, rfl⟩
    · skip
      exact absurd rfl (of_decide_eq_false hb26)
  · skip
    exact absurd rfl (of_decide_eq_false hb21)
end Go.Proofs.Ytnfnjnaheckdbaa

