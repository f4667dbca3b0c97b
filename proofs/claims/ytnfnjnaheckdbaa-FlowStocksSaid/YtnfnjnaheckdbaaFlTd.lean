import Derived.Test.YtnfnjnaheckdbaaFlTc
/-
  Dataflow graphs: Starts of the program.
-/
namespace Go.Proofs.Ytnfnjnaheckdbaa
open Go.Vm Go.Fl
theorem plainTry_32 : plainFn Try.prog 32 = true := by kernel_rfl

def tmB (tm : List Int) (n pe : Int) : Bool := decide ((tm.length : Int) = n) && tm.all okTm && decide (1 ≤ pe) && decide (pe ≤ 20)
theorem tmB_iff {tm : List Int} {n pe : Int} : tmB tm n pe = true ↔ (tm.length : Int) = n ∧ tm.all okTm = true ∧ 1 ≤ pe ∧ pe ≤ 20 := by
  simp only [tmB, Bool.and_eq_true, decide_eq_true_eq]
  constructor
  · rintro ⟨⟨⟨a, b⟩, c⟩, d⟩; exact ⟨a, b, c, d⟩
  · rintro ⟨a, b, c, d⟩; exact ⟨⟨⟨a, b⟩, c⟩, d⟩
/-- When all firings begin, and the error. -/
def stA (n : Int) (L : List LZ) (tm : List Int) (pe : Int) : Sts × Int :=
  if tmB tm n pe = true then
    (if (scA n L).2 = 0 then (if 400 < tot (repA n L).1 * pe.toNat then (fun _ => [], 3) else (runS (L.map toN) tm (seqP pe.toNat ((scA n L).1.map Int.toNat)), 0))
    else (fun _ => [], (scA n L).2))
  else (fun _ => [], 2)
def stR (n : Int) (L : List LZ) (tm : List Int) (pe : Int) : DV := if (stA n L tm pe).2 = 0 then stD n.toNat (stA n L tm pe).1 else Dnil
theorem okTm_all {tm : List Int} (h : tm.all okTm = true) : ∀ v ∈ tm, 0 ≤ v ∧ v ≤ 100 := fun v hv => by
  have := List.all_eq_true.1 h v hv
  simpa [okTm] using this
theorem zs_toNat (s : List Nat) : (zs s).map Int.toNat = s := by
  rw [List.map_map]
  have : Int.toNat ∘ (fun (a : Nat) => (a : Int)) = id := by funext a; simp
  rw [this, List.map_id]
/-- A valid graph with a first schedule. -/
theorem sc_of {n : Int} {L : List LZ} (h : (scA n L).2 = 0) : ∃ (N : Nat) (Ln : List LN) (q : Nat → Nat) (s : List Nat), n = (N : Int) ∧ L = Ln.map LN.z ∧ RepG N Ln q ∧ first0 Ln N q = some s ∧ scA n L = (zs s, 0) := by
  have h0 : (repA n L).2 = 0 := by
    refine Classical.byContradiction fun hn => ?_
    have e : scA n L = ([], (repA n L).2) := by unfold scA; rw [if_neg hn]
    rw [e] at h; exact hn h
  obtain ⟨N, Ln, q, h1, h2, hr⟩ := repG_of h0
  subst h1 h2
  have e : scA (N : Int) (Ln.map LN.z) = match first0 Ln N q with | some s => (zs s, 0) | none => ([], 8) := by
    unfold scA; rw [if_pos h0, toN_z, hr.r]; rfl
  cases hf : first0 Ln N q with
  | none => rw [e, hf] at h; cases h
  | some s => exact ⟨N, Ln, q, s, rfl, rfl, hr, hf, by rw [e, hf]⟩
/-- What scheduled returns. -/
theorem scheduled_any {d : DV} {n : Int} {L : List LZ} (hd : Lks d L) (hl : L.length ≤ 9223372036854775807) : ∃ w : Nat → Nat, (∀ i, w i ≤ 604661760000000000) ∧ ((scA n L).2 = 0 → w = (repA n L).1) ∧ DeepCall Try.prog 48 [.agg [DI n, d]] (.tup [.agg (wN w), lsD (scA n L).1, DI (scA n L).2]) := by
  by_cases h : (repA n L).2 = 0
  · obtain ⟨N, Ln, q, h1, h2, hr⟩ := repG_of h
    subst h1 h2
    have e : scA (N : Int) (Ln.map LN.z) = match first0 Ln N q with | some s => (zs s, 0) | none => ([], 8) := by
      unfold scA; rw [if_pos h, toN_z, hr.r]; rfl
    rw [e]
    cases hf : first0 Ln N q with
    | none => exact ⟨fun _ => 0, (fun _ => Nat.zero_le _), (fun h => by cases h), scheduled48_no hd hr hf⟩
    | some s => exact ⟨q, hr.rep.le, fun _ => by rw [hr.r], scheduled48_ok hd hr hf⟩
  · have e : scA n L = ([], (repA n L).2) := by unfold scA; rw [if_neg h]
    rw [e]
    exact ⟨fun _ => 0, (fun _ => Nat.zero_le _), (fun h' => absurd h' h), scheduled48_err hd hl h⟩
set_option maxRecDepth 10000 in
theorem startsOf32 {d td : DV} {n pe : Int} {L : List LZ} {tm : List Int} (hd : Lks d L) (hl : L.length ≤ 9223372036854775807) (htd : Ints td tm) (htl : tm.length ≤ 9223372036854775807) : DeepCall Try.prog 32 [.agg [DI n, d], td, DI pe] (.tup [stR n L tm pe, DI (stA n L tm pe).2]) := by
  obtain ⟨w, hw, hw2, hsc⟩ := scheduled_any (n := n) hd hl
  refine deepCall_K 5 Try.func32 rfl (Nat.le_of_ble_eq_true rfl) fun M W0 => ?_
  refine KC.seq ?_
  refine KC.region ?_
  refine KT.step rfl rfl (K.box rfl) ?_
  refine KT.step rfl rfl (K.assign rfl) ?_
  refine KT.step rfl rfl (K.assign rfl) ?_
  refine KT.nil ?_
  refine thenK_n ?_
  refine KC.seq ?_
  refine KC.seq ?_
  refine KC.region ?_
  refine KT.step rfl rfl (K.move rfl) ?_
  refine KT.step rfl rfl (K.fieldAddrO rfl Try.fld31_0 Try.size3) ?_
  refine KT.step rfl rfl (K.loadO rfl rfl (by simp) rfl Try.agg3) ?_
  refine KT.step rfl rfl (K.call2 rfl rfl plainTry_58 (validTimes58 htd htl)) ?_
  refine KT.step rfl rfl (K.not rfl) ?_
  refine KT.step rfl rfl (K.move rfl) ?_
  refine KT.bcase (fun hb16 => ?_) (fun hb16 => ?_)
  · skip
    refine KT.skip rfl rfl ?_
    refine KT.skip rfl rfl ?_
    refine KT.step rfl rfl (K.pick rfl (fun _ => rfl) (fun h => by cases h)) ?_
    refine KT.step rfl rfl (K.move rfl) ?_
    refine KT.skip rfl rfl ?_
    refine KT.skip rfl rfl ?_
    refine KT.step rfl rfl (K.pick rfl (fun _ => rfl) (fun h => by cases h)) ?_
    refine KT.nil ?_
    refine thenK_n ?_
    refine KC.cond rfl (fun hc23 => ?_) (fun hc23 => ?_)
    · skip
      refine KC.seq ?_
      refine KC.region ?_
      refine KT.step rfl rfl (K.assign rfl) ?_
      refine KT.step rfl rfl (K.assign rfl) ?_
      refine KT.nil ?_
      refine thenK_n ?_
      refine KC.ret ?_
      refine thenK_r ?_
      have e : tmB tm n pe = false := by
        refine Bool.eq_false_iff.2 fun hv => ?_
        obtain ⟨a1, a2, a3, a4⟩ := tmB_iff.1 hv
        rw [decide_eq_true a1, a2] at hb16; cases hb16
      have e2 : stA n L tm pe = (fun _ => [], 2) := by unfold stA; rw [if_neg (by rw [e]; simp)]
      unfold stR
      rw [e2]
      exact ⟨.inl rfl, _, rfl, rfl⟩
    · cases hc23
  · skip
    refine KT.step rfl rfl (K.move rfl) ?_
    refine KT.step rfl rfl (K.lss rfl rfl) ?_
    refine KT.step rfl rfl (K.pick rfl (fun h => by cases h) (fun _ => rfl)) ?_
    refine KT.step rfl rfl (K.move rfl) ?_
    refine KT.bcase (fun hb20 => ?_) (fun hb20 => ?_)
    · skip
      replace hb20 := of_decide_eq_true hb20
      refine KT.skip rfl rfl ?_
      refine KT.skip rfl rfl ?_
      refine KT.step rfl rfl (K.pick rfl (fun _ => rfl) (fun h => by cases h)) ?_
      refine KT.nil ?_
      refine thenK_n ?_
      refine KC.cond rfl (fun hc23 => ?_) (fun hc23 => ?_)
      · skip
        refine KC.seq ?_
        refine KC.region ?_
        refine KT.step rfl rfl (K.assign rfl) ?_
        refine KT.step rfl rfl (K.assign rfl) ?_
        refine KT.nil ?_
        refine thenK_n ?_
        refine KC.ret ?_
        refine thenK_r ?_
        have e : tmB tm n pe = false := by
          refine Bool.eq_false_iff.2 fun hv => ?_
          obtain ⟨a1, a2, a3, a4⟩ := tmB_iff.1 hv
          omega
        have e2 : stA n L tm pe = (fun _ => [], 2) := by unfold stA; rw [if_neg (by rw [e]; simp)]
        unfold stR
        rw [e2]
        exact ⟨.inl rfl, _, rfl, rfl⟩
      · cases hc23
    · skip
      replace hb20 := of_decide_eq_false hb20
      refine KT.step rfl rfl (K.move rfl) ?_
      refine KT.step rfl rfl (K.gtr rfl rfl) ?_
      refine KT.step rfl rfl (K.pick rfl (fun h => by cases h) (fun _ => rfl)) ?_
      refine KT.nil ?_
      refine thenK_n ?_
      refine KC.cond rfl (fun hc23 => ?_) (fun hc23 => ?_)
      · skip
        replace hc23 := of_decide_eq_true hc23
        refine KC.seq ?_
        refine KC.region ?_
        refine KT.step rfl rfl (K.assign rfl) ?_
        refine KT.step rfl rfl (K.assign rfl) ?_
        refine KT.nil ?_
        refine thenK_n ?_
        refine KC.ret ?_
        refine thenK_r ?_
        have e : tmB tm n pe = false := by
          refine Bool.eq_false_iff.2 fun hv => ?_
          obtain ⟨a1, a2, a3, a4⟩ := tmB_iff.1 hv
          omega
        have e2 : stA n L tm pe = (fun _ => [], 2) := by unfold stA; rw [if_neg (by rw [e]; simp)]
        unfold stR
        rw [e2]
        exact ⟨.inl rfl, _, rfl, rfl⟩
      · skip
        replace hc23 := of_decide_eq_false hc23
        refine KC.skip ?_
        refine thenK_n ?_
        refine KC.seq ?_
        refine KC.region ?_
        refine KT.step rfl rfl (K.loadOA ([DI n, d]) rfl rfl (by decide) Try.agg31 Try.size31 rfl) ?_
        refine KT.step rfl rfl (K.call1 rfl plainTry_48 (hsc)) ?_
        refine KT.step rfl rfl (K.move rfl) ?_
        refine KT.step rfl rfl (K.extract rfl rfl) ?_
        refine KT.step rfl rfl (K.extract rfl rfl) ?_
        refine KT.step rfl rfl (K.extract rfl rfl) ?_
        refine KT.step rfl rfl (K.alloc Try.zero75) ?_
        refine KT.storeH (cs := wX w) rfl rfl rfl rfl rfl rfl (by simp [wN, Value.cells]) (by simp [wN, oneX, Value.oneCell']) Try.size75 fun σ1 l1 u1 v1 => ?_
        replace u1 := u1.trans (congrArg (fun c => some (VObj.mk c 0)) (splice_all (by simp [wN, Value.cells])))
        try simp only [List.length_append, List.length_cons, List.length_nil] at l1
        have y0 := (v1 (0) (by simp)).trans (show _ = some (⟨[.d (DI n), .d d], 0⟩ : VObj) from rfl)
        refine KT.step rfl rfl (K.assign rfl) ?_
        refine KT.step rfl rfl (K.assign rfl) ?_
        refine KT.nil ?_
        refine thenK_n ?_
        refine KC.seq ?_
        refine KC.seq ?_
        refine KC.region ?_
        refine KT.step rfl rfl (K.move rfl) ?_
        refine KT.step rfl rfl (K.neq rfl rfl) ?_
        refine KT.nil ?_
        refine thenK_n ?_
        refine KC.cond rfl (fun hc31 => ?_) (fun hc31 => ?_)
        · skip
          replace hc31 := of_decide_eq_true hc31
          refine KC.seq ?_
          refine KC.region ?_
          refine KT.step rfl rfl (K.move rfl) ?_
          refine KT.step rfl rfl (K.assign rfl) ?_
          refine KT.step rfl rfl (K.assign rfl) ?_
          refine KT.nil ?_
          refine thenK_n ?_
          refine KC.ret ?_
          refine thenK_r ?_
          have e : tmB tm n pe = true := by
            have h2 : (decide ((tm.length : Int) = n) && tm.all okTm) = true := by simpa using hb16
            rw [Bool.and_eq_true, decide_eq_true_eq] at h2
            exact tmB_iff.2 ⟨h2.1, h2.2, by omega, by omega⟩
          have e2 : stA n L tm pe = (fun _ => [], (scA n L).2) := by unfold stA; rw [if_pos e, if_neg hc31]
          unfold stR
          rw [e2]
          refine ⟨.inl rfl, _, rfl, ?_⟩
          show _ = some (DV.tup [if (scA n L).2 = 0 then _ else Dnil, DI (scA n L).2])
          rw [if_neg hc31]; rfl
        · skip
          replace hc31 := of_decide_eq_false hc31
          have hs0 : (scA n L).2 = 0 := Classical.not_not.1 hc31
          obtain ⟨N, Ln, q, s, h1, h2, hr, hf, hse⟩ := sc_of hs0
          have hwq : w = q := by
            rw [hw2 hs0]; subst h1 h2; rw [hr.r]
          subst hwq
          have hpe : ((pe.toNat : Nat) : Int) = pe := by omega
          have hsum := hr.sum
          have hmb : tot w * pe.toNat ≤ 60 * 20 := Nat.mul_le_mul hsum (by omega)
          have hmul : IntKind.i64.wrap ((tot w : Int) * pe) = ((tot w * pe.toNat : Nat) : Int) := by
            rw [← hpe, ← Int.natCast_mul, Int.toNat_natCast]; exact wrapN (by omega)
          have hrw : (repA n L).1 = w := (hw2 hs0).symm
          refine KC.skip ?_
          refine thenK_n ?_
          refine KC.seq ?_
          refine KC.seq ?_
          refine KC.region ?_
          refine KT.step rfl rfl (K.loadOA (wN w) rfl u1 (by decide) Try.agg75 Try.size75 rfl) ?_
          refine KT.step rfl rfl (K.call1 rfl plainTry_54 (sum54 hw)) ?_
          refine KT.step rfl rfl (K.move rfl) ?_
          refine KT.step rfl rfl (K.mul rfl rfl hmul) ?_
          refine KT.step rfl rfl (K.gtr rfl rfl) ?_
          refine KT.nil ?_
          refine thenK_n ?_
          refine KC.cond rfl (fun hc37 => ?_) (fun hc37 => ?_)
          · skip
            replace hc37 := of_decide_eq_true hc37
            rw [← hrw] at hc37
            refine KC.seq ?_
            refine KC.region ?_
            refine KT.step rfl rfl (K.assign rfl) ?_
            refine KT.step rfl rfl (K.assign rfl) ?_
            refine KT.nil ?_
            refine thenK_n ?_
            refine KC.ret ?_
            refine thenK_r ?_
            have e : tmB tm n pe = true := by
              have h2 : (decide ((tm.length : Int) = n) && tm.all okTm) = true := by simpa using hb16
              rw [Bool.and_eq_true, decide_eq_true_eq] at h2
              exact tmB_iff.2 ⟨h2.1, h2.2, by omega, by omega⟩
            have e2 : stA n L tm pe = (fun _ => [], 3) := by unfold stA; rw [if_pos e, if_pos (Classical.not_not.1 hc31), if_pos (by omega)]
            unfold stR
            rw [e2]
            exact ⟨.inl rfl, _, rfl, rfl⟩
          · skip
            replace hc37 := of_decide_eq_false hc37
            have e : tmB tm n pe = true := by
              have h2 : (decide ((tm.length : Int) = n) && tm.all okTm) = true := by simpa using hb16
              rw [Bool.and_eq_true, decide_eq_true_eq] at h2
              exact tmB_iff.2 ⟨h2.1, h2.2, by omega, by omega⟩
            have e2 : stA n L tm pe = (runS Ln tm (seqP pe.toNat s), 0) := by
              unfold stA
              rw [if_pos e, if_pos hs0, if_neg (by rw [hrw]; omega), hse]
              simp only
              rw [zs_toNat, h2, toN_z]
            obtain ⟨a1, a2, a3, a4⟩ := tmB_iff.1 e
            have hst := starts59 (by rw [← h2]; exact hd) hr hf htd (by omega) (okTm_all a2) a3 (by omega)
            have e3 : (scA n L).1 = zs s := by rw [hse]
            rw [← h1, ← e3] at hst
            have hres : stR n L tm pe = stD N (runS Ln tm (seqP pe.toNat s)) := by
              unfold stR; rw [e2, h1]; rfl
            rw [e2]
            refine KC.skip ?_
            refine thenK_n ?_
            refine KC.seq ?_
            refine KC.region ?_
            refine KT.step rfl rfl (K.loadOA ([DI n, d]) rfl y0 (by decide) Try.agg31 Try.size31 rfl) ?_
            refine KT.step rfl rfl (K.move rfl) ?_
            refine KT.step rfl rfl (K.move rfl) ?_
            refine KT.step rfl rfl (K.move rfl) ?_
            refine KT.step rfl rfl (K.call4 rfl rfl rfl rfl plainTry_59 (hst)) ?_
            refine KT.step rfl rfl (K.assign rfl) ?_
            refine KT.step rfl rfl (K.assign rfl) ?_
            refine KT.nil ?_
            refine thenK_n ?_
            refine KC.ret ?_
            exact ⟨.inl rfl, _, rfl, by rw [hres]; rfl⟩
end Go.Proofs.Ytnfnjnaheckdbaa

