/-
  The law FlowLater: no firing begins earlier than a period before.
-/
import Derived.Test.YtnfnjnaheckdbaaFlTe
namespace Go.Proofs.Ytnfnjnaheckdbaa
open Go.Vm Go.Fl
theorem plainTry_12 : plainFn Try.prog 12 = true := by kernel_rfl
set_option maxRecDepth 10000 in
theorem later_err {d td : DV} {n pe : Int} {L : List LZ} {tm : List Int} (hd : Lks d L) (hl : L.length ≤ 9223372036854775807) (htd : Ints td tm) (htl : tm.length ≤ 9223372036854775807) (hE : (stA n (L.take 12) tm pe).2 ≠ 0) : DeepCall Try.prog 12 [.agg [DI n, d], td, DI pe] (DB true) := by
  have hlt : (L.take 12).length ≤ 9223372036854775807 := by rw [List.length_take]; omega
  refine deepCall_K 5 Try.func12 rfl (Nat.le_of_ble_eq_true rfl) fun M W0 => ?_
  refine KC.seq ?_
  refine KC.region ?_
  refine KT.step rfl rfl (K.box rfl) ?_
  refine KT.step rfl rfl (K.assign rfl) ?_
  refine KT.nil ?_
  refine thenK_n ?_
  refine KC.seq ?_
  refine KC.region ?_
  refine KT.step rfl rfl (K.loadOA ([DI n, d]) rfl rfl (by decide) Try.agg24 Try.size24 rfl) ?_
  refine KT.step rfl rfl (K.call1 rfl plainTry_19 (of19 hd hl)) ?_
  refine KT.step rfl rfl (K.move rfl) ?_
  refine KT.step rfl rfl (K.move rfl) ?_
  refine KT.step rfl rfl (K.call3 rfl rfl rfl plainTry_32 (startsOf32 (lkD_lks _) hlt htd htl)) ?_
  refine KT.step rfl rfl (K.move rfl) ?_
  refine KT.step rfl rfl (K.extract rfl rfl) ?_
  refine KT.step rfl rfl (K.extract rfl rfl) ?_
  refine KT.step rfl rfl (K.assign rfl) ?_
  refine KT.step rfl rfl (K.assign rfl) ?_
  refine KT.nil ?_
  refine thenK_n ?_
  refine KC.seq ?_
  refine KC.region ?_
  refine KT.step rfl rfl (K.loadOA ([DI n, d]) rfl rfl (by decide) Try.agg24 Try.size24 rfl) ?_
  refine KT.step rfl rfl (K.call1 rfl plainTry_19 (of19 hd hl)) ?_
  refine KT.step rfl rfl (K.call1 rfl plainTry_18 (repeat_any (lkD_lks _) hlt)) ?_
  refine KT.step rfl rfl (K.move rfl) ?_
  refine KT.step rfl rfl (K.extract rfl rfl) ?_
  refine KT.step rfl rfl (K.extract rfl rfl) ?_
  refine KT.step rfl rfl (K.assign rfl) ?_
  refine KT.step rfl rfl (K.assign rfl) ?_
  refine KT.nil ?_
  refine thenK_n ?_
  refine KC.seq ?_
  refine KC.seq ?_
  refine KC.region ?_
  refine KT.step rfl rfl (K.move rfl) ?_
  refine KT.step rfl rfl (K.neq rfl rfl) ?_
  refine KT.step rfl rfl (K.move rfl) ?_
  refine KT.bcase (fun hb32 => ?_) (fun hb32 => ?_)
  · skip
    replace hb32 := of_decide_eq_true hb32
    refine KT.skip rfl rfl ?_
    refine KT.skip rfl rfl ?_
    refine KT.step rfl rfl (K.pick rfl (fun _ => rfl) (fun h => by cases h)) ?_
    refine KT.nil ?_
    refine thenK_n ?_
    refine KC.cond rfl (fun hc35 => ?_) (fun hc35 => ?_)
    · skip
      refine KC.seq ?_
      refine KC.region ?_
      refine KT.step rfl rfl (K.move rfl) ?_
      refine KT.step rfl rfl (K.neq rfl rfl) ?_
      refine KT.step rfl rfl (K.move rfl) ?_
      refine KT.bcase (fun hb38 => ?_) (fun hb38 => ?_)
      · skip
        replace hb38 := of_decide_eq_true hb38
        refine KT.step rfl rfl (K.call0 plainTry_22 (awake22)) ?_
        refine KT.step rfl rfl (K.pick rfl (fun _ => rfl) (fun h => by cases h)) ?_
        refine KT.step rfl rfl (K.assign rfl) ?_
        refine KT.nil ?_
        refine thenK_n ?_
        refine KC.ret ?_
        refine thenK_r ?_
        exact ⟨.inl rfl, _, rfl, rfl⟩
      · skip
        exact absurd hE (of_decide_eq_false hb38)
    · cases hc35
  · skip
    exact absurd hE (of_decide_eq_false hb32)
set_option maxHeartbeats 1600000 in
set_option maxRecDepth 10000 in
theorem later_main {d td : DV} {N : Nat} {pe : Int} {L : List LN} {q : Nat → Nat} {s : List Nat} {tm : List Int} (hd : Lks d (L.map LN.z)) (hr : RepG N L q) (h12 : (L.map LN.z).take 12 = L.map LN.z) (htd : Ints td tm) (htl : tm.length ≤ 9223372036854775807) (hf : first0 L N q = some s) (hsc : scA (N : Int) (L.map LN.z) = (zs s, 0)) (htm : tmB tm (N : Int) pe = true)
    (hE : (stA (N : Int) (L.map LN.z) tm pe).2 = 0) (hR : stR (N : Int) (L.map LN.z) tm pe = stD N (runS L tm (seqP pe.toNat s))) : DeepCall Try.prog 12 [.agg [DI (N : Nat), d], td, DI pe] (DB true) := by
  have hl : (L.map LN.z).length ≤ 9223372036854775807 := by have := hr.len; rw [List.length_map]; omega
  have hof := of19 (n := (N : Int)) hd hl
  unfold ofD at hof
  rw [h12] at hof
  obtain ⟨_, _, hp1, hp20⟩ := tmB_iff.1 htm
  have hpe : ((pe.toNat : Nat) : Int) = pe := by omega
  have hst1 := startsOf32 (n := (N : Int)) (pe := pe) (lkD_lks (L.map LN.z)) hl htd htl
  rw [hR, hE] at hst1
  have h1 := hr.n1
  have h6 := hr.n6
  have hcnt : ∀ j, j < N → ((runS L tm (seqP pe.toNat s)) j).length = q j * pe.toNat := fun j hj => runS_cnt hr hf pe.toNat hj
  have hrise := runS_rise L tm (seqP pe.toNat s)
  obtain ⟨bD, h2, hst2, hcode, hpre⟩ : ∃ bD h2, DeepCall Try.prog 32 [.agg [DI (N : Nat), lkD (L.map LN.z)], td, DI (pe + 1)] (.tup [bD, DI h2]) ∧ (h2 = 0 ∨ h2 = 2 ∨ h2 = 3) ∧ (h2 = 0 → ∃ st' : Sts, bD = stD N st' ∧ ∀ j, ∃ r, st' j = (runS L tm (seqP pe.toNat s)) j ++ r) := by
    refine ⟨_, _, startsOf32 (n := (N : Int)) (pe := pe + 1) (lkD_lks (L.map LN.z)) hl htd htl, stA_codes (by rw [hsc]), fun h0 => ?_⟩
    obtain ⟨N', Ln', q', s', e1, e2, hr', hf', hse', _, _, hR'⟩ := stA_ok h0
    obtain rfl : N = N' := by omega
    obtain rfl : L = Ln' := by rw [← toN_z L, e2, toN_z]
    obtain rfl := hr.inj hr'
    rw [hf] at hf'; cases hf'
    refine ⟨_, hR', fun j => ?_⟩
    rw [show (pe + 1).toNat = pe.toNat + 1 by omega]
    exact runS_more L tm (seqP pe.toNat s) s j
  generalize hstE : (runS L tm (seqP pe.toNat s)) = st at hcnt hrise hst1 hpre
  refine deepCall_K 5 Try.func12 rfl (Nat.le_of_ble_eq_true rfl) fun M W0 => ?_
  refine KC.seq ?_
  refine KC.region ?_
  refine KT.step rfl rfl (K.box rfl) ?_
  refine KT.step rfl rfl (K.assign rfl) ?_
  refine KT.nil ?_
  refine thenK_n ?_
  refine KC.seq ?_
  refine KC.region ?_
  refine KT.step rfl rfl (K.loadOA ([DI (N : Nat), d]) rfl rfl (by decide) Try.agg24 Try.size24 rfl) ?_
  refine KT.step rfl rfl (K.call1 rfl plainTry_19 (hof)) ?_
  refine KT.step rfl rfl (K.move rfl) ?_
  refine KT.step rfl rfl (K.move rfl) ?_
  refine KT.step rfl rfl (K.call3 rfl rfl rfl plainTry_32 (hst1)) ?_
  refine KT.step rfl rfl (K.move rfl) ?_
  refine KT.step rfl rfl (K.extract rfl rfl) ?_
  refine KT.step rfl rfl (K.extract rfl rfl) ?_
  refine KT.step rfl rfl (K.assign rfl) ?_
  refine KT.step rfl rfl (K.assign rfl) ?_
  refine KT.nil ?_
  refine thenK_n ?_
  refine KC.seq ?_
  refine KC.region ?_
  refine KT.step rfl rfl (K.loadOA ([DI (N : Nat), d]) rfl rfl (by decide) Try.agg24 Try.size24 rfl) ?_
  refine KT.step rfl rfl (K.call1 rfl plainTry_19 (hof)) ?_
  refine KT.step rfl rfl (K.call1 rfl plainTry_18 (repeat18_ok (lkD_lks _) hr)) ?_
  refine KT.step rfl rfl (K.move rfl) ?_
  refine KT.step rfl rfl (K.extract rfl rfl) ?_
  refine KT.step rfl rfl (K.extract rfl rfl) ?_
  refine KT.step rfl rfl (K.assign rfl) ?_
  refine KT.step rfl rfl (K.assign rfl) ?_
  refine KT.nil ?_
  refine thenK_n ?_
  refine KC.seq ?_
  refine KC.seq ?_
  refine KC.region ?_
  refine KT.step rfl rfl (K.move rfl) ?_
  refine KT.step rfl rfl (K.neq rfl rfl) ?_
  refine KT.step rfl rfl (K.move rfl) ?_
  refine KT.bcase (fun hb32 => ?_) (fun hb32 => ?_)
  · skip
    exact absurd rfl (of_decide_eq_true hb32)
  · skip
    replace hb32 := of_decide_eq_false hb32
    refine KT.step rfl rfl (K.move rfl) ?_
    refine KT.step rfl rfl (K.neq rfl rfl) ?_
    refine KT.step rfl rfl (K.pick rfl (fun h => by cases h) (fun _ => rfl)) ?_
    refine KT.nil ?_
    refine thenK_n ?_
    refine KC.cond rfl (fun hc35 => ?_) (fun hc35 => ?_)
    · skip
      exact absurd rfl (of_decide_eq_true hc35)
    · skip
      replace hc35 := of_decide_eq_false hc35
      refine KC.skip ?_
      refine thenK_n ?_
      refine KC.seq ?_
      refine KC.region ?_
      refine KT.step rfl rfl (K.loadOA ([DI (N : Nat), d]) rfl rfl (by decide) Try.agg24 Try.size24 rfl) ?_
      refine KT.step rfl rfl (K.call1 rfl plainTry_19 (hof)) ?_
      refine KT.step rfl rfl (K.move rfl) ?_
      refine KT.step rfl rfl (K.move rfl) ?_
      refine KT.step rfl rfl (K.add rfl rfl (wrap_id (by omega))) ?_
      refine KT.step rfl rfl (K.call3 rfl rfl rfl plainTry_32 (hst2)) ?_
      refine KT.step rfl rfl (K.move rfl) ?_
      refine KT.step rfl rfl (K.extract rfl rfl) ?_
      refine KT.step rfl rfl (K.extract rfl rfl) ?_
      refine KT.step rfl rfl (K.assign rfl) ?_
      refine KT.step rfl rfl (K.assign rfl) ?_
      refine KT.nil ?_
      refine thenK_n ?_
      refine KC.seq ?_
      refine KC.seq ?_
      refine KC.region ?_
      refine KT.step rfl rfl (K.move rfl) ?_
      refine KT.step rfl rfl (K.lenD rfl Try.underlying50) ?_
      refine KT.step rfl rfl (K.move rfl) ?_
      refine KT.step rfl rfl (K.lenD rfl Try.underlying25) ?_
      refine KT.step rfl rfl (K.neq rfl rfl) ?_
      refine KT.step rfl rfl (K.move rfl) ?_
      refine KT.bcase (fun hb55 => ?_) (fun hb55 => ?_)
      · skip
        exact absurd rfl (of_decide_eq_true hb55)
      · skip
        replace hb55 := of_decide_eq_false hb55
        refine KT.step rfl rfl (K.move rfl) ?_
        refine KT.step rfl rfl (K.neq rfl rfl) ?_
        refine KT.step rfl rfl (K.move rfl) ?_
        refine KT.bcase (fun hb58 => ?_) (fun hb58 => ?_)
        · skip
          replace hb58 := of_decide_eq_true hb58
          refine KT.step rfl rfl (K.move rfl) ?_
          refine KT.step rfl rfl (K.neq rfl rfl) ?_
          refine KT.step rfl rfl (K.pick rfl (fun _ => rfl) (fun h => by cases h)) ?_
          refine KT.step rfl rfl (K.move rfl) ?_
          refine KT.bcase (fun hb62 => ?_) (fun hb62 => ?_)
          · skip
            replace hb62 := of_decide_eq_true hb62
            refine KT.step rfl rfl (K.move rfl) ?_
            refine KT.step rfl rfl (K.neq rfl rfl) ?_
            refine KT.step rfl rfl (K.pick rfl (fun _ => rfl) (fun h => by cases h)) ?_
            refine KT.step rfl rfl (K.pick rfl (fun h => by cases h) (fun _ => rfl)) ?_
            refine KT.step rfl rfl (K.move rfl) ?_
            refine KT.bcase (fun hb67 => ?_) (fun hb67 => ?_)
            · skip
              exfalso; replace hb67 := of_decide_eq_true hb67; omega
            · skip
              replace hb67 := of_decide_eq_false hb67
              refine KT.step rfl rfl (K.move rfl) ?_
              refine KT.step rfl rfl (K.eql rfl rfl) ?_
              refine KT.step rfl rfl (K.move rfl) ?_
              refine KT.bcase (fun hb70 => ?_) (fun hb70 => ?_)
              · skip
                replace hb70 := of_decide_eq_true hb70
                obtain ⟨st2, hbD, hpf⟩ := hpre hb70
                rw [hbD]
                refine KT.step rfl rfl (K.move rfl) ?_
                refine KT.step rfl rfl (K.lenD rfl Try.underlying50) ?_
                refine KT.step rfl rfl (K.move rfl) ?_
                refine KT.step rfl rfl (K.lenD rfl Try.underlying50) ?_
                refine KT.step rfl rfl (K.neq rfl rfl) ?_
                refine KT.step rfl rfl (K.pick rfl (fun _ => rfl) (fun h => by cases h)) ?_
                refine KT.step rfl rfl (K.pick rfl (fun h => by cases h) (fun _ => rfl)) ?_
                refine KT.nil ?_
                refine thenK_n ?_
                refine KC.cond rfl (fun hc77 => ?_) (fun hc77 => ?_)
                · skip
                  exact absurd rfl (of_decide_eq_true hc77)
                · skip
                  replace hc77 := of_decide_eq_false hc77
                  refine KC.skip ?_
                  refine thenK_n ?_
                  refine KC.seq ?_
                  refine KC.seq ?_
                  refine KC.region ?_
                  refine KT.step rfl rfl (K.move rfl) ?_
                  refine KT.step rfl rfl (K.lenD rfl Try.underlying50) ?_
                  refine KT.step rfl rfl (K.move rfl) ?_
                  refine KT.nil ?_
                  refine thenK_n ?_
                  refine KC.block ?_
                  refine KC.loop (fun _ : Nat => [⟨[.d (DI (N : Nat)), .d d], 0⟩]) (fun i => [(2, .d (DI pe)), (7, .d (stD N st)), (9, .d (seqD q N)), (11, .d bD), (12, .d (DI h2)), (78, .d (stD N st)), (79, .d (DI (N : Nat))), (80, .d (DI (i : Nat)))]) (fun i => i ≤ N) (fun i => N - i) 0 (Nat.zero_le _) rfl (by first | (simp [Go.Vm.look, extK, enterK]; done) | (simp [Go.Vm.look, extK, enterK, hbD]; done)) ?_
                  intro i hi
                  refine KC.seq ?_
                  refine KC.region ?_
                  refine KT.step rfl rfl (K.lss rfl rfl) ?_
                  refine KT.nil ?_
                  refine thenK_n ?_
                  refine KC.seq ?_
                  refine KC.cond rfl (fun hc81 => ?_) (fun hc81 => ?_)
                  · skip
                    replace hc81 := of_decide_eq_true hc81
                    have hil : i < N := by omega
                    have hli := lsD_ints (st i)
                    have hq60 := hr.le i
                    have hmb : q i * pe.toNat ≤ 60 * 20 := Nat.mul_le_mul hq60 (by omega)
                    have hmul : IntKind.i64.wrap ((q i : Int) * pe) = ((q i * pe.toNat : Nat) : Int) := by
                      rw [← hpe, ← Int.natCast_mul, Int.toNat_natCast]; exact wrapN (by omega)
                    have hci := hcnt i hil
                    refine KC.skip ?_
                    refine thenK_n ?_
                    refine KC.seq ?_
                    refine KC.block ?_
                    refine KC.seq ?_
                    refine KC.region ?_
                    refine KT.step rfl rfl (K.move rfl) ?_
                    refine KT.step rfl rfl (K.idxDK rfl rfl hil Try.underlying50 Try.size25) ?_
                    refine KT.step rfl rfl (K.loadSeq hil rfl Try.agg25) ?_
                    refine KT.step rfl rfl (K.assign rfl) ?_
                    refine KT.step rfl rfl (K.assign rfl) ?_
                    refine KT.nil ?_
                    refine thenK_n ?_
                    refine KC.seq ?_
                    refine KC.seq ?_
                    refine KC.region ?_
                    refine KT.step rfl rfl (K.move rfl) ?_
                    refine KT.step rfl rfl (K.len rfl hli Try.underlying25) ?_
                    refine KT.step rfl rfl (K.move rfl) ?_
                    refine KT.step rfl rfl (K.move rfl) ?_
                    refine KT.step rfl rfl (K.idxDK rfl rfl hil Try.underlying25 Try.size3) ?_
                    refine KT.step rfl rfl (K.loadSeq hil rfl Try.agg3) ?_
                    refine KT.step rfl rfl (K.move rfl) ?_
                    refine KT.step rfl rfl (K.mul rfl rfl hmul) ?_
                    refine KT.step rfl rfl (K.neq rfl rfl) ?_
                    refine KT.step rfl rfl (K.move rfl) ?_
                    refine KT.bcase (fun hb94 => ?_) (fun hb94 => ?_)
                    · skip
                      exfalso; replace hb94 := of_decide_eq_true hb94; rw [hcnt i hil] at hb94; exact hb94 rfl
                    · skip
                      replace hb94 := of_decide_eq_false hb94
                      refine KT.step rfl rfl (K.move rfl) ?_
                      refine KT.step rfl rfl (K.move rfl) ?_
                      refine KT.step rfl rfl (K.idxDK rfl rfl hil Try.underlying25 Try.size3) ?_
                      refine KT.step rfl rfl (K.loadSeq hil rfl Try.agg3) ?_
                      refine KT.step rfl rfl (K.lss rfl rfl) ?_
                      refine KT.step rfl rfl (K.pick rfl (fun h => by cases h) (fun _ => rfl)) ?_
                      refine KT.nil ?_
                      refine thenK_n ?_
                      refine KC.cond rfl (fun hc100 => ?_) (fun hc100 => ?_)
                      · skip
                        exfalso; replace hc100 := of_decide_eq_true hc100; have := hr.rep.pos i hil; omega
                      · skip
                        replace hc100 := of_decide_eq_false hc100
                        refine KC.skip ?_
                        refine thenK_n ?_
                        refine KC.seq ?_
                        refine KC.seq ?_
                        refine KC.region ?_
                        refine KT.step rfl rfl (K.move rfl) ?_
                        refine KT.step rfl rfl (K.move rfl) ?_
                        refine KT.step rfl rfl (K.idxDK rfl rfl hil Try.underlying25 Try.size3) ?_
                        refine KT.step rfl rfl (K.loadSeq hil rfl Try.agg3) ?_
                        refine KT.step rfl rfl (K.assign rfl) ?_
                        refine KT.nil ?_
                        refine thenK_n ?_
                        refine KC.block ?_
                        refine KC.loop (fun _ : Nat => [⟨[.d (DI (N : Nat)), .d d], 0⟩]) (fun k => [(2, .d (DI pe)), (7, .d (stD N st)), (9, .d (seqD q N)), (11, .d bD), (12, .d (DI h2)), (13, .d (DI (i : Nat))), (14, .d (lsD (st i))), (15, .d (DI (k : Nat))), (78, .d (stD N st)), (79, .d (DI (N : Nat))), (80, .d (DI (i : Nat)))]) (fun k => q i ≤ k ∧ k ≤ 1200 + 60) (fun k => (st i).length - k) (q i) ⟨Nat.le_refl _, by omega⟩ rfl (by simp [Go.Vm.look, extK, enterK]) ?_
                        intro k hk
                        obtain ⟨hk1, hk2⟩ := hk
                        refine KC.seq ?_
                        refine KC.seq ?_
                        refine KC.region ?_
                        refine KT.step rfl rfl (K.move rfl) ?_
                        refine KT.step rfl rfl (K.move rfl) ?_
                        refine KT.step rfl rfl (K.len rfl hli Try.underlying25) ?_
                        refine KT.step rfl rfl (K.lss rfl rfl) ?_
                        refine KT.nil ?_
                        refine thenK_n ?_
                        refine KC.cond rfl (fun hc108 => ?_) (fun hc108 => ?_)
                        · skip
                          replace hc108 := of_decide_eq_true hc108
                          refine KC.skip ?_
                          refine thenK_n ?_
                          refine KC.seq ?_
                          refine KC.block ?_
                          refine KC.seq ?_
                          refine KC.draw Try.mixed ?_
                          refine KT.step rfl rfl (K.move rfl) ?_
                          refine KT.step rfl rfl (K.move rfl) ?_
                          refine KT.idxI rfl rfl rfl (by assumption) rfl (by omega) Try.underlying25 Try.size3 fun cs113 => ?_
                          refine KT.step rfl rfl (K.load rfl Try.agg3) ?_
                          refine KT.step rfl rfl (K.move rfl) ?_
                          refine KT.step rfl rfl (K.move rfl) ?_
                          refine KT.step rfl rfl (K.move rfl) ?_
                          refine KT.step rfl rfl (K.move rfl) ?_
                          refine KT.step rfl rfl (K.idxDK rfl rfl hil Try.underlying25 Try.size3) ?_
                          refine KT.step rfl rfl (K.loadSeq hil rfl Try.agg3) ?_
                          refine KT.step rfl rfl (K.sub rfl rfl (show IntKind.i64.wrap ((k : Int) - (q i : Int)) = ((k - q i : Nat) : Int) from by rw [wrap_id (by omega)]; omega)) ?_
                          refine KT.idxI rfl rfl rfl (by assumption) rfl (by omega) Try.underlying25 Try.size3 fun cs122 => ?_
                          refine KT.step rfl rfl (K.load rfl Try.agg3) ?_
                          refine KT.step rfl rfl (K.lss rfl rfl) ?_
                          refine KT.nil ?_
                          refine ⟨by kernel_rfl, ?_⟩
                          refine thenK_n ?_
                          refine KC.cond rfl (fun hc124 => ?_) (fun hc124 => ?_)
                          · skip
                            exfalso; replace hc124 := of_decide_eq_true hc124; have := hrise i (k - q i) k (by omega) (by omega); rw [List.getD_eq_getElem?_getD, List.getD_eq_getElem?_getD, List.getElem?_eq_getElem (by omega), List.getElem?_eq_getElem (by omega)] at this; simp only [Option.getD_some] at this; omega
                          · skip
                            replace hc124 := of_decide_eq_false hc124
                            refine KC.skip ?_
                            refine blockK_n ?_
                            refine thenK_n ?_
                            refine KC.region ?_
                            refine KT.step rfl rfl (K.move rfl) ?_
                            refine KT.step rfl rfl (K.add rfl rfl (oneN (by omega))) ?_
                            refine KT.step rfl rfl (K.assign rfl) ?_
                            refine KT.nil ?_
                            refine thenK_n ?_
                            exact ⟨k + 1, ⟨by omega, by omega⟩, by omega, rfl, by simp [Go.Vm.look, extK]⟩
                        · skip
                          replace hc108 := of_decide_eq_false hc108
                          refine KC.exit ?_
                          refine thenK_x ?_
                          refine thenK_x ?_
                          refine blockK_e ?_
                          refine thenK_n ?_
                          refine KC.seq ?_
                          refine KC.region ?_
                          refine KT.step rfl rfl (K.move rfl) ?_
                          refine KT.step rfl rfl (K.eql rfl rfl) ?_
                          refine KT.step rfl rfl (K.move rfl) ?_
                          refine KT.bcase (fun hb127 => ?_) (fun hb127 => ?_)
                          · skip
                            replace hb127 := of_decide_eq_true hb127
                            obtain ⟨st3, hbD3, hpf3⟩ := hpre hb127
                            obtain ⟨r, hr2⟩ := hpf3 i
                            have hbi := lsD_ints (st3 i)
                            rw [hbD3]
                            have hEq := equal21 (takeV_vec hbi (m := (st i).length) (by rw [hr2, List.length_append]; omega)) hli (by rw [List.length_take]; omega)
                            rw [show (st3 i).take (st i).length = st i by rw [hr2, List.take_left'] ; rfl, decide_eq_true rfl] at hEq
                            refine KT.step rfl rfl (K.move rfl) ?_
                            refine KT.step rfl rfl (K.move rfl) ?_
                            refine KT.step rfl rfl (K.idxDK rfl rfl hil Try.underlying50 Try.size25) ?_
                            refine KT.step rfl rfl (K.loadSeq hil rfl Try.agg25) ?_
                            refine KT.step rfl rfl (K.len rfl hbi Try.underlying25) ?_
                            refine KT.step rfl rfl (K.move rfl) ?_
                            refine KT.step rfl rfl (K.len rfl hli Try.underlying25) ?_
                            refine KT.step rfl rfl (K.lss rfl rfl) ?_
                            refine KT.step rfl rfl (K.move rfl) ?_
                            refine KT.bcase (fun hb136 => ?_) (fun hb136 => ?_)
                            · skip
                              exfalso; replace hb136 := of_decide_eq_true hb136; rw [hr2, List.length_append] at hb136; omega
                            · skip
                              replace hb136 := of_decide_eq_false hb136
                              refine KT.step rfl rfl (K.move rfl) ?_
                              refine KT.step rfl rfl (K.move rfl) ?_
                              refine KT.step rfl rfl (K.idxDK rfl rfl hil Try.underlying50 Try.size25) ?_
                              refine KT.step rfl rfl (K.loadSeq hil rfl Try.agg25) ?_
                              refine KT.step rfl rfl (K.move rfl) ?_
                              refine KT.step rfl rfl (K.len rfl hli Try.underlying25) ?_
                              refine KT.step rfl rfl (K.takeV rfl hbi rfl (by rw [hr2, List.length_append]; omega) Try.underlying25 Try.size3) ?_
                              refine KT.step rfl rfl (K.move rfl) ?_
                              refine KT.step rfl rfl (K.call2 rfl rfl plainTry_21 (hEq)) ?_
                              refine KT.step rfl rfl (K.not rfl) ?_
                              refine KT.step rfl rfl (K.pick rfl (fun h => by cases h) (fun _ => rfl)) ?_
                              refine KT.step rfl rfl (K.pick rfl (fun _ => rfl) (fun h => by cases h)) ?_
                              refine KT.nil ?_
                              refine thenK_n ?_
                              refine KC.cond rfl (fun hc148 => ?_) (fun hc148 => ?_)
                              · skip
                                cases hc148
                              · skip
                                refine KC.skip ?_
                                refine blockK_n ?_
                                refine thenK_n ?_
                                refine KC.region ?_
                                refine KT.step rfl rfl (K.add rfl rfl (wrap_id (by omega))) ?_
                                refine KT.step rfl rfl (K.move rfl) ?_
                                refine KT.nil ?_
                                refine thenK_n ?_
                                exact ⟨i + 1, by omega, by omega, rfl, by first | (simp [Go.Vm.look, extK]; done) | (simp [Go.Vm.look, extK, hbD3]; done)⟩
                          · skip
                            replace hb127 := of_decide_eq_false hb127
                            refine KT.skip rfl rfl ?_
                            refine KT.skip rfl rfl ?_
                            refine KT.skip rfl rfl ?_
                            refine KT.skip rfl rfl ?_
                            refine KT.skip rfl rfl ?_
                            refine KT.skip rfl rfl ?_
                            refine KT.skip rfl rfl ?_
                            refine KT.skip rfl rfl ?_
                            refine KT.skip rfl rfl ?_
                            refine KT.skip rfl rfl ?_
                            refine KT.skip rfl rfl ?_
                            refine KT.skip rfl rfl ?_
                            refine KT.skip rfl rfl ?_
                            refine KT.skip rfl rfl ?_
                            refine KT.skip rfl rfl ?_
                            refine KT.skip rfl rfl ?_
                            refine KT.skip rfl rfl ?_
                            refine KT.skip rfl rfl ?_
                            refine KT.skip rfl rfl ?_
                            refine KT.skip rfl rfl ?_
                            refine KT.step rfl rfl (K.pick rfl (fun h => by cases h) (fun _ => rfl)) ?_
                            refine KT.nil ?_
                            refine thenK_n ?_
                            refine KC.cond rfl (fun hc148 => ?_) (fun hc148 => ?_)
                            · cases hc148
                            · skip
                              refine KC.skip ?_
                              refine blockK_n ?_
                              refine thenK_n ?_
                              refine KC.region ?_
                              refine KT.step rfl rfl (K.add rfl rfl (wrap_id (by omega))) ?_
                              refine KT.step rfl rfl (K.move rfl) ?_
                              refine KT.nil ?_
                              refine thenK_n ?_
                              exact ⟨i + 1, by omega, by omega, rfl, by first | (simp [Go.Vm.look, extK]; done) | (simp [Go.Vm.look, extK, hbD3]; done)⟩
                  · skip
                    replace hc81 := of_decide_eq_false hc81
                    refine KC.exit ?_
                    refine thenK_x ?_
                    refine thenK_x ?_
                    refine blockK_e ?_
                    refine thenK_n ?_
                    refine KC.seq ?_
                    refine KC.region ?_
                    refine KT.step rfl rfl (K.call0 plainTry_22 (awake22)) ?_
                    refine KT.step rfl rfl (K.assign rfl) ?_
                    refine KT.nil ?_
                    refine thenK_n ?_
                    refine KC.ret ?_
                    exact ⟨.inl rfl, _, rfl, rfl⟩
              · skip
                replace hb70 := of_decide_eq_false hb70
                refine KT.skip rfl rfl ?_
                refine KT.skip rfl rfl ?_
                refine KT.skip rfl rfl ?_
                refine KT.skip rfl rfl ?_
                refine KT.skip rfl rfl ?_
                refine KT.step rfl rfl (K.pick rfl (fun h => by cases h) (fun _ => rfl)) ?_
                refine KT.step rfl rfl (K.pick rfl (fun h => by cases h) (fun _ => rfl)) ?_
                refine KT.nil ?_
                refine thenK_n ?_
                refine KC.cond rfl (fun hc77 => ?_) (fun hc77 => ?_)
                · cases hc77
                · skip
                  refine KC.skip ?_
                  refine thenK_n ?_
                  refine KC.seq ?_
                  refine KC.seq ?_
                  refine KC.region ?_
                  refine KT.step rfl rfl (K.move rfl) ?_
                  refine KT.step rfl rfl (K.lenD rfl Try.underlying50) ?_
                  refine KT.step rfl rfl (K.move rfl) ?_
                  refine KT.nil ?_
                  refine thenK_n ?_
                  refine KC.block ?_
                  refine KC.loop (fun _ : Nat => [⟨[.d (DI (N : Nat)), .d d], 0⟩]) (fun i => [(2, .d (DI pe)), (7, .d (stD N st)), (9, .d (seqD q N)), (11, .d bD), (12, .d (DI h2)), (78, .d (stD N st)), (79, .d (DI (N : Nat))), (80, .d (DI (i : Nat)))]) (fun i => i ≤ N) (fun i => N - i) 0 (Nat.zero_le _) rfl (by first | (simp [Go.Vm.look, extK, enterK]; done) | (simp [Go.Vm.look, extK, enterK, hbD]; done)) ?_
                  intro i hi
                  refine KC.seq ?_
                  refine KC.region ?_
                  refine KT.step rfl rfl (K.lss rfl rfl) ?_
                  refine KT.nil ?_
                  refine thenK_n ?_
                  refine KC.seq ?_
                  refine KC.cond rfl (fun hc81 => ?_) (fun hc81 => ?_)
                  · skip
                    replace hc81 := of_decide_eq_true hc81
                    have hil : i < N := by omega
                    have hli := lsD_ints (st i)
                    have hq60 := hr.le i
                    have hmb : q i * pe.toNat ≤ 60 * 20 := Nat.mul_le_mul hq60 (by omega)
                    have hmul : IntKind.i64.wrap ((q i : Int) * pe) = ((q i * pe.toNat : Nat) : Int) := by
                      rw [← hpe, ← Int.natCast_mul, Int.toNat_natCast]; exact wrapN (by omega)
                    have hci := hcnt i hil
                    refine KC.skip ?_
                    refine thenK_n ?_
                    refine KC.seq ?_
                    refine KC.block ?_
                    refine KC.seq ?_
                    refine KC.region ?_
                    refine KT.step rfl rfl (K.move rfl) ?_
                    refine KT.step rfl rfl (K.idxDK rfl rfl hil Try.underlying50 Try.size25) ?_
                    refine KT.step rfl rfl (K.loadSeq hil rfl Try.agg25) ?_
                    refine KT.step rfl rfl (K.assign rfl) ?_
                    refine KT.step rfl rfl (K.assign rfl) ?_
                    refine KT.nil ?_
                    refine thenK_n ?_
                    refine KC.seq ?_
                    refine KC.seq ?_
                    refine KC.region ?_
                    refine KT.step rfl rfl (K.move rfl) ?_
                    refine KT.step rfl rfl (K.len rfl hli Try.underlying25) ?_
                    refine KT.step rfl rfl (K.move rfl) ?_
                    refine KT.step rfl rfl (K.move rfl) ?_
                    refine KT.step rfl rfl (K.idxDK rfl rfl hil Try.underlying25 Try.size3) ?_
                    refine KT.step rfl rfl (K.loadSeq hil rfl Try.agg3) ?_
                    refine KT.step rfl rfl (K.move rfl) ?_
                    refine KT.step rfl rfl (K.mul rfl rfl hmul) ?_
                    refine KT.step rfl rfl (K.neq rfl rfl) ?_
                    refine KT.step rfl rfl (K.move rfl) ?_
                    refine KT.bcase (fun hb94 => ?_) (fun hb94 => ?_)
                    · skip
                      exfalso; replace hb94 := of_decide_eq_true hb94; rw [hcnt i hil] at hb94; exact hb94 rfl
                    · skip
                      replace hb94 := of_decide_eq_false hb94
                      refine KT.step rfl rfl (K.move rfl) ?_
                      refine KT.step rfl rfl (K.move rfl) ?_
                      refine KT.step rfl rfl (K.idxDK rfl rfl hil Try.underlying25 Try.size3) ?_
                      refine KT.step rfl rfl (K.loadSeq hil rfl Try.agg3) ?_
                      refine KT.step rfl rfl (K.lss rfl rfl) ?_
                      refine KT.step rfl rfl (K.pick rfl (fun h => by cases h) (fun _ => rfl)) ?_
                      refine KT.nil ?_
                      refine thenK_n ?_
                      refine KC.cond rfl (fun hc100 => ?_) (fun hc100 => ?_)
                      · skip
                        exfalso; replace hc100 := of_decide_eq_true hc100; have := hr.rep.pos i hil; omega
                      · skip
                        replace hc100 := of_decide_eq_false hc100
                        refine KC.skip ?_
                        refine thenK_n ?_
                        refine KC.seq ?_
                        refine KC.seq ?_
                        refine KC.region ?_
                        refine KT.step rfl rfl (K.move rfl) ?_
                        refine KT.step rfl rfl (K.move rfl) ?_
                        refine KT.step rfl rfl (K.idxDK rfl rfl hil Try.underlying25 Try.size3) ?_
                        refine KT.step rfl rfl (K.loadSeq hil rfl Try.agg3) ?_
                        refine KT.step rfl rfl (K.assign rfl) ?_
                        refine KT.nil ?_
                        refine thenK_n ?_
                        refine KC.block ?_
                        refine KC.loop (fun _ : Nat => [⟨[.d (DI (N : Nat)), .d d], 0⟩]) (fun k => [(2, .d (DI pe)), (7, .d (stD N st)), (9, .d (seqD q N)), (11, .d bD), (12, .d (DI h2)), (13, .d (DI (i : Nat))), (14, .d (lsD (st i))), (15, .d (DI (k : Nat))), (78, .d (stD N st)), (79, .d (DI (N : Nat))), (80, .d (DI (i : Nat)))]) (fun k => q i ≤ k ∧ k ≤ 1200 + 60) (fun k => (st i).length - k) (q i) ⟨Nat.le_refl _, by omega⟩ rfl (by simp [Go.Vm.look, extK, enterK]) ?_
                        intro k hk
                        obtain ⟨hk1, hk2⟩ := hk
                        refine KC.seq ?_
                        refine KC.seq ?_
                        refine KC.region ?_
                        refine KT.step rfl rfl (K.move rfl) ?_
                        refine KT.step rfl rfl (K.move rfl) ?_
                        refine KT.step rfl rfl (K.len rfl hli Try.underlying25) ?_
                        refine KT.step rfl rfl (K.lss rfl rfl) ?_
                        refine KT.nil ?_
                        refine thenK_n ?_
                        refine KC.cond rfl (fun hc108 => ?_) (fun hc108 => ?_)
                        · skip
                          replace hc108 := of_decide_eq_true hc108
                          refine KC.skip ?_
                          refine thenK_n ?_
                          refine KC.seq ?_
                          refine KC.block ?_
                          refine KC.seq ?_
                          refine KC.draw Try.mixed ?_
                          refine KT.step rfl rfl (K.move rfl) ?_
                          refine KT.step rfl rfl (K.move rfl) ?_
                          refine KT.idxI rfl rfl rfl (by assumption) rfl (by omega) Try.underlying25 Try.size3 fun cs113 => ?_
                          refine KT.step rfl rfl (K.load rfl Try.agg3) ?_
                          refine KT.step rfl rfl (K.move rfl) ?_
                          refine KT.step rfl rfl (K.move rfl) ?_
                          refine KT.step rfl rfl (K.move rfl) ?_
                          refine KT.step rfl rfl (K.move rfl) ?_
                          refine KT.step rfl rfl (K.idxDK rfl rfl hil Try.underlying25 Try.size3) ?_
                          refine KT.step rfl rfl (K.loadSeq hil rfl Try.agg3) ?_
                          refine KT.step rfl rfl (K.sub rfl rfl (show IntKind.i64.wrap ((k : Int) - (q i : Int)) = ((k - q i : Nat) : Int) from by rw [wrap_id (by omega)]; omega)) ?_
                          refine KT.idxI rfl rfl rfl (by assumption) rfl (by omega) Try.underlying25 Try.size3 fun cs122 => ?_
                          refine KT.step rfl rfl (K.load rfl Try.agg3) ?_
                          refine KT.step rfl rfl (K.lss rfl rfl) ?_
                          refine KT.nil ?_
                          refine ⟨by kernel_rfl, ?_⟩
                          refine thenK_n ?_
                          refine KC.cond rfl (fun hc124 => ?_) (fun hc124 => ?_)
                          · skip
                            exfalso; replace hc124 := of_decide_eq_true hc124; have := hrise i (k - q i) k (by omega) (by omega); rw [List.getD_eq_getElem?_getD, List.getD_eq_getElem?_getD, List.getElem?_eq_getElem (by omega), List.getElem?_eq_getElem (by omega)] at this; simp only [Option.getD_some] at this; omega
                          · skip
                            replace hc124 := of_decide_eq_false hc124
                            refine KC.skip ?_
                            refine blockK_n ?_
                            refine thenK_n ?_
                            refine KC.region ?_
                            refine KT.step rfl rfl (K.move rfl) ?_
                            refine KT.step rfl rfl (K.add rfl rfl (oneN (by omega))) ?_
                            refine KT.step rfl rfl (K.assign rfl) ?_
                            refine KT.nil ?_
                            refine thenK_n ?_
                            exact ⟨k + 1, ⟨by omega, by omega⟩, by omega, rfl, by simp [Go.Vm.look, extK]⟩
                        · skip
                          replace hc108 := of_decide_eq_false hc108
                          refine KC.exit ?_
                          refine thenK_x ?_
                          refine thenK_x ?_
                          refine blockK_e ?_
                          refine thenK_n ?_
                          refine KC.seq ?_
                          refine KC.region ?_
                          refine KT.step rfl rfl (K.move rfl) ?_
                          refine KT.step rfl rfl (K.eql rfl rfl) ?_
                          refine KT.step rfl rfl (K.move rfl) ?_
                          refine KT.bcase (fun hb127 => ?_) (fun hb127 => ?_)
                          · skip
                            replace hb127 := of_decide_eq_true hb127
                            obtain ⟨st3, hbD3, hpf3⟩ := hpre hb127
                            obtain ⟨r, hr2⟩ := hpf3 i
                            have hbi := lsD_ints (st3 i)
                            rw [hbD3]
                            have hEq := equal21 (takeV_vec hbi (m := (st i).length) (by rw [hr2, List.length_append]; omega)) hli (by rw [List.length_take]; omega)
                            rw [show (st3 i).take (st i).length = st i by rw [hr2, List.take_left'] ; rfl, decide_eq_true rfl] at hEq
                            refine KT.step rfl rfl (K.move rfl) ?_
                            refine KT.step rfl rfl (K.move rfl) ?_
                            refine KT.step rfl rfl (K.idxDK rfl rfl hil Try.underlying50 Try.size25) ?_
                            refine KT.step rfl rfl (K.loadSeq hil rfl Try.agg25) ?_
                            refine KT.step rfl rfl (K.len rfl hbi Try.underlying25) ?_
                            refine KT.step rfl rfl (K.move rfl) ?_
                            refine KT.step rfl rfl (K.len rfl hli Try.underlying25) ?_
                            refine KT.step rfl rfl (K.lss rfl rfl) ?_
                            refine KT.step rfl rfl (K.move rfl) ?_
                            refine KT.bcase (fun hb136 => ?_) (fun hb136 => ?_)
                            · skip
                              exfalso; replace hb136 := of_decide_eq_true hb136; rw [hr2, List.length_append] at hb136; omega
                            · skip
                              replace hb136 := of_decide_eq_false hb136
                              refine KT.step rfl rfl (K.move rfl) ?_
                              refine KT.step rfl rfl (K.move rfl) ?_
                              refine KT.step rfl rfl (K.idxDK rfl rfl hil Try.underlying50 Try.size25) ?_
                              refine KT.step rfl rfl (K.loadSeq hil rfl Try.agg25) ?_
                              refine KT.step rfl rfl (K.move rfl) ?_
                              refine KT.step rfl rfl (K.len rfl hli Try.underlying25) ?_
                              refine KT.step rfl rfl (K.takeV rfl hbi rfl (by rw [hr2, List.length_append]; omega) Try.underlying25 Try.size3) ?_
                              refine KT.step rfl rfl (K.move rfl) ?_
                              refine KT.step rfl rfl (K.call2 rfl rfl plainTry_21 (hEq)) ?_
                              refine KT.step rfl rfl (K.not rfl) ?_
                              refine KT.step rfl rfl (K.pick rfl (fun h => by cases h) (fun _ => rfl)) ?_
                              refine KT.step rfl rfl (K.pick rfl (fun _ => rfl) (fun h => by cases h)) ?_
                              refine KT.nil ?_
                              refine thenK_n ?_
                              refine KC.cond rfl (fun hc148 => ?_) (fun hc148 => ?_)
                              · skip
                                cases hc148
                              · skip
                                refine KC.skip ?_
                                refine blockK_n ?_
                                refine thenK_n ?_
                                refine KC.region ?_
                                refine KT.step rfl rfl (K.add rfl rfl (wrap_id (by omega))) ?_
                                refine KT.step rfl rfl (K.move rfl) ?_
                                refine KT.nil ?_
                                refine thenK_n ?_
                                exact ⟨i + 1, by omega, by omega, rfl, by first | (simp [Go.Vm.look, extK]; done) | (simp [Go.Vm.look, extK, hbD3]; done)⟩
                          · skip
                            replace hb127 := of_decide_eq_false hb127
                            refine KT.skip rfl rfl ?_
                            refine KT.skip rfl rfl ?_
                            refine KT.skip rfl rfl ?_
                            refine KT.skip rfl rfl ?_
                            refine KT.skip rfl rfl ?_
                            refine KT.skip rfl rfl ?_
                            refine KT.skip rfl rfl ?_
                            refine KT.skip rfl rfl ?_
                            refine KT.skip rfl rfl ?_
                            refine KT.skip rfl rfl ?_
                            refine KT.skip rfl rfl ?_
                            refine KT.skip rfl rfl ?_
                            refine KT.skip rfl rfl ?_
                            refine KT.skip rfl rfl ?_
                            refine KT.skip rfl rfl ?_
                            refine KT.skip rfl rfl ?_
                            refine KT.skip rfl rfl ?_
                            refine KT.skip rfl rfl ?_
                            refine KT.skip rfl rfl ?_
                            refine KT.skip rfl rfl ?_
                            refine KT.step rfl rfl (K.pick rfl (fun h => by cases h) (fun _ => rfl)) ?_
                            refine KT.nil ?_
                            refine thenK_n ?_
                            refine KC.cond rfl (fun hc148 => ?_) (fun hc148 => ?_)
                            · cases hc148
                            · skip
                              refine KC.skip ?_
                              refine blockK_n ?_
                              refine thenK_n ?_
                              refine KC.region ?_
                              refine KT.step rfl rfl (K.add rfl rfl (wrap_id (by omega))) ?_
                              refine KT.step rfl rfl (K.move rfl) ?_
                              refine KT.nil ?_
                              refine thenK_n ?_
                              exact ⟨i + 1, by omega, by omega, rfl, by first | (simp [Go.Vm.look, extK]; done) | (simp [Go.Vm.look, extK, hbD3]; done)⟩
                  · skip
                    replace hc81 := of_decide_eq_false hc81
                    refine KC.exit ?_
                    refine thenK_x ?_
                    refine thenK_x ?_
                    refine blockK_e ?_
                    refine thenK_n ?_
                    refine KC.seq ?_
                    refine KC.region ?_
                    refine KT.step rfl rfl (K.call0 plainTry_22 (awake22)) ?_
                    refine KT.step rfl rfl (K.assign rfl) ?_
                    refine KT.nil ?_
                    refine thenK_n ?_
                    refine KC.ret ?_
                    exact ⟨.inl rfl, _, rfl, rfl⟩
          · skip
            replace hb62 := of_decide_eq_false hb62
            refine KT.skip rfl rfl ?_
            refine KT.skip rfl rfl ?_
            refine KT.step rfl rfl (K.pick rfl (fun h => by cases h) (fun _ => rfl)) ?_
            refine KT.step rfl rfl (K.pick rfl (fun h => by cases h) (fun _ => rfl)) ?_
            refine KT.step rfl rfl (K.move rfl) ?_
            refine KT.step rfl rfl (K.move rfl) ?_
            refine KT.step rfl rfl (K.eql rfl rfl) ?_
            refine KT.step rfl rfl (K.move rfl) ?_
            refine KT.bcase (fun hb70 => ?_) (fun hb70 => ?_)
            · skip
              replace hb70 := of_decide_eq_true hb70
              obtain ⟨st2, hbD, hpf⟩ := hpre hb70
              rw [hbD]
              refine KT.step rfl rfl (K.move rfl) ?_
              refine KT.step rfl rfl (K.lenD rfl Try.underlying50) ?_
              refine KT.step rfl rfl (K.move rfl) ?_
              refine KT.step rfl rfl (K.lenD rfl Try.underlying50) ?_
              refine KT.step rfl rfl (K.neq rfl rfl) ?_
              refine KT.step rfl rfl (K.pick rfl (fun _ => rfl) (fun h => by cases h)) ?_
              refine KT.step rfl rfl (K.pick rfl (fun h => by cases h) (fun _ => rfl)) ?_
              refine KT.nil ?_
              refine thenK_n ?_
              refine KC.cond rfl (fun hc77 => ?_) (fun hc77 => ?_)
              · skip
                exact absurd rfl (of_decide_eq_true hc77)
              · skip
                replace hc77 := of_decide_eq_false hc77
                refine KC.skip ?_
                refine thenK_n ?_
                refine KC.seq ?_
                refine KC.seq ?_
                refine KC.region ?_
                refine KT.step rfl rfl (K.move rfl) ?_
                refine KT.step rfl rfl (K.lenD rfl Try.underlying50) ?_
                refine KT.step rfl rfl (K.move rfl) ?_
                refine KT.nil ?_
                refine thenK_n ?_
                refine KC.block ?_
                refine KC.loop (fun _ : Nat => [⟨[.d (DI (N : Nat)), .d d], 0⟩]) (fun i => [(2, .d (DI pe)), (7, .d (stD N st)), (9, .d (seqD q N)), (11, .d bD), (12, .d (DI h2)), (78, .d (stD N st)), (79, .d (DI (N : Nat))), (80, .d (DI (i : Nat)))]) (fun i => i ≤ N) (fun i => N - i) 0 (Nat.zero_le _) rfl (by first | (simp [Go.Vm.look, extK, enterK]; done) | (simp [Go.Vm.look, extK, enterK, hbD]; done)) ?_
                intro i hi
                refine KC.seq ?_
                refine KC.region ?_
                refine KT.step rfl rfl (K.lss rfl rfl) ?_
                refine KT.nil ?_
                refine thenK_n ?_
                refine KC.seq ?_
                refine KC.cond rfl (fun hc81 => ?_) (fun hc81 => ?_)
                · skip
                  replace hc81 := of_decide_eq_true hc81
                  have hil : i < N := by omega
                  have hli := lsD_ints (st i)
                  have hq60 := hr.le i
                  have hmb : q i * pe.toNat ≤ 60 * 20 := Nat.mul_le_mul hq60 (by omega)
                  have hmul : IntKind.i64.wrap ((q i : Int) * pe) = ((q i * pe.toNat : Nat) : Int) := by
                    rw [← hpe, ← Int.natCast_mul, Int.toNat_natCast]; exact wrapN (by omega)
                  have hci := hcnt i hil
                  refine KC.skip ?_
                  refine thenK_n ?_
                  refine KC.seq ?_
                  refine KC.block ?_
                  refine KC.seq ?_
                  refine KC.region ?_
                  refine KT.step rfl rfl (K.move rfl) ?_
                  refine KT.step rfl rfl (K.idxDK rfl rfl hil Try.underlying50 Try.size25) ?_
                  refine KT.step rfl rfl (K.loadSeq hil rfl Try.agg25) ?_
                  refine KT.step rfl rfl (K.assign rfl) ?_
                  refine KT.step rfl rfl (K.assign rfl) ?_
                  refine KT.nil ?_
                  refine thenK_n ?_
                  refine KC.seq ?_
                  refine KC.seq ?_
                  refine KC.region ?_
                  refine KT.step rfl rfl (K.move rfl) ?_
                  refine KT.step rfl rfl (K.len rfl hli Try.underlying25) ?_
                  refine KT.step rfl rfl (K.move rfl) ?_
                  refine KT.step rfl rfl (K.move rfl) ?_
                  refine KT.step rfl rfl (K.idxDK rfl rfl hil Try.underlying25 Try.size3) ?_
                  refine KT.step rfl rfl (K.loadSeq hil rfl Try.agg3) ?_
                  refine KT.step rfl rfl (K.move rfl) ?_
                  refine KT.step rfl rfl (K.mul rfl rfl hmul) ?_
                  refine KT.step rfl rfl (K.neq rfl rfl) ?_
                  refine KT.step rfl rfl (K.move rfl) ?_
                  refine KT.bcase (fun hb94 => ?_) (fun hb94 => ?_)
                  · skip
                    exfalso; replace hb94 := of_decide_eq_true hb94; rw [hcnt i hil] at hb94; exact hb94 rfl
                  · skip
                    replace hb94 := of_decide_eq_false hb94
                    refine KT.step rfl rfl (K.move rfl) ?_
                    refine KT.step rfl rfl (K.move rfl) ?_
                    refine KT.step rfl rfl (K.idxDK rfl rfl hil Try.underlying25 Try.size3) ?_
                    refine KT.step rfl rfl (K.loadSeq hil rfl Try.agg3) ?_
                    refine KT.step rfl rfl (K.lss rfl rfl) ?_
                    refine KT.step rfl rfl (K.pick rfl (fun h => by cases h) (fun _ => rfl)) ?_
                    refine KT.nil ?_
                    refine thenK_n ?_
                    refine KC.cond rfl (fun hc100 => ?_) (fun hc100 => ?_)
                    · skip
                      exfalso; replace hc100 := of_decide_eq_true hc100; have := hr.rep.pos i hil; omega
                    · skip
                      replace hc100 := of_decide_eq_false hc100
                      refine KC.skip ?_
                      refine thenK_n ?_
                      refine KC.seq ?_
                      refine KC.seq ?_
                      refine KC.region ?_
                      refine KT.step rfl rfl (K.move rfl) ?_
                      refine KT.step rfl rfl (K.move rfl) ?_
                      refine KT.step rfl rfl (K.idxDK rfl rfl hil Try.underlying25 Try.size3) ?_
                      refine KT.step rfl rfl (K.loadSeq hil rfl Try.agg3) ?_
                      refine KT.step rfl rfl (K.assign rfl) ?_
                      refine KT.nil ?_
                      refine thenK_n ?_
                      refine KC.block ?_
                      refine KC.loop (fun _ : Nat => [⟨[.d (DI (N : Nat)), .d d], 0⟩]) (fun k => [(2, .d (DI pe)), (7, .d (stD N st)), (9, .d (seqD q N)), (11, .d bD), (12, .d (DI h2)), (13, .d (DI (i : Nat))), (14, .d (lsD (st i))), (15, .d (DI (k : Nat))), (78, .d (stD N st)), (79, .d (DI (N : Nat))), (80, .d (DI (i : Nat)))]) (fun k => q i ≤ k ∧ k ≤ 1200 + 60) (fun k => (st i).length - k) (q i) ⟨Nat.le_refl _, by omega⟩ rfl (by simp [Go.Vm.look, extK, enterK]) ?_
                      intro k hk
                      obtain ⟨hk1, hk2⟩ := hk
                      refine KC.seq ?_
                      refine KC.seq ?_
                      refine KC.region ?_
                      refine KT.step rfl rfl (K.move rfl) ?_
                      refine KT.step rfl rfl (K.move rfl) ?_
                      refine KT.step rfl rfl (K.len rfl hli Try.underlying25) ?_
                      refine KT.step rfl rfl (K.lss rfl rfl) ?_
                      refine KT.nil ?_
                      refine thenK_n ?_
                      refine KC.cond rfl (fun hc108 => ?_) (fun hc108 => ?_)
                      · skip
                        replace hc108 := of_decide_eq_true hc108
                        refine KC.skip ?_
                        refine thenK_n ?_
                        refine KC.seq ?_
                        refine KC.block ?_
                        refine KC.seq ?_
                        refine KC.draw Try.mixed ?_
                        refine KT.step rfl rfl (K.move rfl) ?_
                        refine KT.step rfl rfl (K.move rfl) ?_
                        refine KT.idxI rfl rfl rfl (by assumption) rfl (by omega) Try.underlying25 Try.size3 fun cs113 => ?_
                        refine KT.step rfl rfl (K.load rfl Try.agg3) ?_
                        refine KT.step rfl rfl (K.move rfl) ?_
                        refine KT.step rfl rfl (K.move rfl) ?_
                        refine KT.step rfl rfl (K.move rfl) ?_
                        refine KT.step rfl rfl (K.move rfl) ?_
                        refine KT.step rfl rfl (K.idxDK rfl rfl hil Try.underlying25 Try.size3) ?_
                        refine KT.step rfl rfl (K.loadSeq hil rfl Try.agg3) ?_
                        refine KT.step rfl rfl (K.sub rfl rfl (show IntKind.i64.wrap ((k : Int) - (q i : Int)) = ((k - q i : Nat) : Int) from by rw [wrap_id (by omega)]; omega)) ?_
                        refine KT.idxI rfl rfl rfl (by assumption) rfl (by omega) Try.underlying25 Try.size3 fun cs122 => ?_
                        refine KT.step rfl rfl (K.load rfl Try.agg3) ?_
                        refine KT.step rfl rfl (K.lss rfl rfl) ?_
                        refine KT.nil ?_
                        refine ⟨by kernel_rfl, ?_⟩
                        refine thenK_n ?_
                        refine KC.cond rfl (fun hc124 => ?_) (fun hc124 => ?_)
                        · skip
                          exfalso; replace hc124 := of_decide_eq_true hc124; have := hrise i (k - q i) k (by omega) (by omega); rw [List.getD_eq_getElem?_getD, List.getD_eq_getElem?_getD, List.getElem?_eq_getElem (by omega), List.getElem?_eq_getElem (by omega)] at this; simp only [Option.getD_some] at this; omega
                        · skip
                          replace hc124 := of_decide_eq_false hc124
                          refine KC.skip ?_
                          refine blockK_n ?_
                          refine thenK_n ?_
                          refine KC.region ?_
                          refine KT.step rfl rfl (K.move rfl) ?_
                          refine KT.step rfl rfl (K.add rfl rfl (oneN (by omega))) ?_
                          refine KT.step rfl rfl (K.assign rfl) ?_
                          refine KT.nil ?_
                          refine thenK_n ?_
                          exact ⟨k + 1, ⟨by omega, by omega⟩, by omega, rfl, by simp [Go.Vm.look, extK]⟩
                      · skip
                        replace hc108 := of_decide_eq_false hc108
                        refine KC.exit ?_
                        refine thenK_x ?_
                        refine thenK_x ?_
                        refine blockK_e ?_
                        refine thenK_n ?_
                        refine KC.seq ?_
                        refine KC.region ?_
                        refine KT.step rfl rfl (K.move rfl) ?_
                        refine KT.step rfl rfl (K.eql rfl rfl) ?_
                        refine KT.step rfl rfl (K.move rfl) ?_
                        refine KT.bcase (fun hb127 => ?_) (fun hb127 => ?_)
                        · skip
                          replace hb127 := of_decide_eq_true hb127
                          obtain ⟨st3, hbD3, hpf3⟩ := hpre hb127
                          obtain ⟨r, hr2⟩ := hpf3 i
                          have hbi := lsD_ints (st3 i)
                          rw [hbD3]
                          have hEq := equal21 (takeV_vec hbi (m := (st i).length) (by rw [hr2, List.length_append]; omega)) hli (by rw [List.length_take]; omega)
                          rw [show (st3 i).take (st i).length = st i by rw [hr2, List.take_left'] ; rfl, decide_eq_true rfl] at hEq
                          refine KT.step rfl rfl (K.move rfl) ?_
                          refine KT.step rfl rfl (K.move rfl) ?_
                          refine KT.step rfl rfl (K.idxDK rfl rfl hil Try.underlying50 Try.size25) ?_
                          refine KT.step rfl rfl (K.loadSeq hil rfl Try.agg25) ?_
                          refine KT.step rfl rfl (K.len rfl hbi Try.underlying25) ?_
                          refine KT.step rfl rfl (K.move rfl) ?_
                          refine KT.step rfl rfl (K.len rfl hli Try.underlying25) ?_
                          refine KT.step rfl rfl (K.lss rfl rfl) ?_
                          refine KT.step rfl rfl (K.move rfl) ?_
                          refine KT.bcase (fun hb136 => ?_) (fun hb136 => ?_)
                          · skip
                            exfalso; replace hb136 := of_decide_eq_true hb136; rw [hr2, List.length_append] at hb136; omega
                          · skip
                            replace hb136 := of_decide_eq_false hb136
                            refine KT.step rfl rfl (K.move rfl) ?_
                            refine KT.step rfl rfl (K.move rfl) ?_
                            refine KT.step rfl rfl (K.idxDK rfl rfl hil Try.underlying50 Try.size25) ?_
                            refine KT.step rfl rfl (K.loadSeq hil rfl Try.agg25) ?_
                            refine KT.step rfl rfl (K.move rfl) ?_
                            refine KT.step rfl rfl (K.len rfl hli Try.underlying25) ?_
                            refine KT.step rfl rfl (K.takeV rfl hbi rfl (by rw [hr2, List.length_append]; omega) Try.underlying25 Try.size3) ?_
                            refine KT.step rfl rfl (K.move rfl) ?_
                            refine KT.step rfl rfl (K.call2 rfl rfl plainTry_21 (hEq)) ?_
                            refine KT.step rfl rfl (K.not rfl) ?_
                            refine KT.step rfl rfl (K.pick rfl (fun h => by cases h) (fun _ => rfl)) ?_
                            refine KT.step rfl rfl (K.pick rfl (fun _ => rfl) (fun h => by cases h)) ?_
                            refine KT.nil ?_
                            refine thenK_n ?_
                            refine KC.cond rfl (fun hc148 => ?_) (fun hc148 => ?_)
                            · skip
                              cases hc148
                            · skip
                              refine KC.skip ?_
                              refine blockK_n ?_
                              refine thenK_n ?_
                              refine KC.region ?_
                              refine KT.step rfl rfl (K.add rfl rfl (wrap_id (by omega))) ?_
                              refine KT.step rfl rfl (K.move rfl) ?_
                              refine KT.nil ?_
                              refine thenK_n ?_
                              exact ⟨i + 1, by omega, by omega, rfl, by first | (simp [Go.Vm.look, extK]; done) | (simp [Go.Vm.look, extK, hbD3]; done)⟩
                        · skip
                          replace hb127 := of_decide_eq_false hb127
                          refine KT.skip rfl rfl ?_
                          refine KT.skip rfl rfl ?_
                          refine KT.skip rfl rfl ?_
                          refine KT.skip rfl rfl ?_
                          refine KT.skip rfl rfl ?_
                          refine KT.skip rfl rfl ?_
                          refine KT.skip rfl rfl ?_
                          refine KT.skip rfl rfl ?_
                          refine KT.skip rfl rfl ?_
                          refine KT.skip rfl rfl ?_
                          refine KT.skip rfl rfl ?_
                          refine KT.skip rfl rfl ?_
                          refine KT.skip rfl rfl ?_
                          refine KT.skip rfl rfl ?_
                          refine KT.skip rfl rfl ?_
                          refine KT.skip rfl rfl ?_
                          refine KT.skip rfl rfl ?_
                          refine KT.skip rfl rfl ?_
                          refine KT.skip rfl rfl ?_
                          refine KT.skip rfl rfl ?_
                          refine KT.step rfl rfl (K.pick rfl (fun h => by cases h) (fun _ => rfl)) ?_
                          refine KT.nil ?_
                          refine thenK_n ?_
                          refine KC.cond rfl (fun hc148 => ?_) (fun hc148 => ?_)
                          · cases hc148
                          · skip
                            refine KC.skip ?_
                            refine blockK_n ?_
                            refine thenK_n ?_
                            refine KC.region ?_
                            refine KT.step rfl rfl (K.add rfl rfl (wrap_id (by omega))) ?_
                            refine KT.step rfl rfl (K.move rfl) ?_
                            refine KT.nil ?_
                            refine thenK_n ?_
                            exact ⟨i + 1, by omega, by omega, rfl, by first | (simp [Go.Vm.look, extK]; done) | (simp [Go.Vm.look, extK, hbD3]; done)⟩
                · skip
                  replace hc81 := of_decide_eq_false hc81
                  refine KC.exit ?_
                  refine thenK_x ?_
                  refine thenK_x ?_
                  refine blockK_e ?_
                  refine thenK_n ?_
                  refine KC.seq ?_
                  refine KC.region ?_
                  refine KT.step rfl rfl (K.call0 plainTry_22 (awake22)) ?_
                  refine KT.step rfl rfl (K.assign rfl) ?_
                  refine KT.nil ?_
                  refine thenK_n ?_
                  refine KC.ret ?_
                  exact ⟨.inl rfl, _, rfl, rfl⟩
            · skip
              replace hb70 := of_decide_eq_false hb70
              refine KT.skip rfl rfl ?_
              refine KT.skip rfl rfl ?_
              refine KT.skip rfl rfl ?_
              refine KT.skip rfl rfl ?_
              refine KT.skip rfl rfl ?_
              refine KT.step rfl rfl (K.pick rfl (fun h => by cases h) (fun _ => rfl)) ?_
              refine KT.step rfl rfl (K.pick rfl (fun h => by cases h) (fun _ => rfl)) ?_
              refine KT.nil ?_
              refine thenK_n ?_
              refine KC.cond rfl (fun hc77 => ?_) (fun hc77 => ?_)
              · cases hc77
              · skip
                refine KC.skip ?_
                refine thenK_n ?_
                refine KC.seq ?_
                refine KC.seq ?_
                refine KC.region ?_
                refine KT.step rfl rfl (K.move rfl) ?_
                refine KT.step rfl rfl (K.lenD rfl Try.underlying50) ?_
                refine KT.step rfl rfl (K.move rfl) ?_
                refine KT.nil ?_
                refine thenK_n ?_
                refine KC.block ?_
                refine KC.loop (fun _ : Nat => [⟨[.d (DI (N : Nat)), .d d], 0⟩]) (fun i => [(2, .d (DI pe)), (7, .d (stD N st)), (9, .d (seqD q N)), (11, .d bD), (12, .d (DI h2)), (78, .d (stD N st)), (79, .d (DI (N : Nat))), (80, .d (DI (i : Nat)))]) (fun i => i ≤ N) (fun i => N - i) 0 (Nat.zero_le _) rfl (by first | (simp [Go.Vm.look, extK, enterK]; done) | (simp [Go.Vm.look, extK, enterK, hbD]; done)) ?_
                intro i hi
                refine KC.seq ?_
                refine KC.region ?_
                refine KT.step rfl rfl (K.lss rfl rfl) ?_
                refine KT.nil ?_
                refine thenK_n ?_
                refine KC.seq ?_
                refine KC.cond rfl (fun hc81 => ?_) (fun hc81 => ?_)
                · skip
                  replace hc81 := of_decide_eq_true hc81
                  have hil : i < N := by omega
                  have hli := lsD_ints (st i)
                  have hq60 := hr.le i
                  have hmb : q i * pe.toNat ≤ 60 * 20 := Nat.mul_le_mul hq60 (by omega)
                  have hmul : IntKind.i64.wrap ((q i : Int) * pe) = ((q i * pe.toNat : Nat) : Int) := by
                    rw [← hpe, ← Int.natCast_mul, Int.toNat_natCast]; exact wrapN (by omega)
                  have hci := hcnt i hil
                  refine KC.skip ?_
                  refine thenK_n ?_
                  refine KC.seq ?_
                  refine KC.block ?_
                  refine KC.seq ?_
                  refine KC.region ?_
                  refine KT.step rfl rfl (K.move rfl) ?_
                  refine KT.step rfl rfl (K.idxDK rfl rfl hil Try.underlying50 Try.size25) ?_
                  refine KT.step rfl rfl (K.loadSeq hil rfl Try.agg25) ?_
                  refine KT.step rfl rfl (K.assign rfl) ?_
                  refine KT.step rfl rfl (K.assign rfl) ?_
                  refine KT.nil ?_
                  refine thenK_n ?_
                  refine KC.seq ?_
                  refine KC.seq ?_
                  refine KC.region ?_
                  refine KT.step rfl rfl (K.move rfl) ?_
                  refine KT.step rfl rfl (K.len rfl hli Try.underlying25) ?_
                  refine KT.step rfl rfl (K.move rfl) ?_
                  refine KT.step rfl rfl (K.move rfl) ?_
                  refine KT.step rfl rfl (K.idxDK rfl rfl hil Try.underlying25 Try.size3) ?_
                  refine KT.step rfl rfl (K.loadSeq hil rfl Try.agg3) ?_
                  refine KT.step rfl rfl (K.move rfl) ?_
                  refine KT.step rfl rfl (K.mul rfl rfl hmul) ?_
                  refine KT.step rfl rfl (K.neq rfl rfl) ?_
                  refine KT.step rfl rfl (K.move rfl) ?_
                  refine KT.bcase (fun hb94 => ?_) (fun hb94 => ?_)
                  · skip
                    exfalso; replace hb94 := of_decide_eq_true hb94; rw [hcnt i hil] at hb94; exact hb94 rfl
                  · skip
                    replace hb94 := of_decide_eq_false hb94
                    refine KT.step rfl rfl (K.move rfl) ?_
                    refine KT.step rfl rfl (K.move rfl) ?_
                    refine KT.step rfl rfl (K.idxDK rfl rfl hil Try.underlying25 Try.size3) ?_
                    refine KT.step rfl rfl (K.loadSeq hil rfl Try.agg3) ?_
                    refine KT.step rfl rfl (K.lss rfl rfl) ?_
                    refine KT.step rfl rfl (K.pick rfl (fun h => by cases h) (fun _ => rfl)) ?_
                    refine KT.nil ?_
                    refine thenK_n ?_
                    refine KC.cond rfl (fun hc100 => ?_) (fun hc100 => ?_)
                    · skip
                      exfalso; replace hc100 := of_decide_eq_true hc100; have := hr.rep.pos i hil; omega
                    · skip
                      replace hc100 := of_decide_eq_false hc100
                      refine KC.skip ?_
                      refine thenK_n ?_
                      refine KC.seq ?_
                      refine KC.seq ?_
                      refine KC.region ?_
                      refine KT.step rfl rfl (K.move rfl) ?_
                      refine KT.step rfl rfl (K.move rfl) ?_
                      refine KT.step rfl rfl (K.idxDK rfl rfl hil Try.underlying25 Try.size3) ?_
                      refine KT.step rfl rfl (K.loadSeq hil rfl Try.agg3) ?_
                      refine KT.step rfl rfl (K.assign rfl) ?_
                      refine KT.nil ?_
                      refine thenK_n ?_
                      refine KC.block ?_
                      refine KC.loop (fun _ : Nat => [⟨[.d (DI (N : Nat)), .d d], 0⟩]) (fun k => [(2, .d (DI pe)), (7, .d (stD N st)), (9, .d (seqD q N)), (11, .d bD), (12, .d (DI h2)), (13, .d (DI (i : Nat))), (14, .d (lsD (st i))), (15, .d (DI (k : Nat))), (78, .d (stD N st)), (79, .d (DI (N : Nat))), (80, .d (DI (i : Nat)))]) (fun k => q i ≤ k ∧ k ≤ 1200 + 60) (fun k => (st i).length - k) (q i) ⟨Nat.le_refl _, by omega⟩ rfl (by simp [Go.Vm.look, extK, enterK]) ?_
                      intro k hk
                      obtain ⟨hk1, hk2⟩ := hk
                      refine KC.seq ?_
                      refine KC.seq ?_
                      refine KC.region ?_
                      refine KT.step rfl rfl (K.move rfl) ?_
                      refine KT.step rfl rfl (K.move rfl) ?_
                      refine KT.step rfl rfl (K.len rfl hli Try.underlying25) ?_
                      refine KT.step rfl rfl (K.lss rfl rfl) ?_
                      refine KT.nil ?_
                      refine thenK_n ?_
                      refine KC.cond rfl (fun hc108 => ?_) (fun hc108 => ?_)
                      · skip
                        replace hc108 := of_decide_eq_true hc108
                        refine KC.skip ?_
                        refine thenK_n ?_
                        refine KC.seq ?_
                        refine KC.block ?_
                        refine KC.seq ?_
                        refine KC.draw Try.mixed ?_
                        refine KT.step rfl rfl (K.move rfl) ?_
                        refine KT.step rfl rfl (K.move rfl) ?_
                        refine KT.idxI rfl rfl rfl (by assumption) rfl (by omega) Try.underlying25 Try.size3 fun cs113 => ?_
                        refine KT.step rfl rfl (K.load rfl Try.agg3) ?_
                        refine KT.step rfl rfl (K.move rfl) ?_
                        refine KT.step rfl rfl (K.move rfl) ?_
                        refine KT.step rfl rfl (K.move rfl) ?_
                        refine KT.step rfl rfl (K.move rfl) ?_
                        refine KT.step rfl rfl (K.idxDK rfl rfl hil Try.underlying25 Try.size3) ?_
                        refine KT.step rfl rfl (K.loadSeq hil rfl Try.agg3) ?_
                        refine KT.step rfl rfl (K.sub rfl rfl (show IntKind.i64.wrap ((k : Int) - (q i : Int)) = ((k - q i : Nat) : Int) from by rw [wrap_id (by omega)]; omega)) ?_
                        refine KT.idxI rfl rfl rfl (by assumption) rfl (by omega) Try.underlying25 Try.size3 fun cs122 => ?_
                        refine KT.step rfl rfl (K.load rfl Try.agg3) ?_
                        refine KT.step rfl rfl (K.lss rfl rfl) ?_
                        refine KT.nil ?_
                        refine ⟨by kernel_rfl, ?_⟩
                        refine thenK_n ?_
                        refine KC.cond rfl (fun hc124 => ?_) (fun hc124 => ?_)
                        · skip
                          exfalso; replace hc124 := of_decide_eq_true hc124; have := hrise i (k - q i) k (by omega) (by omega); rw [List.getD_eq_getElem?_getD, List.getD_eq_getElem?_getD, List.getElem?_eq_getElem (by omega), List.getElem?_eq_getElem (by omega)] at this; simp only [Option.getD_some] at this; omega
                        · skip
                          replace hc124 := of_decide_eq_false hc124
                          refine KC.skip ?_
                          refine blockK_n ?_
                          refine thenK_n ?_
                          refine KC.region ?_
                          refine KT.step rfl rfl (K.move rfl) ?_
                          refine KT.step rfl rfl (K.add rfl rfl (oneN (by omega))) ?_
                          refine KT.step rfl rfl (K.assign rfl) ?_
                          refine KT.nil ?_
                          refine thenK_n ?_
                          exact ⟨k + 1, ⟨by omega, by omega⟩, by omega, rfl, by simp [Go.Vm.look, extK]⟩
                      · skip
                        replace hc108 := of_decide_eq_false hc108
                        refine KC.exit ?_
                        refine thenK_x ?_
                        refine thenK_x ?_
                        refine blockK_e ?_
                        refine thenK_n ?_
                        refine KC.seq ?_
                        refine KC.region ?_
                        refine KT.step rfl rfl (K.move rfl) ?_
                        refine KT.step rfl rfl (K.eql rfl rfl) ?_
                        refine KT.step rfl rfl (K.move rfl) ?_
                        refine KT.bcase (fun hb127 => ?_) (fun hb127 => ?_)
                        · skip
                          replace hb127 := of_decide_eq_true hb127
                          obtain ⟨st3, hbD3, hpf3⟩ := hpre hb127
                          obtain ⟨r, hr2⟩ := hpf3 i
                          have hbi := lsD_ints (st3 i)
                          rw [hbD3]
                          have hEq := equal21 (takeV_vec hbi (m := (st i).length) (by rw [hr2, List.length_append]; omega)) hli (by rw [List.length_take]; omega)
                          rw [show (st3 i).take (st i).length = st i by rw [hr2, List.take_left'] ; rfl, decide_eq_true rfl] at hEq
                          refine KT.step rfl rfl (K.move rfl) ?_
                          refine KT.step rfl rfl (K.move rfl) ?_
                          refine KT.step rfl rfl (K.idxDK rfl rfl hil Try.underlying50 Try.size25) ?_
                          refine KT.step rfl rfl (K.loadSeq hil rfl Try.agg25) ?_
                          refine KT.step rfl rfl (K.len rfl hbi Try.underlying25) ?_
                          refine KT.step rfl rfl (K.move rfl) ?_
                          refine KT.step rfl rfl (K.len rfl hli Try.underlying25) ?_
                          refine KT.step rfl rfl (K.lss rfl rfl) ?_
                          refine KT.step rfl rfl (K.move rfl) ?_
                          refine KT.bcase (fun hb136 => ?_) (fun hb136 => ?_)
                          · skip
                            exfalso; replace hb136 := of_decide_eq_true hb136; rw [hr2, List.length_append] at hb136; omega
                          · skip
                            replace hb136 := of_decide_eq_false hb136
                            refine KT.step rfl rfl (K.move rfl) ?_
                            refine KT.step rfl rfl (K.move rfl) ?_
                            refine KT.step rfl rfl (K.idxDK rfl rfl hil Try.underlying50 Try.size25) ?_
                            refine KT.step rfl rfl (K.loadSeq hil rfl Try.agg25) ?_
                            refine KT.step rfl rfl (K.move rfl) ?_
                            refine KT.step rfl rfl (K.len rfl hli Try.underlying25) ?_
                            refine KT.step rfl rfl (K.takeV rfl hbi rfl (by rw [hr2, List.length_append]; omega) Try.underlying25 Try.size3) ?_
                            refine KT.step rfl rfl (K.move rfl) ?_
                            refine KT.step rfl rfl (K.call2 rfl rfl plainTry_21 (hEq)) ?_
                            refine KT.step rfl rfl (K.not rfl) ?_
                            refine KT.step rfl rfl (K.pick rfl (fun h => by cases h) (fun _ => rfl)) ?_
                            refine KT.step rfl rfl (K.pick rfl (fun _ => rfl) (fun h => by cases h)) ?_
                            refine KT.nil ?_
                            refine thenK_n ?_
                            refine KC.cond rfl (fun hc148 => ?_) (fun hc148 => ?_)
                            · skip
                              cases hc148
                            · skip
                              refine KC.skip ?_
                              refine blockK_n ?_
                              refine thenK_n ?_
                              refine KC.region ?_
                              refine KT.step rfl rfl (K.add rfl rfl (wrap_id (by omega))) ?_
                              refine KT.step rfl rfl (K.move rfl) ?_
                              refine KT.nil ?_
                              refine thenK_n ?_
                              exact ⟨i + 1, by omega, by omega, rfl, by first | (simp [Go.Vm.look, extK]; done) | (simp [Go.Vm.look, extK, hbD3]; done)⟩
                        · skip
                          replace hb127 := of_decide_eq_false hb127
                          refine KT.skip rfl rfl ?_
                          refine KT.skip rfl rfl ?_
                          refine KT.skip rfl rfl ?_
                          refine KT.skip rfl rfl ?_
                          refine KT.skip rfl rfl ?_
                          refine KT.skip rfl rfl ?_
                          refine KT.skip rfl rfl ?_
                          refine KT.skip rfl rfl ?_
                          refine KT.skip rfl rfl ?_
                          refine KT.skip rfl rfl ?_
                          refine KT.skip rfl rfl ?_
                          refine KT.skip rfl rfl ?_
                          refine KT.skip rfl rfl ?_
                          refine KT.skip rfl rfl ?_
                          refine KT.skip rfl rfl ?_
                          refine KT.skip rfl rfl ?_
                          refine KT.skip rfl rfl ?_
                          refine KT.skip rfl rfl ?_
                          refine KT.skip rfl rfl ?_
                          refine KT.skip rfl rfl ?_
                          refine KT.step rfl rfl (K.pick rfl (fun h => by cases h) (fun _ => rfl)) ?_
                          refine KT.nil ?_
                          refine thenK_n ?_
                          refine KC.cond rfl (fun hc148 => ?_) (fun hc148 => ?_)
                          · cases hc148
                          · skip
                            refine KC.skip ?_
                            refine blockK_n ?_
                            refine thenK_n ?_
                            refine KC.region ?_
                            refine KT.step rfl rfl (K.add rfl rfl (wrap_id (by omega))) ?_
                            refine KT.step rfl rfl (K.move rfl) ?_
                            refine KT.nil ?_
                            refine thenK_n ?_
                            exact ⟨i + 1, by omega, by omega, rfl, by first | (simp [Go.Vm.look, extK]; done) | (simp [Go.Vm.look, extK, hbD3]; done)⟩
                · skip
                  replace hc81 := of_decide_eq_false hc81
                  refine KC.exit ?_
                  refine thenK_x ?_
                  refine thenK_x ?_
                  refine blockK_e ?_
                  refine thenK_n ?_
                  refine KC.seq ?_
                  refine KC.region ?_
                  refine KT.step rfl rfl (K.call0 plainTry_22 (awake22)) ?_
                  refine KT.step rfl rfl (K.assign rfl) ?_
                  refine KT.nil ?_
                  refine thenK_n ?_
                  refine KC.ret ?_
                  exact ⟨.inl rfl, _, rfl, rfl⟩
        · skip
          replace hb58 := of_decide_eq_false hb58
          refine KT.skip rfl rfl ?_
          refine KT.skip rfl rfl ?_
          refine KT.step rfl rfl (K.pick rfl (fun h => by cases h) (fun _ => rfl)) ?_
          refine KT.step rfl rfl (K.move rfl) ?_
          refine KT.skip rfl rfl ?_
          refine KT.skip rfl rfl ?_
          refine KT.step rfl rfl (K.pick rfl (fun h => by cases h) (fun _ => rfl)) ?_
          refine KT.step rfl rfl (K.pick rfl (fun h => by cases h) (fun _ => rfl)) ?_
          refine KT.step rfl rfl (K.move rfl) ?_
          refine KT.step rfl rfl (K.move rfl) ?_
          refine KT.step rfl rfl (K.eql rfl rfl) ?_
          refine KT.step rfl rfl (K.move rfl) ?_
          refine KT.bcase (fun hb70 => ?_) (fun hb70 => ?_)
          · skip
            replace hb70 := of_decide_eq_true hb70
            obtain ⟨st2, hbD, hpf⟩ := hpre hb70
            rw [hbD]
            refine KT.step rfl rfl (K.move rfl) ?_
            refine KT.step rfl rfl (K.lenD rfl Try.underlying50) ?_
            refine KT.step rfl rfl (K.move rfl) ?_
            refine KT.step rfl rfl (K.lenD rfl Try.underlying50) ?_
            refine KT.step rfl rfl (K.neq rfl rfl) ?_
            refine KT.step rfl rfl (K.pick rfl (fun _ => rfl) (fun h => by cases h)) ?_
            refine KT.step rfl rfl (K.pick rfl (fun h => by cases h) (fun _ => rfl)) ?_
            refine KT.nil ?_
            refine thenK_n ?_
            refine KC.cond rfl (fun hc77 => ?_) (fun hc77 => ?_)
            · skip
              exact absurd rfl (of_decide_eq_true hc77)
            · skip
              replace hc77 := of_decide_eq_false hc77
              refine KC.skip ?_
              refine thenK_n ?_
              refine KC.seq ?_
              refine KC.seq ?_
              refine KC.region ?_
              refine KT.step rfl rfl (K.move rfl) ?_
              refine KT.step rfl rfl (K.lenD rfl Try.underlying50) ?_
              refine KT.step rfl rfl (K.move rfl) ?_
              refine KT.nil ?_
              refine thenK_n ?_
              refine KC.block ?_
              refine KC.loop (fun _ : Nat => [⟨[.d (DI (N : Nat)), .d d], 0⟩]) (fun i => [(2, .d (DI pe)), (7, .d (stD N st)), (9, .d (seqD q N)), (11, .d bD), (12, .d (DI h2)), (78, .d (stD N st)), (79, .d (DI (N : Nat))), (80, .d (DI (i : Nat)))]) (fun i => i ≤ N) (fun i => N - i) 0 (Nat.zero_le _) rfl (by first | (simp [Go.Vm.look, extK, enterK]; done) | (simp [Go.Vm.look, extK, enterK, hbD]; done)) ?_
              intro i hi
              refine KC.seq ?_
              refine KC.region ?_
              refine KT.step rfl rfl (K.lss rfl rfl) ?_
              refine KT.nil ?_
              refine thenK_n ?_
              refine KC.seq ?_
              refine KC.cond rfl (fun hc81 => ?_) (fun hc81 => ?_)
              · skip
                replace hc81 := of_decide_eq_true hc81
                have hil : i < N := by omega
                have hli := lsD_ints (st i)
                have hq60 := hr.le i
                have hmb : q i * pe.toNat ≤ 60 * 20 := Nat.mul_le_mul hq60 (by omega)
                have hmul : IntKind.i64.wrap ((q i : Int) * pe) = ((q i * pe.toNat : Nat) : Int) := by
                  rw [← hpe, ← Int.natCast_mul, Int.toNat_natCast]; exact wrapN (by omega)
                have hci := hcnt i hil
                refine KC.skip ?_
                refine thenK_n ?_
                refine KC.seq ?_
                refine KC.block ?_
                refine KC.seq ?_
                refine KC.region ?_
                refine KT.step rfl rfl (K.move rfl) ?_
                refine KT.step rfl rfl (K.idxDK rfl rfl hil Try.underlying50 Try.size25) ?_
                refine KT.step rfl rfl (K.loadSeq hil rfl Try.agg25) ?_
                refine KT.step rfl rfl (K.assign rfl) ?_
                refine KT.step rfl rfl (K.assign rfl) ?_
                refine KT.nil ?_
                refine thenK_n ?_
                refine KC.seq ?_
                refine KC.seq ?_
                refine KC.region ?_
                refine KT.step rfl rfl (K.move rfl) ?_
                refine KT.step rfl rfl (K.len rfl hli Try.underlying25) ?_
                refine KT.step rfl rfl (K.move rfl) ?_
                refine KT.step rfl rfl (K.move rfl) ?_
                refine KT.step rfl rfl (K.idxDK rfl rfl hil Try.underlying25 Try.size3) ?_
                refine KT.step rfl rfl (K.loadSeq hil rfl Try.agg3) ?_
                refine KT.step rfl rfl (K.move rfl) ?_
                refine KT.step rfl rfl (K.mul rfl rfl hmul) ?_
                refine KT.step rfl rfl (K.neq rfl rfl) ?_
                refine KT.step rfl rfl (K.move rfl) ?_
                refine KT.bcase (fun hb94 => ?_) (fun hb94 => ?_)
                · skip
                  exfalso; replace hb94 := of_decide_eq_true hb94; rw [hcnt i hil] at hb94; exact hb94 rfl
                · skip
                  replace hb94 := of_decide_eq_false hb94
                  refine KT.step rfl rfl (K.move rfl) ?_
                  refine KT.step rfl rfl (K.move rfl) ?_
                  refine KT.step rfl rfl (K.idxDK rfl rfl hil Try.underlying25 Try.size3) ?_
                  refine KT.step rfl rfl (K.loadSeq hil rfl Try.agg3) ?_
                  refine KT.step rfl rfl (K.lss rfl rfl) ?_
                  refine KT.step rfl rfl (K.pick rfl (fun h => by cases h) (fun _ => rfl)) ?_
                  refine KT.nil ?_
                  refine thenK_n ?_
                  refine KC.cond rfl (fun hc100 => ?_) (fun hc100 => ?_)
                  · skip
                    exfalso; replace hc100 := of_decide_eq_true hc100; have := hr.rep.pos i hil; omega
                  · skip
                    replace hc100 := of_decide_eq_false hc100
                    refine KC.skip ?_
                    refine thenK_n ?_
                    refine KC.seq ?_
                    refine KC.seq ?_
                    refine KC.region ?_
                    refine KT.step rfl rfl (K.move rfl) ?_
                    refine KT.step rfl rfl (K.move rfl) ?_
                    refine KT.step rfl rfl (K.idxDK rfl rfl hil Try.underlying25 Try.size3) ?_
                    refine KT.step rfl rfl (K.loadSeq hil rfl Try.agg3) ?_
                    refine KT.step rfl rfl (K.assign rfl) ?_
                    refine KT.nil ?_
                    refine thenK_n ?_
                    refine KC.block ?_
                    refine KC.loop (fun _ : Nat => [⟨[.d (DI (N : Nat)), .d d], 0⟩]) (fun k => [(2, .d (DI pe)), (7, .d (stD N st)), (9, .d (seqD q N)), (11, .d bD), (12, .d (DI h2)), (13, .d (DI (i : Nat))), (14, .d (lsD (st i))), (15, .d (DI (k : Nat))), (78, .d (stD N st)), (79, .d (DI (N : Nat))), (80, .d (DI (i : Nat)))]) (fun k => q i ≤ k ∧ k ≤ 1200 + 60) (fun k => (st i).length - k) (q i) ⟨Nat.le_refl _, by omega⟩ rfl (by simp [Go.Vm.look, extK, enterK]) ?_
                    intro k hk
                    obtain ⟨hk1, hk2⟩ := hk
                    refine KC.seq ?_
                    refine KC.seq ?_
                    refine KC.region ?_
                    refine KT.step rfl rfl (K.move rfl) ?_
                    refine KT.step rfl rfl (K.move rfl) ?_
                    refine KT.step rfl rfl (K.len rfl hli Try.underlying25) ?_
                    refine KT.step rfl rfl (K.lss rfl rfl) ?_
                    refine KT.nil ?_
                    refine thenK_n ?_
                    refine KC.cond rfl (fun hc108 => ?_) (fun hc108 => ?_)
                    · skip
                      replace hc108 := of_decide_eq_true hc108
                      refine KC.skip ?_
                      refine thenK_n ?_
                      refine KC.seq ?_
                      refine KC.block ?_
                      refine KC.seq ?_
                      refine KC.draw Try.mixed ?_
                      refine KT.step rfl rfl (K.move rfl) ?_
                      refine KT.step rfl rfl (K.move rfl) ?_
                      refine KT.idxI rfl rfl rfl (by assumption) rfl (by omega) Try.underlying25 Try.size3 fun cs113 => ?_
                      refine KT.step rfl rfl (K.load rfl Try.agg3) ?_
                      refine KT.step rfl rfl (K.move rfl) ?_
                      refine KT.step rfl rfl (K.move rfl) ?_
                      refine KT.step rfl rfl (K.move rfl) ?_
                      refine KT.step rfl rfl (K.move rfl) ?_
                      refine KT.step rfl rfl (K.idxDK rfl rfl hil Try.underlying25 Try.size3) ?_
                      refine KT.step rfl rfl (K.loadSeq hil rfl Try.agg3) ?_
                      refine KT.step rfl rfl (K.sub rfl rfl (show IntKind.i64.wrap ((k : Int) - (q i : Int)) = ((k - q i : Nat) : Int) from by rw [wrap_id (by omega)]; omega)) ?_
                      refine KT.idxI rfl rfl rfl (by assumption) rfl (by omega) Try.underlying25 Try.size3 fun cs122 => ?_
                      refine KT.step rfl rfl (K.load rfl Try.agg3) ?_
                      refine KT.step rfl rfl (K.lss rfl rfl) ?_
                      refine KT.nil ?_
                      refine ⟨by kernel_rfl, ?_⟩
                      refine thenK_n ?_
                      refine KC.cond rfl (fun hc124 => ?_) (fun hc124 => ?_)
                      · skip
                        exfalso; replace hc124 := of_decide_eq_true hc124; have := hrise i (k - q i) k (by omega) (by omega); rw [List.getD_eq_getElem?_getD, List.getD_eq_getElem?_getD, List.getElem?_eq_getElem (by omega), List.getElem?_eq_getElem (by omega)] at this; simp only [Option.getD_some] at this; omega
                      · skip
                        replace hc124 := of_decide_eq_false hc124
                        refine KC.skip ?_
                        refine blockK_n ?_
                        refine thenK_n ?_
                        refine KC.region ?_
                        refine KT.step rfl rfl (K.move rfl) ?_
                        refine KT.step rfl rfl (K.add rfl rfl (oneN (by omega))) ?_
                        refine KT.step rfl rfl (K.assign rfl) ?_
                        refine KT.nil ?_
                        refine thenK_n ?_
                        exact ⟨k + 1, ⟨by omega, by omega⟩, by omega, rfl, by simp [Go.Vm.look, extK]⟩
                    · skip
                      replace hc108 := of_decide_eq_false hc108
                      refine KC.exit ?_
                      refine thenK_x ?_
                      refine thenK_x ?_
                      refine blockK_e ?_
                      refine thenK_n ?_
                      refine KC.seq ?_
                      refine KC.region ?_
                      refine KT.step rfl rfl (K.move rfl) ?_
                      refine KT.step rfl rfl (K.eql rfl rfl) ?_
                      refine KT.step rfl rfl (K.move rfl) ?_
                      refine KT.bcase (fun hb127 => ?_) (fun hb127 => ?_)
                      · skip
                        replace hb127 := of_decide_eq_true hb127
                        obtain ⟨st3, hbD3, hpf3⟩ := hpre hb127
                        obtain ⟨r, hr2⟩ := hpf3 i
                        have hbi := lsD_ints (st3 i)
                        rw [hbD3]
                        have hEq := equal21 (takeV_vec hbi (m := (st i).length) (by rw [hr2, List.length_append]; omega)) hli (by rw [List.length_take]; omega)
                        rw [show (st3 i).take (st i).length = st i by rw [hr2, List.take_left'] ; rfl, decide_eq_true rfl] at hEq
                        refine KT.step rfl rfl (K.move rfl) ?_
                        refine KT.step rfl rfl (K.move rfl) ?_
                        refine KT.step rfl rfl (K.idxDK rfl rfl hil Try.underlying50 Try.size25) ?_
                        refine KT.step rfl rfl (K.loadSeq hil rfl Try.agg25) ?_
                        refine KT.step rfl rfl (K.len rfl hbi Try.underlying25) ?_
                        refine KT.step rfl rfl (K.move rfl) ?_
                        refine KT.step rfl rfl (K.len rfl hli Try.underlying25) ?_
                        refine KT.step rfl rfl (K.lss rfl rfl) ?_
                        refine KT.step rfl rfl (K.move rfl) ?_
                        refine KT.bcase (fun hb136 => ?_) (fun hb136 => ?_)
                        · skip
                          exfalso; replace hb136 := of_decide_eq_true hb136; rw [hr2, List.length_append] at hb136; omega
                        · skip
                          replace hb136 := of_decide_eq_false hb136
                          refine KT.step rfl rfl (K.move rfl) ?_
                          refine KT.step rfl rfl (K.move rfl) ?_
                          refine KT.step rfl rfl (K.idxDK rfl rfl hil Try.underlying50 Try.size25) ?_
                          refine KT.step rfl rfl (K.loadSeq hil rfl Try.agg25) ?_
                          refine KT.step rfl rfl (K.move rfl) ?_
                          refine KT.step rfl rfl (K.len rfl hli Try.underlying25) ?_
                          refine KT.step rfl rfl (K.takeV rfl hbi rfl (by rw [hr2, List.length_append]; omega) Try.underlying25 Try.size3) ?_
                          refine KT.step rfl rfl (K.move rfl) ?_
                          refine KT.step rfl rfl (K.call2 rfl rfl plainTry_21 (hEq)) ?_
                          refine KT.step rfl rfl (K.not rfl) ?_
                          refine KT.step rfl rfl (K.pick rfl (fun h => by cases h) (fun _ => rfl)) ?_
                          refine KT.step rfl rfl (K.pick rfl (fun _ => rfl) (fun h => by cases h)) ?_
                          refine KT.nil ?_
                          refine thenK_n ?_
                          refine KC.cond rfl (fun hc148 => ?_) (fun hc148 => ?_)
                          · skip
                            cases hc148
                          · skip
                            refine KC.skip ?_
                            refine blockK_n ?_
                            refine thenK_n ?_
                            refine KC.region ?_
                            refine KT.step rfl rfl (K.add rfl rfl (wrap_id (by omega))) ?_
                            refine KT.step rfl rfl (K.move rfl) ?_
                            refine KT.nil ?_
                            refine thenK_n ?_
                            exact ⟨i + 1, by omega, by omega, rfl, by first | (simp [Go.Vm.look, extK]; done) | (simp [Go.Vm.look, extK, hbD3]; done)⟩
                      · skip
                        replace hb127 := of_decide_eq_false hb127
                        refine KT.skip rfl rfl ?_
                        refine KT.skip rfl rfl ?_
                        refine KT.skip rfl rfl ?_
                        refine KT.skip rfl rfl ?_
                        refine KT.skip rfl rfl ?_
                        refine KT.skip rfl rfl ?_
                        refine KT.skip rfl rfl ?_
                        refine KT.skip rfl rfl ?_
                        refine KT.skip rfl rfl ?_
                        refine KT.skip rfl rfl ?_
                        refine KT.skip rfl rfl ?_
                        refine KT.skip rfl rfl ?_
                        refine KT.skip rfl rfl ?_
                        refine KT.skip rfl rfl ?_
                        refine KT.skip rfl rfl ?_
                        refine KT.skip rfl rfl ?_
                        refine KT.skip rfl rfl ?_
                        refine KT.skip rfl rfl ?_
                        refine KT.skip rfl rfl ?_
                        refine KT.skip rfl rfl ?_
                        refine KT.step rfl rfl (K.pick rfl (fun h => by cases h) (fun _ => rfl)) ?_
                        refine KT.nil ?_
                        refine thenK_n ?_
                        refine KC.cond rfl (fun hc148 => ?_) (fun hc148 => ?_)
                        · cases hc148
                        · skip
                          refine KC.skip ?_
                          refine blockK_n ?_
                          refine thenK_n ?_
                          refine KC.region ?_
                          refine KT.step rfl rfl (K.add rfl rfl (wrap_id (by omega))) ?_
                          refine KT.step rfl rfl (K.move rfl) ?_
                          refine KT.nil ?_
                          refine thenK_n ?_
                          exact ⟨i + 1, by omega, by omega, rfl, by first | (simp [Go.Vm.look, extK]; done) | (simp [Go.Vm.look, extK, hbD3]; done)⟩
              · skip
                replace hc81 := of_decide_eq_false hc81
                refine KC.exit ?_
                refine thenK_x ?_
                refine thenK_x ?_
                refine blockK_e ?_
                refine thenK_n ?_
                refine KC.seq ?_
                refine KC.region ?_
                refine KT.step rfl rfl (K.call0 plainTry_22 (awake22)) ?_
                refine KT.step rfl rfl (K.assign rfl) ?_
                refine KT.nil ?_
                refine thenK_n ?_
                refine KC.ret ?_
                exact ⟨.inl rfl, _, rfl, rfl⟩
          · skip
            replace hb70 := of_decide_eq_false hb70
            refine KT.skip rfl rfl ?_
            refine KT.skip rfl rfl ?_
            refine KT.skip rfl rfl ?_
            refine KT.skip rfl rfl ?_
            refine KT.skip rfl rfl ?_
            refine KT.step rfl rfl (K.pick rfl (fun h => by cases h) (fun _ => rfl)) ?_
            refine KT.step rfl rfl (K.pick rfl (fun h => by cases h) (fun _ => rfl)) ?_
            refine KT.nil ?_
            refine thenK_n ?_
            refine KC.cond rfl (fun hc77 => ?_) (fun hc77 => ?_)
            · cases hc77
            · skip
              refine KC.skip ?_
              refine thenK_n ?_
              refine KC.seq ?_
              refine KC.seq ?_
              refine KC.region ?_
              refine KT.step rfl rfl (K.move rfl) ?_
              refine KT.step rfl rfl (K.lenD rfl Try.underlying50) ?_
              refine KT.step rfl rfl (K.move rfl) ?_
              refine KT.nil ?_
              refine thenK_n ?_
              refine KC.block ?_
              refine KC.loop (fun _ : Nat => [⟨[.d (DI (N : Nat)), .d d], 0⟩]) (fun i => [(2, .d (DI pe)), (7, .d (stD N st)), (9, .d (seqD q N)), (11, .d bD), (12, .d (DI h2)), (78, .d (stD N st)), (79, .d (DI (N : Nat))), (80, .d (DI (i : Nat)))]) (fun i => i ≤ N) (fun i => N - i) 0 (Nat.zero_le _) rfl (by first | (simp [Go.Vm.look, extK, enterK]; done) | (simp [Go.Vm.look, extK, enterK, hbD]; done)) ?_
              intro i hi
              refine KC.seq ?_
              refine KC.region ?_
              refine KT.step rfl rfl (K.lss rfl rfl) ?_
              refine KT.nil ?_
              refine thenK_n ?_
              refine KC.seq ?_
              refine KC.cond rfl (fun hc81 => ?_) (fun hc81 => ?_)
              · skip
                replace hc81 := of_decide_eq_true hc81
                have hil : i < N := by omega
                have hli := lsD_ints (st i)
                have hq60 := hr.le i
                have hmb : q i * pe.toNat ≤ 60 * 20 := Nat.mul_le_mul hq60 (by omega)
                have hmul : IntKind.i64.wrap ((q i : Int) * pe) = ((q i * pe.toNat : Nat) : Int) := by
                  rw [← hpe, ← Int.natCast_mul, Int.toNat_natCast]; exact wrapN (by omega)
                have hci := hcnt i hil
                refine KC.skip ?_
                refine thenK_n ?_
                refine KC.seq ?_
                refine KC.block ?_
                refine KC.seq ?_
                refine KC.region ?_
                refine KT.step rfl rfl (K.move rfl) ?_
                refine KT.step rfl rfl (K.idxDK rfl rfl hil Try.underlying50 Try.size25) ?_
                refine KT.step rfl rfl (K.loadSeq hil rfl Try.agg25) ?_
                refine KT.step rfl rfl (K.assign rfl) ?_
                refine KT.step rfl rfl (K.assign rfl) ?_
                refine KT.nil ?_
                refine thenK_n ?_
                refine KC.seq ?_
                refine KC.seq ?_
                refine KC.region ?_
                refine KT.step rfl rfl (K.move rfl) ?_
                refine KT.step rfl rfl (K.len rfl hli Try.underlying25) ?_
                refine KT.step rfl rfl (K.move rfl) ?_
                refine KT.step rfl rfl (K.move rfl) ?_
                refine KT.step rfl rfl (K.idxDK rfl rfl hil Try.underlying25 Try.size3) ?_
                refine KT.step rfl rfl (K.loadSeq hil rfl Try.agg3) ?_
                refine KT.step rfl rfl (K.move rfl) ?_
                refine KT.step rfl rfl (K.mul rfl rfl hmul) ?_
                refine KT.step rfl rfl (K.neq rfl rfl) ?_
                refine KT.step rfl rfl (K.move rfl) ?_
                refine KT.bcase (fun hb94 => ?_) (fun hb94 => ?_)
                · skip
                  exfalso; replace hb94 := of_decide_eq_true hb94; rw [hcnt i hil] at hb94; exact hb94 rfl
                · skip
                  replace hb94 := of_decide_eq_false hb94
                  refine KT.step rfl rfl (K.move rfl) ?_
                  refine KT.step rfl rfl (K.move rfl) ?_
                  refine KT.step rfl rfl (K.idxDK rfl rfl hil Try.underlying25 Try.size3) ?_
                  refine KT.step rfl rfl (K.loadSeq hil rfl Try.agg3) ?_
                  refine KT.step rfl rfl (K.lss rfl rfl) ?_
                  refine KT.step rfl rfl (K.pick rfl (fun h => by cases h) (fun _ => rfl)) ?_
                  refine KT.nil ?_
                  refine thenK_n ?_
                  refine KC.cond rfl (fun hc100 => ?_) (fun hc100 => ?_)
                  · skip
                    exfalso; replace hc100 := of_decide_eq_true hc100; have := hr.rep.pos i hil; omega
                  · skip
                    replace hc100 := of_decide_eq_false hc100
                    refine KC.skip ?_
                    refine thenK_n ?_
                    refine KC.seq ?_
                    refine KC.seq ?_
                    refine KC.region ?_
                    refine KT.step rfl rfl (K.move rfl) ?_
                    refine KT.step rfl rfl (K.move rfl) ?_
                    refine KT.step rfl rfl (K.idxDK rfl rfl hil Try.underlying25 Try.size3) ?_
                    refine KT.step rfl rfl (K.loadSeq hil rfl Try.agg3) ?_
                    refine KT.step rfl rfl (K.assign rfl) ?_
                    refine KT.nil ?_
                    refine thenK_n ?_
                    refine KC.block ?_
                    refine KC.loop (fun _ : Nat => [⟨[.d (DI (N : Nat)), .d d], 0⟩]) (fun k => [(2, .d (DI pe)), (7, .d (stD N st)), (9, .d (seqD q N)), (11, .d bD), (12, .d (DI h2)), (13, .d (DI (i : Nat))), (14, .d (lsD (st i))), (15, .d (DI (k : Nat))), (78, .d (stD N st)), (79, .d (DI (N : Nat))), (80, .d (DI (i : Nat)))]) (fun k => q i ≤ k ∧ k ≤ 1200 + 60) (fun k => (st i).length - k) (q i) ⟨Nat.le_refl _, by omega⟩ rfl (by simp [Go.Vm.look, extK, enterK]) ?_
                    intro k hk
                    obtain ⟨hk1, hk2⟩ := hk
                    refine KC.seq ?_
                    refine KC.seq ?_
                    refine KC.region ?_
                    refine KT.step rfl rfl (K.move rfl) ?_
                    refine KT.step rfl rfl (K.move rfl) ?_
                    refine KT.step rfl rfl (K.len rfl hli Try.underlying25) ?_
                    refine KT.step rfl rfl (K.lss rfl rfl) ?_
                    refine KT.nil ?_
                    refine thenK_n ?_
                    refine KC.cond rfl (fun hc108 => ?_) (fun hc108 => ?_)
                    · skip
                      replace hc108 := of_decide_eq_true hc108
                      refine KC.skip ?_
                      refine thenK_n ?_
                      refine KC.seq ?_
                      refine KC.block ?_
                      refine KC.seq ?_
                      refine KC.draw Try.mixed ?_
                      refine KT.step rfl rfl (K.move rfl) ?_
                      refine KT.step rfl rfl (K.move rfl) ?_
                      refine KT.idxI rfl rfl rfl (by assumption) rfl (by omega) Try.underlying25 Try.size3 fun cs113 => ?_
                      refine KT.step rfl rfl (K.load rfl Try.agg3) ?_
                      refine KT.step rfl rfl (K.move rfl) ?_
                      refine KT.step rfl rfl (K.move rfl) ?_
                      refine KT.step rfl rfl (K.move rfl) ?_
                      refine KT.step rfl rfl (K.move rfl) ?_
                      refine KT.step rfl rfl (K.idxDK rfl rfl hil Try.underlying25 Try.size3) ?_
                      refine KT.step rfl rfl (K.loadSeq hil rfl Try.agg3) ?_
                      refine KT.step rfl rfl (K.sub rfl rfl (show IntKind.i64.wrap ((k : Int) - (q i : Int)) = ((k - q i : Nat) : Int) from by rw [wrap_id (by omega)]; omega)) ?_
                      refine KT.idxI rfl rfl rfl (by assumption) rfl (by omega) Try.underlying25 Try.size3 fun cs122 => ?_
                      refine KT.step rfl rfl (K.load rfl Try.agg3) ?_
                      refine KT.step rfl rfl (K.lss rfl rfl) ?_
                      refine KT.nil ?_
                      refine ⟨by kernel_rfl, ?_⟩
                      refine thenK_n ?_
                      refine KC.cond rfl (fun hc124 => ?_) (fun hc124 => ?_)
                      · skip
                        exfalso; replace hc124 := of_decide_eq_true hc124; have := hrise i (k - q i) k (by omega) (by omega); rw [List.getD_eq_getElem?_getD, List.getD_eq_getElem?_getD, List.getElem?_eq_getElem (by omega), List.getElem?_eq_getElem (by omega)] at this; simp only [Option.getD_some] at this; omega
                      · skip
                        replace hc124 := of_decide_eq_false hc124
                        refine KC.skip ?_
                        refine blockK_n ?_
                        refine thenK_n ?_
                        refine KC.region ?_
                        refine KT.step rfl rfl (K.move rfl) ?_
                        refine KT.step rfl rfl (K.add rfl rfl (oneN (by omega))) ?_
                        refine KT.step rfl rfl (K.assign rfl) ?_
                        refine KT.nil ?_
                        refine thenK_n ?_
                        exact ⟨k + 1, ⟨by omega, by omega⟩, by omega, rfl, by simp [Go.Vm.look, extK]⟩
                    · skip
                      replace hc108 := of_decide_eq_false hc108
                      refine KC.exit ?_
                      refine thenK_x ?_
                      refine thenK_x ?_
                      refine blockK_e ?_
                      refine thenK_n ?_
                      refine KC.seq ?_
                      refine KC.region ?_
                      refine KT.step rfl rfl (K.move rfl) ?_
                      refine KT.step rfl rfl (K.eql rfl rfl) ?_
                      refine KT.step rfl rfl (K.move rfl) ?_
                      refine KT.bcase (fun hb127 => ?_) (fun hb127 => ?_)
                      · skip
                        replace hb127 := of_decide_eq_true hb127
                        obtain ⟨st3, hbD3, hpf3⟩ := hpre hb127
                        obtain ⟨r, hr2⟩ := hpf3 i
                        have hbi := lsD_ints (st3 i)
                        rw [hbD3]
                        have hEq := equal21 (takeV_vec hbi (m := (st i).length) (by rw [hr2, List.length_append]; omega)) hli (by rw [List.length_take]; omega)
                        rw [show (st3 i).take (st i).length = st i by rw [hr2, List.take_left'] ; rfl, decide_eq_true rfl] at hEq
                        refine KT.step rfl rfl (K.move rfl) ?_
                        refine KT.step rfl rfl (K.move rfl) ?_
                        refine KT.step rfl rfl (K.idxDK rfl rfl hil Try.underlying50 Try.size25) ?_
                        refine KT.step rfl rfl (K.loadSeq hil rfl Try.agg25) ?_
                        refine KT.step rfl rfl (K.len rfl hbi Try.underlying25) ?_
                        refine KT.step rfl rfl (K.move rfl) ?_
                        refine KT.step rfl rfl (K.len rfl hli Try.underlying25) ?_
                        refine KT.step rfl rfl (K.lss rfl rfl) ?_
                        refine KT.step rfl rfl (K.move rfl) ?_
                        refine KT.bcase (fun hb136 => ?_) (fun hb136 => ?_)
                        · skip
                          exfalso; replace hb136 := of_decide_eq_true hb136; rw [hr2, List.length_append] at hb136; omega
                        · skip
                          replace hb136 := of_decide_eq_false hb136
                          refine KT.step rfl rfl (K.move rfl) ?_
                          refine KT.step rfl rfl (K.move rfl) ?_
                          refine KT.step rfl rfl (K.idxDK rfl rfl hil Try.underlying50 Try.size25) ?_
                          refine KT.step rfl rfl (K.loadSeq hil rfl Try.agg25) ?_
                          refine KT.step rfl rfl (K.move rfl) ?_
                          refine KT.step rfl rfl (K.len rfl hli Try.underlying25) ?_
                          refine KT.step rfl rfl (K.takeV rfl hbi rfl (by rw [hr2, List.length_append]; omega) Try.underlying25 Try.size3) ?_
                          refine KT.step rfl rfl (K.move rfl) ?_
                          refine KT.step rfl rfl (K.call2 rfl rfl plainTry_21 (hEq)) ?_
                          refine KT.step rfl rfl (K.not rfl) ?_
                          refine KT.step rfl rfl (K.pick rfl (fun h => by cases h) (fun _ => rfl)) ?_
                          refine KT.step rfl rfl (K.pick rfl (fun _ => rfl) (fun h => by cases h)) ?_
                          refine KT.nil ?_
                          refine thenK_n ?_
                          refine KC.cond rfl (fun hc148 => ?_) (fun hc148 => ?_)
                          · skip
                            cases hc148
                          · skip
                            refine KC.skip ?_
                            refine blockK_n ?_
                            refine thenK_n ?_
                            refine KC.region ?_
                            refine KT.step rfl rfl (K.add rfl rfl (wrap_id (by omega))) ?_
                            refine KT.step rfl rfl (K.move rfl) ?_
                            refine KT.nil ?_
                            refine thenK_n ?_
                            exact ⟨i + 1, by omega, by omega, rfl, by first | (simp [Go.Vm.look, extK]; done) | (simp [Go.Vm.look, extK, hbD3]; done)⟩
                      · skip
                        replace hb127 := of_decide_eq_false hb127
                        refine KT.skip rfl rfl ?_
                        refine KT.skip rfl rfl ?_
                        refine KT.skip rfl rfl ?_
                        refine KT.skip rfl rfl ?_
                        refine KT.skip rfl rfl ?_
                        refine KT.skip rfl rfl ?_
                        refine KT.skip rfl rfl ?_
                        refine KT.skip rfl rfl ?_
                        refine KT.skip rfl rfl ?_
                        refine KT.skip rfl rfl ?_
                        refine KT.skip rfl rfl ?_
                        refine KT.skip rfl rfl ?_
                        refine KT.skip rfl rfl ?_
                        refine KT.skip rfl rfl ?_
                        refine KT.skip rfl rfl ?_
                        refine KT.skip rfl rfl ?_
                        refine KT.skip rfl rfl ?_
                        refine KT.skip rfl rfl ?_
                        refine KT.skip rfl rfl ?_
                        refine KT.skip rfl rfl ?_
                        refine KT.step rfl rfl (K.pick rfl (fun h => by cases h) (fun _ => rfl)) ?_
                        refine KT.nil ?_
                        refine thenK_n ?_
                        refine KC.cond rfl (fun hc148 => ?_) (fun hc148 => ?_)
                        · cases hc148
                        · skip
                          refine KC.skip ?_
                          refine blockK_n ?_
                          refine thenK_n ?_
                          refine KC.region ?_
                          refine KT.step rfl rfl (K.add rfl rfl (wrap_id (by omega))) ?_
                          refine KT.step rfl rfl (K.move rfl) ?_
                          refine KT.nil ?_
                          refine thenK_n ?_
                          exact ⟨i + 1, by omega, by omega, rfl, by first | (simp [Go.Vm.look, extK]; done) | (simp [Go.Vm.look, extK, hbD3]; done)⟩
              · skip
                replace hc81 := of_decide_eq_false hc81
                refine KC.exit ?_
                refine thenK_x ?_
                refine thenK_x ?_
                refine blockK_e ?_
                refine thenK_n ?_
                refine KC.seq ?_
                refine KC.region ?_
                refine KT.step rfl rfl (K.call0 plainTry_22 (awake22)) ?_
                refine KT.step rfl rfl (K.assign rfl) ?_
                refine KT.nil ?_
                refine thenK_n ?_
                refine KC.ret ?_
                exact ⟨.inl rfl, _, rfl, rfl⟩
theorem law12 {d td : DV} {n pe : Int} {L : List LZ} {tm : List Int} (hd : Lks d L) (hl : L.length ≤ 9223372036854775807) (htd : Ints td tm) (htl : tm.length ≤ 9223372036854775807) : DeepCall Try.prog 12 [.agg [DI n, d], td, DI pe] (DB true) := by
  by_cases hE : (stA n (L.take 12) tm pe).2 = 0
  · obtain ⟨N, Ln, q, s, h1, h2, hr, hf, hsc, htm, _, hR⟩ := stA_ok hE
    obtain ⟨h3, h4⟩ := take12 h2 hr.len
    rw [h4] at hE hsc hR
    subst h1 h3
    exact later_main hd hr h4 htd htl hf hsc htm hE hR
  · exact later_err hd hl htd htl hE
end Go.Proofs.Ytnfnjnaheckdbaa
