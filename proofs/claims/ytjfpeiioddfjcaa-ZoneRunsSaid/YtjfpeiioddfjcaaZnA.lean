import Derived.Test.YtjfpeiioddfjcaaZnU
import Derived.Test.YtjfpeiioddfjcaaProg
import Derived.KernelRfl
/-
  Zones: numbers, matrices that are read and tightened.
-/
namespace Go.Proofs.Ytjfpeiioddfjcaa
open Go.Vm Go.Zn
theorem Try.mixed : Try.prog.follows .mixedOrders = true := by kernel_rfl
theorem Try.agg3 : isAggT Try.prog 3 = some false := by kernel_rfl
theorem Try.size3 : sizeT Try.prog 3 = some 1 := by kernel_rfl
theorem Try.one3 : OneT Try.prog 3 (.int .i64 0) := ⟨by kernel_rfl, by kernel_rfl, rfl, of_decide_eq_true (by kernel_rfl)⟩
theorem Try.agg4 : isAggT Try.prog 4 = some false := by kernel_rfl
theorem Try.size4 : sizeT Try.prog 4 = some 1 := by kernel_rfl
theorem Try.one4 : OneT Try.prog 4 (.bool false) := ⟨by kernel_rfl, by kernel_rfl, rfl, of_decide_eq_true (by kernel_rfl)⟩
theorem Try.agg22 : isAggT Try.prog 22 = some false := by kernel_rfl
theorem Try.size22 : sizeT Try.prog 22 = some 1 := by kernel_rfl
theorem Try.one22 : OneT Try.prog 22 (.slice none 0 0) := ⟨by kernel_rfl, by kernel_rfl, rfl, of_decide_eq_true (by kernel_rfl)⟩
theorem Try.agg23 : isAggT Try.prog 23 = some false := by kernel_rfl
theorem Try.size23 : sizeT Try.prog 23 = some 1 := by kernel_rfl
theorem Try.one23 : OneT Try.prog 23 (.slice none 0 0) := ⟨by kernel_rfl, by kernel_rfl, rfl, of_decide_eq_true (by kernel_rfl)⟩
theorem Try.agg24 : isAggT Try.prog 24 = some false := by kernel_rfl
theorem Try.size24 : sizeT Try.prog 24 = some 1 := by kernel_rfl
theorem Try.one24 : OneT Try.prog 24 (.int .i64 0) := ⟨by kernel_rfl, by kernel_rfl, rfl, of_decide_eq_true (by kernel_rfl)⟩
theorem Try.agg87 : isAggT Try.prog 87 = some true := by kernel_rfl
theorem Try.size87 : sizeT Try.prog 87 = some 17 := by kernel_rfl
theorem Try.zero87 : zeroT Try.prog 87 = some (.agg #[.int .i64 0, .int .i64 0, .int .i64 0, .int .i64 0, .int .i64 0, .int .i64 0, .int .i64 0, .int .i64 0, .int .i64 0, .int .i64 0, .int .i64 0, .int .i64 0, .int .i64 0, .int .i64 0, .int .i64 0, .int .i64 0, .int .i64 0]) := by kernel_rfl
theorem Try.fld87_0 : fieldT Try.prog 87 0 = some { name := "side", type := 3, offset := 0, embedded := false, tag := "", pkgPath := "massecuite/zone", byteOffset := 0 } := by kernel_rfl
theorem Try.fld87_1 : fieldT Try.prog 87 1 = some { name := "at", type := 85, offset := 1, embedded := false, tag := "", pkgPath := "massecuite/zone", byteOffset := 8 } := by kernel_rfl
theorem Try.places87 : (match Try.prog.underlying 87 with | some (.struct fs) => placesT Try.prog fs | _ => none) = some #[(0, 1), (1, 16)] := by kernel_rfl
theorem Try.agg85 : isAggT Try.prog 85 = some true := by kernel_rfl
theorem Try.size85 : sizeT Try.prog 85 = some 16 := by kernel_rfl
theorem Try.zero85 : zeroT Try.prog 85 = some (.agg #[.int .i64 0, .int .i64 0, .int .i64 0, .int .i64 0, .int .i64 0, .int .i64 0, .int .i64 0, .int .i64 0, .int .i64 0, .int .i64 0, .int .i64 0, .int .i64 0, .int .i64 0, .int .i64 0, .int .i64 0, .int .i64 0]) := by kernel_rfl
theorem Try.agg84 : isAggT Try.prog 84 = some true := by kernel_rfl
theorem Try.size84 : sizeT Try.prog 84 = some 4 := by kernel_rfl
theorem Try.zero84 : zeroT Try.prog 84 = some (.agg #[.int .i64 0, .int .i64 0, .int .i64 0, .int .i64 0]) := by kernel_rfl
theorem Try.agg38 : isAggT Try.prog 38 = some true := by kernel_rfl
theorem Try.size38 : sizeT Try.prog 38 = some 3 := by kernel_rfl
theorem Try.zero38 : zeroT Try.prog 38 = some (.agg #[.int .i64 0, .int .i64 0, .int .i64 0]) := by kernel_rfl
theorem Try.fld38_0 : fieldT Try.prog 38 0 = some { name := "I", type := 3, offset := 0, embedded := false, tag := "", pkgPath := "", byteOffset := 0 } := by kernel_rfl
theorem Try.fld38_1 : fieldT Try.prog 38 1 = some { name := "J", type := 3, offset := 1, embedded := false, tag := "", pkgPath := "", byteOffset := 8 } := by kernel_rfl
theorem Try.fld38_2 : fieldT Try.prog 38 2 = some { name := "Bound", type := 3, offset := 2, embedded := false, tag := "", pkgPath := "", byteOffset := 16 } := by kernel_rfl
theorem Try.places38 : (match Try.prog.underlying 38 with | some (.struct fs) => placesT Try.prog fs | _ => none) = some #[(0, 1), (1, 1), (2, 1)] := by kernel_rfl
theorem Try.agg36 : isAggT Try.prog 36 = some true := by kernel_rfl
theorem Try.size36 : sizeT Try.prog 36 = some 3 := by kernel_rfl
theorem Try.zero36 : zeroT Try.prog 36 = some (.agg #[.int .i64 0, .int .i64 0, .int .i64 0]) := by kernel_rfl
theorem Try.fld36_0 : fieldT Try.prog 36 0 = some { name := "I", type := 3, offset := 0, embedded := false, tag := "", pkgPath := "", byteOffset := 0 } := by kernel_rfl
theorem Try.fld36_1 : fieldT Try.prog 36 1 = some { name := "J", type := 3, offset := 1, embedded := false, tag := "", pkgPath := "", byteOffset := 8 } := by kernel_rfl
theorem Try.fld36_2 : fieldT Try.prog 36 2 = some { name := "Bound", type := 3, offset := 2, embedded := false, tag := "", pkgPath := "", byteOffset := 16 } := by kernel_rfl
theorem Try.places36 : (match Try.prog.underlying 36 with | some (.struct fs) => placesT Try.prog fs | _ => none) = some #[(0, 1), (1, 1), (2, 1)] := by kernel_rfl
theorem Try.agg137 : isAggT Try.prog 137 = some false := by kernel_rfl
theorem Try.size137 : sizeT Try.prog 137 = some 1 := by kernel_rfl
theorem Try.one137 : OneT Try.prog 137 (.slice none 0 0) := ⟨by kernel_rfl, by kernel_rfl, rfl, of_decide_eq_true (by kernel_rfl)⟩
theorem Try.agg82 : isAggT Try.prog 82 = some false := by kernel_rfl
theorem Try.size82 : sizeT Try.prog 82 = some 1 := by kernel_rfl
theorem plainTry_71 : plainFn Try.prog 71 = true := by kernel_rfl
theorem plainTry_93 : plainFn Try.prog 93 = true := by kernel_rfl
theorem plainTry_91 : plainFn Try.prog 91 = true := by kernel_rfl
theorem plainTry_98 : plainFn Try.prog 98 = true := by kernel_rfl
theorem plainTry_53 : plainFn Try.prog 53 = true := by kernel_rfl
theorem plainTry_90 : plainFn Try.prog 90 = true := by kernel_rfl
theorem plainTry_51 : plainFn Try.prog 51 = true := by kernel_rfl
theorem plainTry_69 : plainFn Try.prog 69 = true := by kernel_rfl
theorem plainTry_70 : plainFn Try.prog 70 = true := by kernel_rfl
theorem plainTry_65 : plainFn Try.prog 65 = true := by kernel_rfl
theorem all_take {α : Type} (p : α → Bool) {l : List α} {i : Nat} (hi : i < l.length) : (l.take (i + 1)).all p = ((l.take i).all p && p l[i]) := by
  rw [List.take_succ_eq_append_getElem hi, List.all_append]
  simp

theorem all_false {α : Type} {p : α → Bool} {l : List α} {i : Nat} (hi : i < l.length) (h : p l[i] = false) : l.all p = false := by
  cases hb : l.all p with
  | false => rfl
  | true =>
    have := List.all_eq_true.1 hb l[i] (List.getElem_mem hi)
    rw [h] at this; cases this

theorem all_end {α : Type} {p : α → Bool} {l : List α} {i : Nat} (hi : l.length ≤ i) (h : (l.take i).all p = true) : l.all p = true := by
  rwa [List.take_of_length_le hi] at h
set_option maxRecDepth 10000 in
theorem in71 (x lo hi : Int) : DeepCall Try.prog 71 [DI x, DI lo, DI hi] (DB (decide (lo ≤ x) && decide (x ≤ hi))) := by
  refine deepCall_K 5 Try.func71 rfl (Nat.le_of_ble_eq_true rfl) fun M W0 => ?_
  refine KC.seq ?_
  refine KC.region ?_
  refine KT.step rfl rfl (K.assign rfl) ?_
  refine KT.nil ?_
  refine thenK_n ?_
  refine KC.seq ?_
  refine KC.region ?_
  refine KT.step rfl rfl (K.move rfl) ?_
  refine KT.step rfl rfl (K.move rfl) ?_
  refine KT.step rfl rfl (K.leq rfl rfl) ?_
  refine KT.step rfl rfl (K.move rfl) ?_
  refine KT.bcase (fun hb10 => ?_) (fun hb10 => ?_)
  · skip
    replace hb10 := of_decide_eq_true hb10
    refine KT.step rfl rfl (K.move rfl) ?_
    refine KT.step rfl rfl (K.move rfl) ?_
    refine KT.step rfl rfl (K.leq rfl rfl) ?_
    refine KT.step rfl rfl (K.pick rfl (fun _ => rfl) (fun h => by cases h)) ?_
    refine KT.step rfl rfl (K.assign rfl) ?_
    refine KT.nil ?_
    refine thenK_n ?_
    refine KC.ret ?_
    exact ⟨.inl rfl, _, rfl, fin_b (by rw [decide_eq_true hb10, Bool.true_and])⟩
  · skip
    replace hb10 := of_decide_eq_false hb10
    refine KT.skip rfl rfl ?_
    refine KT.skip rfl rfl ?_
    refine KT.skip rfl rfl ?_
    refine KT.step rfl rfl (K.pick rfl (fun h => by cases h) (fun _ => rfl)) ?_
    refine KT.step rfl rfl (K.assign rfl) ?_
    refine KT.nil ?_
    refine thenK_n ?_
    refine KC.ret ?_
    exact ⟨.inl rfl, _, rfl, fin_b (by rw [decide_eq_false hb10]; rfl)⟩
set_option maxRecDepth 10000 in
theorem isBound93 (b most : Int) (hm : 0 ≤ most ∧ most ≤ 1000000) : DeepCall Try.prog 93 [DI b, DI most] (DB (bndB most b)) := by
  refine deepCall_K 5 Try.func93 rfl (Nat.le_of_ble_eq_true rfl) fun M W0 => ?_
  refine KC.seq ?_
  refine KC.region ?_
  refine KT.step rfl rfl (K.assign rfl) ?_
  refine KT.nil ?_
  refine thenK_n ?_
  refine KC.seq ?_
  refine KC.region ?_
  refine KT.step rfl rfl (K.move rfl) ?_
  refine KT.step rfl rfl (K.eql rfl rfl) ?_
  refine KT.step rfl rfl (K.move rfl) ?_
  refine KT.bcase (fun hb7 => ?_) (fun hb7 => ?_)
  · skip
    replace hb7 := of_decide_eq_true hb7
    refine KT.skip rfl rfl ?_
    refine KT.skip rfl rfl ?_
    refine KT.skip rfl rfl ?_
    refine KT.skip rfl rfl ?_
    refine KT.skip rfl rfl ?_
    refine KT.skip rfl rfl ?_
    refine KT.skip rfl rfl ?_
    refine KT.skip rfl rfl ?_
    refine KT.skip rfl rfl ?_
    refine KT.step rfl rfl (K.pick rfl (fun _ => rfl) (fun h => by cases h)) ?_
    refine KT.step rfl rfl (K.assign rfl) ?_
    refine KT.nil ?_
    refine thenK_n ?_
    refine KC.ret ?_
    exact ⟨.inl rfl, _, rfl, fin_b (by unfold bndB; rw [decide_eq_true hb7]; rfl)⟩
  · skip
    replace hb7 := of_decide_eq_false hb7
    refine KT.step rfl rfl (K.move rfl) ?_
    refine KT.step rfl rfl (K.move rfl) ?_
    refine KT.step rfl rfl (K.unI rfl (wrap_id (by omega))) ?_
    refine KT.step rfl rfl (K.mul rfl rfl (wrap_id (by omega))) ?_
    refine KT.step rfl rfl (K.add rfl rfl (wrap_id (by omega))) ?_
    refine KT.step rfl rfl (K.move rfl) ?_
    refine KT.step rfl rfl (K.mul rfl rfl (wrap_id (by omega))) ?_
    refine KT.step rfl rfl (K.add rfl rfl (wrap_id (by omega))) ?_
    refine KT.step rfl rfl (K.call3 rfl rfl rfl plainTry_71 (in71 _ _ _)) ?_
    refine KT.step rfl rfl (K.pick rfl (fun h => by cases h) (fun _ => rfl)) ?_
    refine KT.step rfl rfl (K.assign rfl) ?_
    refine KT.nil ?_
    refine thenK_n ?_
    refine KC.ret ?_
    exact ⟨.inl rfl, _, rfl, fin_b (by unfold bndB; rw [decide_eq_false hb7, Bool.false_or, show 2 * (0 - most) + 0 = -(2 * most) by omega])⟩
set_option maxRecDepth 10000 in
theorem sum91 {x y : Int} (hx : Zg TOP x) (hy : Zg TOP y) : DeepCall Try.prog 91 [DI x, DI y] (DI (bsum x y)) := by
  unfold Zg Lim TOP at hx hy
  refine deepCall_K 5 Try.func91 rfl (Nat.le_of_ble_eq_true rfl) fun M W0 => ?_
  refine KC.seq ?_
  refine KC.region ?_
  refine KT.step rfl rfl (K.assign rfl) ?_
  refine KT.nil ?_
  refine thenK_n ?_
  refine KC.seq ?_
  refine KC.seq ?_
  refine KC.region ?_
  refine KT.step rfl rfl (K.move rfl) ?_
  refine KT.step rfl rfl (K.eql rfl rfl) ?_
  refine KT.step rfl rfl (K.move rfl) ?_
  refine KT.bcase (fun hb7 => ?_) (fun hb7 => ?_)
  · skip
    replace hb7 := of_decide_eq_true hb7
    refine KT.skip rfl rfl ?_
    refine KT.skip rfl rfl ?_
    refine KT.step rfl rfl (K.pick rfl (fun _ => rfl) (fun h => by cases h)) ?_
    refine KT.nil ?_
    refine thenK_n ?_
    refine KC.cond rfl (fun hc10 => ?_) (fun hc10 => ?_)
    · skip
      refine KC.seq ?_
      refine KC.region ?_
      refine KT.step rfl rfl (K.assign rfl) ?_
      refine KT.nil ?_
      refine thenK_n ?_
      refine KC.ret ?_
      refine thenK_r ?_
      exact ⟨.inl rfl, _, rfl, fin_d (by unfold bsum; rw [if_pos (.inl hb7)])⟩
    · cases hc10
  · skip
    replace hb7 := of_decide_eq_false hb7
    refine KT.step rfl rfl (K.move rfl) ?_
    refine KT.step rfl rfl (K.eql rfl rfl) ?_
    refine KT.step rfl rfl (K.pick rfl (fun h => by cases h) (fun _ => rfl)) ?_
    refine KT.nil ?_
    refine thenK_n ?_
    refine KC.cond rfl (fun hc10 => ?_) (fun hc10 => ?_)
    · skip
      replace hc10 := of_decide_eq_true hc10
      refine KC.seq ?_
      refine KC.region ?_
      refine KT.step rfl rfl (K.assign rfl) ?_
      refine KT.nil ?_
      refine thenK_n ?_
      refine KC.ret ?_
      refine thenK_r ?_
      exact ⟨.inl rfl, _, rfl, fin_d (by unfold bsum; rw [if_pos (.inr hc10)])⟩
    · skip
      replace hc10 := of_decide_eq_false hc10
      refine KC.skip ?_
      refine thenK_n ?_
      refine KC.seq ?_
      refine KC.region ?_
      refine KT.step rfl rfl (K.move rfl) ?_
      refine KT.step rfl rfl (K.shr rfl rfl (by omega) (shr1 x)) ?_
      refine KT.step rfl rfl (K.move rfl) ?_
      refine KT.step rfl rfl (K.shr rfl rfl (by omega) (shr1 y)) ?_
      refine KT.step rfl rfl (K.add rfl rfl (wrap_id (by omega))) ?_
      refine KT.step rfl rfl (K.mul rfl rfl (wrap_id (by omega))) ?_
      refine KT.step rfl rfl (K.move rfl) ?_
      refine KT.step rfl rfl (K.move rfl) ?_
      refine KT.step rfl rfl (K.band rfl rfl rfl) ?_
      refine KT.step rfl rfl (K.band rfl rfl (and2 x y)) ?_
      refine KT.step rfl rfl (K.add rfl rfl (wrap_id (by omega))) ?_
      refine KT.step rfl rfl (K.assign rfl) ?_
      refine KT.nil ?_
      refine thenK_n ?_
      refine KC.ret ?_
      exact ⟨.inl rfl, _, rfl, fin_d (by unfold bsum; rw [if_neg (by omega)])⟩
set_option maxRecDepth 10000 in
theorem greatest98 {b den : Int} (h : -1000000000000000 ≤ b / 2 * den ∧ b / 2 * den ≤ 1000000000000000) : DeepCall Try.prog 98 [DI b, DI den] (DI (gre b den)) := by
  refine deepCall_K 5 Try.func98 rfl (Nat.le_of_ble_eq_true rfl) fun M W0 => ?_
  refine KC.seq ?_
  refine KC.region ?_
  refine KT.step rfl rfl (K.assign rfl) ?_
  refine KT.nil ?_
  refine thenK_n ?_
  refine KC.seq ?_
  refine KC.region ?_
  refine KT.step rfl rfl (K.move rfl) ?_
  refine KT.step rfl rfl (K.shr rfl rfl (by omega) (shr1 b)) ?_
  refine KT.step rfl rfl (K.move rfl) ?_
  refine KT.step rfl rfl (K.mul rfl rfl (wrap_id (by omega))) ?_
  refine KT.step rfl rfl (K.sub rfl rfl (wrap_id (by omega))) ?_
  refine KT.step rfl rfl (K.move rfl) ?_
  refine KT.step rfl rfl (K.band rfl rfl (andOne b)) ?_
  refine KT.step rfl rfl (K.add rfl rfl (wrap_id (by omega))) ?_
  refine KT.step rfl rfl (K.assign rfl) ?_
  refine KT.nil ?_
  refine thenK_n ?_
  refine KC.ret ?_
  exact ⟨.inl rfl, _, rfl, fin_d rfl⟩
theorem build87 (k : Int) : pureRun Try.prog (Instr.build 87 #[(0, .int .i64 k)]) = some (.agg #[.int .i64 k, .int .i64 0, .int .i64 0, .int .i64 0, .int .i64 0, .int .i64 0, .int .i64 0, .int .i64 0, .int .i64 0, .int .i64 0, .int .i64 0, .int .i64 0, .int .i64 0, .int .i64 0, .int .i64 0, .int .i64 0, .int .i64 0]) := by kernel_rfl
theorem build87_0 : pureRun Try.prog (Instr.build 87 #[]) = some (.agg #[.int .i64 0, .int .i64 0, .int .i64 0, .int .i64 0, .int .i64 0, .int .i64 0, .int .i64 0, .int .i64 0, .int .i64 0, .int .i64 0, .int .i64 0, .int .i64 0, .int .i64 0, .int .i64 0, .int .i64 0, .int .i64 0, .int .i64 0]) := by kernel_rfl
set_option maxRecDepth 10000 in
theorem read53 {d : DV} {z : List (List Int)} (hd : Mat d z) (hl : z.length ≤ 9223372036854775807) (hr : ∀ r ∈ z, r.length ≤ 9223372036854775807) : DeepCall Try.prog 53 [d] (.tup [.agg (mc (rdN z) (rdA z)), DB (validZ z)]) := by
  refine deepCall_K 5 Try.func53 rfl (Nat.le_of_ble_eq_true rfl) fun M W0 => ?_
  refine KC.seq ?_
  refine KC.region ?_
  refine KT.step rfl rfl (K.alloc Try.zero87) ?_
  refine KT.step rfl rfl (K.assign rfl) ?_
  refine KT.nil ?_
  refine thenK_n ?_
  refine KC.seq ?_
  refine KC.seq ?_
  refine KC.region ?_
  refine KT.step rfl rfl (K.move rfl) ?_
  refine KT.step rfl rfl (K.len rfl hd Try.underlying22) ?_
  refine KT.step rfl rfl (K.call3 rfl rfl rfl plainTry_71 (in71 _ _ _)) ?_
  refine KT.step rfl rfl (K.not rfl) ?_
  refine KT.nil ?_
  refine thenK_n ?_
  refine KC.cond rfl (fun hc12 => ?_) (fun hc12 => ?_)
  · skip
    rw [Bool.not_eq_true'] at hc12
    refine KC.seq ?_
    refine KC.region ?_
    refine KT.step rfl rfl (K.buildL rfl build87_0) ?_
    refine KT.putAll (cs := mcx 0 (fun _ _ => 0)) rfl rfl rfl rfl rfl rfl rfl rfl Try.size87 ?_
    refine KT.step rfl rfl (K.assign rfl) ?_
    refine KT.nil ?_
    refine thenK_n ?_
    refine KC.ret ?_
    refine thenK_r ?_
    have hv : validZ z = false := by
      unfold validZ
      rw [show (decide (2 ≤ z.length) && decide (z.length ≤ 4)) = false from by
        rw [← hc12]; congr 1 <;> exact decide_eq_decide.2 (by omega)]
      rfl
    exact ⟨.inl rfl, _, resK_ct (mc 0 fun _ _ => 0) rfl rfl rfl (by decide) Try.agg87 Try.size87 rfl rfl, fin_rd (by unfold rdN; rw [if_neg (by rw [hv]; decide)]) (by unfold rdA; rw [if_neg (by rw [hv]; decide)]) hv⟩
  · skip
    rw [Bool.not_eq_false'] at hc12
    have hb := Bool.and_eq_true_iff.1 hc12
    have hb1 := of_decide_eq_true hb.1
    have hb2 := of_decide_eq_true hb.2
    refine KC.skip ?_
    refine thenK_n ?_
    refine KC.seq ?_
    refine KC.region ?_
    refine KT.step rfl rfl (K.move rfl) ?_
    refine KT.step rfl rfl (K.len rfl hd Try.underlying22) ?_
    refine KT.step rfl rfl (K.buildL rfl (build87 _)) ?_
    refine KT.step rfl rfl (K.alloc Try.zero87) ?_
    refine KT.putAll (cs := mcx z.length (fun _ _ => 0)) rfl rfl rfl rfl rfl rfl rfl rfl Try.size87 ?_
    refine KT.nil ?_
    refine thenK_n ?_
    refine KC.seq ?_
    refine KC.seq ?_
    refine KC.region ?_
    refine KT.step rfl rfl (K.move rfl) ?_
    refine KT.step rfl rfl (K.len rfl hd Try.underlying22) ?_
    refine KT.step rfl rfl (K.move rfl) ?_
    refine KT.nil ?_
    refine thenK_n ?_
    refine KC.block ?_
    refine KC.loop (fun i : Nat => [⟨mcx 0 (fun _ _ => 0), 0⟩, ⟨mcx z.length (zpt z i 0), 0⟩]) (fun i => [(0, .d d), (2, .optr 0 0), (4, .optr 1 0), (17, .d d), (18, .d (DI (z.length : Nat))), (19, .d (DI (i : Nat)))]) (fun i => i ≤ z.length ∧ (z.take i).all (zrow z.length) = true) (fun i => z.length - i) 0 ⟨Nat.zero_le _, rfl⟩ (by rw [zpt_zero]; rfl) (by simp [Go.Vm.look, extK, enterK]) ?_
    intro i hi
    obtain ⟨hi, hall⟩ := hi
    refine KC.seq ?_
    refine KC.region ?_
    refine KT.step rfl rfl (K.lss rfl rfl) ?_
    refine KT.nil ?_
    refine thenK_n ?_
    refine KC.seq ?_
    refine KC.cond rfl (fun hc20 => ?_) (fun hc20 => ?_)
    · skip
      replace hc20 := of_decide_eq_true hc20
      have hzi : z.getD i [] = z[i] := by simp [show i < z.length by omega]
      refine KC.skip ?_
      refine thenK_n ?_
      refine KC.seq ?_
      refine KC.block ?_
      refine KC.seq ?_
      refine KC.region ?_
      refine KT.step rfl rfl (K.move rfl) ?_
      refine KT.idx rfl rfl rfl (by assumption) rfl (by omega) Try.underlying22 Try.size23 fun c22 cs22 hq22 => ?_
      refine KT.step rfl rfl (K.load rfl Try.agg23) ?_
      refine KT.step rfl rfl (K.assign rfl) ?_
      refine KT.step rfl rfl (K.assign rfl) ?_
      refine KT.nil ?_
      refine thenK_n ?_
      refine KC.seq ?_
      refine KC.seq ?_
      refine KC.region ?_
      refine KT.step rfl rfl (K.move rfl) ?_
      refine KT.step rfl rfl (K.len rfl hq22 Try.underlying23) ?_
      refine KT.step rfl rfl (K.move rfl) ?_
      refine KT.step rfl rfl (K.len rfl hd Try.underlying22) ?_
      refine KT.step rfl rfl (K.neq rfl rfl) ?_
      refine KT.nil ?_
      refine thenK_n ?_
      refine KC.cond rfl (fun hc28 => ?_) (fun hc28 => ?_)
      · skip
        replace hc28 := of_decide_eq_true hc28
        refine KC.seq ?_
        refine KC.region ?_
        refine KT.step rfl rfl (K.buildL rfl build87_0) ?_
        refine KT.putAll (cs := mcx 0 (fun _ _ => 0)) rfl rfl rfl rfl rfl rfl rfl rfl Try.size87 ?_
        refine KT.step rfl rfl (K.assign rfl) ?_
        refine KT.nil ?_
        refine thenK_n ?_
        refine KC.ret ?_
        refine thenK_r ?_
        refine blockK_r ?_
        refine thenK_r ?_
        refine thenK_r ?_
        refine blockK_r ?_
        refine thenK_r ?_
        have hv : validZ z = false := by
          unfold validZ
          rw [all_false (show i < z.length by omega) (show zrow z.length z[i] = false from by unfold zrow; rw [decide_eq_false (by omega)]; rfl), Bool.and_false]
        exact ⟨.inl rfl, _, resK_ct (mc 0 fun _ _ => 0) rfl rfl rfl (by decide) Try.agg87 Try.size87 rfl rfl, fin_rd (by unfold rdN; rw [if_neg (by rw [hv]; decide)]) (by unfold rdA; rw [if_neg (by rw [hv]; decide)]) hv⟩
      · skip
        replace hc28 := of_decide_eq_false hc28
        refine KC.skip ?_
        refine thenK_n ?_
        refine KC.seq ?_
        refine KC.region ?_
        refine KT.step rfl rfl (K.move rfl) ?_
        refine KT.step rfl rfl (K.len rfl hq22 Try.underlying23) ?_
        refine KT.step rfl rfl (K.move rfl) ?_
        refine KT.nil ?_
        refine thenK_n ?_
        refine KC.block ?_
        have hrl := hr _ (List.getElem_mem (show i < z.length by omega))
        refine KC.loop (fun j : Nat => [⟨mcx 0 (fun _ _ => 0), 0⟩, ⟨mcx z.length (zpt z i j), 0⟩]) (fun j => [(0, .d d), (2, .optr 0 0), (4, .optr 1 0), (17, .d d), (18, .d (DI (z.length : Nat))), (19, .d (DI (i : Nat))), (5, .d (DI (i : Nat))), (30, .d c22), (31, .d (DI (z[i].length : Nat))), (32, .d (DI (j : Nat)))]) (fun j => j ≤ z[i].length ∧ (z[i].take j).all (bndB 1000) = true) (fun j => z[i].length - j) 0 ⟨Nat.zero_le _, rfl⟩ rfl (by simp [Go.Vm.look, extK, enterK]) ?_
        intro j hj
        obtain ⟨hj, hall2⟩ := hj
        refine KC.seq ?_
        refine KC.region ?_
        refine KT.step rfl rfl (K.lss rfl rfl) ?_
        refine KT.nil ?_
        refine thenK_n ?_
        refine KC.seq ?_
        refine KC.cond rfl (fun hc33 => ?_) (fun hc33 => ?_)
        · skip
          replace hc33 := of_decide_eq_true hc33
          refine KC.skip ?_
          refine thenK_n ?_
          refine KC.seq ?_
          refine KC.block ?_
          refine KC.seq ?_
          refine KC.region ?_
          refine KT.step rfl rfl (K.move rfl) ?_
          refine KT.idxI rfl rfl rfl (by assumption) rfl (by omega) Try.underlying23 Try.size3 fun cs35 => ?_
          refine KT.step rfl rfl (K.load rfl Try.agg3) ?_
          refine KT.step rfl rfl (K.assign rfl) ?_
          refine KT.step rfl rfl (K.assign rfl) ?_
          refine KT.nil ?_
          refine thenK_n ?_
          refine KC.seq ?_
          refine KC.seq ?_
          refine KC.region ?_
          refine KT.step rfl rfl (K.move rfl) ?_
          refine KT.step rfl rfl (K.call2 rfl rfl plainTry_93 (isBound93 _ _ (by omega))) ?_
          refine KT.step rfl rfl (K.not rfl) ?_
          refine KT.nil ?_
          refine thenK_n ?_
          refine KC.cond rfl (fun hc39 => ?_) (fun hc39 => ?_)
          · skip
            rw [Bool.not_eq_true'] at hc39
            refine KC.seq ?_
            refine KC.region ?_
            refine KT.step rfl rfl (K.buildL rfl build87_0) ?_
            refine KT.putAll (cs := mcx 0 (fun _ _ => 0)) rfl rfl rfl rfl rfl rfl rfl rfl Try.size87 ?_
            refine KT.step rfl rfl (K.assign rfl) ?_
            refine KT.nil ?_
            refine thenK_n ?_
            refine KC.ret ?_
            refine thenK_r ?_
            refine blockK_r ?_
            refine thenK_r ?_
            refine thenK_r ?_
            refine blockK_r ?_
            refine blockK_r ?_
            refine thenK_r ?_
            refine thenK_r ?_
            refine blockK_r ?_
            refine thenK_r ?_
            have hv : validZ z = false := by
              unfold validZ
              rw [all_false (show i < z.length by omega) (show zrow z.length z[i] = false from by unfold zrow; rw [all_false (show j < z[i].length by omega) hc39, Bool.and_false]), Bool.and_false]
            exact ⟨.inl rfl, _, resK_ct (mc 0 fun _ _ => 0) rfl rfl rfl (by decide) Try.agg87 Try.size87 rfl rfl, fin_rd (by unfold rdN; rw [if_neg (by rw [hv]; decide)]) (by unfold rdA; rw [if_neg (by rw [hv]; decide)]) hv⟩
          · skip
            rw [Bool.not_eq_false'] at hc39
            refine KC.skip ?_
            refine thenK_n ?_
            refine KC.region ?_
            refine KT.step rfl rfl (K.move rfl) ?_
            refine KT.step rfl rfl (K.move rfl) ?_
            refine KT.step rfl rfl (K.move rfl) ?_
            refine KT.step rfl rfl (K.fieldAddrO rfl Try.fld87_1 Try.size85) ?_
            refine KT.step rfl rfl (K.idxA rfl rfl (by omega) Try.underlying85 Try.size84) ?_
            refine KT.step rfl rfl (K.idxA rfl rfl (by omega) Try.underlying84 Try.size3) ?_
            refine KT.putM rfl rfl rfl rfl rfl rfl (by omega) (by omega) Try.size3 ?_
            refine KT.nil ?_
            refine blockK_n ?_
            refine thenK_n ?_
            refine KC.region ?_
            refine KT.step rfl rfl (K.add rfl rfl (wrap_id (by omega))) ?_
            refine KT.step rfl rfl (K.move rfl) ?_
            refine KT.nil ?_
            refine thenK_n ?_
            refine ⟨j + 1, ⟨by omega, ?_⟩, by omega, (by rw [set2_zpt _ (show z[i][j] = zf z i j by unfold zf; rw [hzi]; simp [show j < z[i].length by omega])]; rfl), by simp [Go.Vm.look, extK]⟩
            rw [all_take _ (show j < z[i].length by omega), hall2, Bool.true_and, hc39]
        · skip
          replace hc33 := of_decide_eq_false hc33
          refine KC.exit ?_
          refine thenK_x ?_
          refine thenK_x ?_
          refine blockK_e ?_
          refine blockK_n ?_
          refine thenK_n ?_
          refine KC.region ?_
          refine KT.step rfl rfl (K.add rfl rfl (wrap_id (by omega))) ?_
          refine KT.step rfl rfl (K.move rfl) ?_
          refine KT.nil ?_
          refine thenK_n ?_
          refine ⟨i + 1, ⟨by omega, ?_⟩, by omega, (by rw [← zpt_next (z := z) (i := i) (n := j) (by rw [hzi]; omega)]), by simp [Go.Vm.look, extK]⟩
          rw [all_take _ (show i < z.length by omega), hall, Bool.true_and]
          unfold zrow
          rw [decide_eq_true (by omega), Bool.true_and]
          exact all_end (by omega) hall2
    · skip
      replace hc20 := of_decide_eq_false hc20
      refine KC.exit ?_
      refine thenK_x ?_
      refine thenK_x ?_
      refine blockK_e ?_
      refine thenK_n ?_
      refine KC.seq ?_
      refine KC.region ?_
      rw [zpt_end (z := z) (i := i) (by omega)]
      refine KT.step rfl rfl (K.loadOA (mc (z.length) (zf z)) rfl rfl (by decide) Try.agg87 Try.size87 rfl) ?_
      refine KT.putAll (cs := mcx z.length (zf z)) rfl rfl rfl rfl rfl rfl rfl rfl Try.size87 ?_
      refine KT.step rfl rfl (K.assign rfl) ?_
      refine KT.nil ?_
      refine thenK_n ?_
      refine KC.ret ?_
      have hv : validZ z = true := by
        unfold validZ
        rw [all_end (by omega) hall, Bool.and_true, ← hc12]
        congr 1 <;> exact decide_eq_decide.2 (by omega)
      exact ⟨.inl rfl, _, resK_ct (mc z.length (zf z)) rfl rfl rfl (by decide) Try.agg87 Try.size87 rfl rfl, fin_rd (by unfold rdN; rw [if_pos hv]) (by unfold rdA; rw [if_pos hv]) hv⟩
set_option maxRecDepth 10000 in
theorem floored90 {n : Nat} {a : Nat → Nat → Int} (hn : n ≤ 4) : DeepCall Try.prog 90 [.agg (mc n a)] (.agg (mc n (flo n a))) := by
  refine deepCall_K 5 Try.func90 rfl (Nat.le_of_ble_eq_true rfl) fun M W0 => ?_
  refine KC.seq ?_
  refine KC.region ?_
  refine KT.step rfl rfl (K.box rfl) ?_
  refine KT.step rfl rfl (K.alloc Try.zero87) ?_
  refine KT.nil ?_
  refine thenK_n ?_
  refine KC.seq ?_
  refine KC.seq ?_
  refine KC.region ?_
  refine KT.step rfl rfl (K.fieldAddrO rfl Try.fld87_0 Try.size3) ?_
  refine KT.step rfl rfl (K.loadO rfl rfl (by simp) rfl Try.agg3) ?_
  refine KT.step rfl rfl (K.move rfl) ?_
  refine KT.nil ?_
  refine thenK_n ?_
  refine KC.block ?_
  refine KC.loop (fun i : Nat => [⟨mcx n (floP a i), 0⟩, ⟨mcx 0 (fun _ _ => 0), 0⟩]) (fun i => [(1, .optr 0 0), (2, .optr 1 0), (5, .d (DI (n : Nat))), (6, .d (DI (i : Nat)))]) (fun i => i ≤ n) (fun i => n - i) 0 (Nat.zero_le _) (by rw [floP_zero]; rfl) (by simp [Go.Vm.look, extK, enterK]) ?_
  intro i hi
  refine KC.seq ?_
  refine KC.region ?_
  refine KT.step rfl rfl (K.lss rfl rfl) ?_
  refine KT.nil ?_
  refine thenK_n ?_
  refine KC.seq ?_
  refine KC.cond rfl (fun hc7 => ?_) (fun hc7 => ?_)
  · skip
    replace hc7 := of_decide_eq_true hc7
    refine KC.skip ?_
    refine thenK_n ?_
    refine KC.seq ?_
    refine KC.block ?_
    refine KC.seq ?_
    refine KC.region ?_
    refine KT.step rfl rfl (K.move rfl) ?_
    refine KT.step rfl rfl (K.assign rfl) ?_
    refine KT.nil ?_
    refine thenK_n ?_
    refine KC.seq ?_
    refine KC.region ?_
    refine KT.step rfl rfl (K.move rfl) ?_
    refine KT.step rfl rfl (K.move rfl) ?_
    refine KT.step rfl rfl (K.fieldAddrO rfl Try.fld87_1 Try.size85) ?_
    refine KT.step rfl rfl (K.idxA (m := 0) rfl rfl (by omega) Try.underlying85 Try.size84) ?_
    refine KT.step rfl rfl (K.idxA rfl rfl (by omega) Try.underlying84 Try.size3) ?_
    refine KT.step rfl rfl (K.getM rfl rfl rfl (by omega) (by omega) (by decide) Try.agg3) ?_
    refine KT.step rfl rfl (K.min2 rfl rfl) ?_
    refine KT.step rfl rfl (K.fieldAddrO rfl Try.fld87_1 Try.size85) ?_
    refine KT.step rfl rfl (K.idxA (m := 0) rfl rfl (by omega) Try.underlying85 Try.size84) ?_
    refine KT.step rfl rfl (K.idxA rfl rfl (by omega) Try.underlying84 Try.size3) ?_
    refine KT.putM rfl rfl rfl rfl rfl rfl (by omega) (by omega) Try.size3 ?_
    refine KT.nil ?_
    refine thenK_n ?_
    refine KC.draw Try.mixed ?_
    refine KT.step rfl rfl (K.move rfl) ?_
    refine KT.step rfl rfl (K.move rfl) ?_
    refine KT.step rfl rfl (K.move rfl) ?_
    refine KT.step rfl rfl (K.move rfl) ?_
    refine KT.step rfl rfl (K.fieldAddrO rfl Try.fld87_1 Try.size85) ?_
    refine KT.step rfl rfl (K.idxA rfl rfl (by omega) Try.underlying85 Try.size84) ?_
    refine KT.step rfl rfl (K.idxA rfl rfl (by omega) Try.underlying84 Try.size3) ?_
    refine KT.step rfl rfl (K.getM rfl rfl rfl (by omega) (by omega) (by decide) Try.agg3) ?_
    refine KT.step rfl rfl (K.min2 rfl rfl) ?_
    refine KT.step rfl rfl (K.fieldAddrO rfl Try.fld87_1 Try.size85) ?_
    refine KT.step rfl rfl (K.idxA rfl rfl (by omega) Try.underlying85 Try.size84) ?_
    refine KT.step rfl rfl (K.idxA rfl rfl (by omega) Try.underlying84 Try.size3) ?_
    refine KT.putM rfl rfl rfl rfl rfl rfl (by omega) (by omega) Try.size3 ?_
    refine KT.nil ?_
    refine ⟨by kernel_rfl, ?_⟩
    refine blockK_n ?_
    refine thenK_n ?_
    refine KC.region ?_
    refine KT.step rfl rfl (K.add rfl rfl (wrap_id (by omega))) ?_
    refine KT.step rfl rfl (K.move rfl) ?_
    refine KT.nil ?_
    refine thenK_n ?_
    refine ⟨i + 1, by omega, by omega, (by rw [← set2_floP]; rfl), by simp [Go.Vm.look, extK]⟩
  · skip
    replace hc7 := of_decide_eq_false hc7
    refine KC.exit ?_
    refine thenK_x ?_
    refine thenK_x ?_
    refine blockK_e ?_
    refine thenK_n ?_
    refine KC.seq ?_
    refine KC.region ?_
    have e : i = n := by omega
    subst e
    refine KT.step rfl rfl (K.loadOA (mc (i) (Go.Zn.flo i a)) rfl rfl (by decide) Try.agg87 Try.size87 rfl) ?_
    refine KT.putAll (cs := mcx i (Go.Zn.flo i a)) rfl rfl rfl rfl rfl rfl rfl rfl Try.size87 ?_
    refine KT.nil ?_
    refine thenK_n ?_
    refine KC.ret ?_
    exact ⟨.inl rfl, _, resK_c (mc (i) (Go.Zn.flo i a)) rfl rfl rfl (by decide) Try.agg87 Try.size87 rfl, fin_mc rfl⟩
end Go.Proofs.Ytjfpeiioddfjcaa

