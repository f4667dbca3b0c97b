import Derived.Test.YtnfnjnaheckdbaaFlG
/-
  Dataflow graphs: Schedule of the program.
-/
namespace Go.Proofs.Ytnfnjnaheckdbaa
open Go.Vm Go.Fl
set_option maxRecDepth 10000 in
theorem scheduled48_err {d : DV} {n : Int} {L : List LZ} (hd : Lks d L) (hl : L.length ≤ 9223372036854775807) (he : (repA n L).2 ≠ 0) : DeepCall Try.prog 48 [.agg [DI n, d]] (.tup [.agg (wN fun _ => 0), Dnil, DI (repA n L).2]) := by
  refine deepCall_K 5 Try.func48 rfl (Nat.le_of_ble_eq_true rfl) fun M W0 => ?_
  refine KC.seq ?_
  refine KC.region ?_
  refine KT.step rfl rfl (K.box rfl) ?_
  refine KT.step rfl rfl (K.alloc Try.zero75) ?_
  refine KT.step rfl rfl (K.assign rfl) ?_
  refine KT.step rfl rfl (K.assign rfl) ?_
  refine KT.nil ?_
  refine thenK_n ?_
  refine KC.seq ?_
  refine KC.region ?_
  refine KT.step rfl rfl (K.loadOA ([DI n, d]) rfl rfl (by decide) Try.agg31 Try.size31 rfl) ?_
  refine KT.step rfl rfl (K.call1 rfl plainTry_46 (repetition46 hd hl)) ?_
  refine KT.step rfl rfl (K.move rfl) ?_
  refine KT.step rfl rfl (K.extract rfl rfl) ?_
  refine KT.step rfl rfl (K.extract rfl rfl) ?_
  refine KT.step rfl rfl (K.alloc Try.zero75) ?_
  refine KT.storeH (cs := wX (repA n L).1) rfl rfl rfl rfl rfl rfl (by simp [wN, Value.cells]) (by simp [wN, oneX, Value.oneCell']) Try.size75 fun σ1 l1 u1 v1 => ?_
  replace u1 := u1.trans (congrArg (fun c => some (VObj.mk c 0)) (splice_all (by simp [wN, Value.cells])))
  try simp only [List.length_append, List.length_cons, List.length_nil] at l1
  have y0 := (v1 (0) (by simp)).trans (show _ = some (⟨[.d (DI n), .d d], 0⟩ : VObj) from rfl)
  have y1 := (v1 (1) (by simp)).trans (show _ = some (⟨wX fun _ => 0, 0⟩ : VObj) from rfl)
  refine KT.step rfl rfl (K.assign rfl) ?_
  refine KT.nil ?_
  refine thenK_n ?_
  refine KC.seq ?_
  refine KC.seq ?_
  refine KC.region ?_
  refine KT.step rfl rfl (K.move rfl) ?_
  refine KT.step rfl rfl (K.neq rfl rfl) ?_
  refine KT.nil ?_
  refine thenK_n ?_
  refine KC.cond rfl (fun hc15 => ?_) (fun hc15 => ?_)
  · skip
    replace hc15 := of_decide_eq_true hc15
    refine KC.seq ?_
    refine KC.region ?_
    refine KT.step rfl rfl (K.buildL rfl build75z) ?_
    refine KT.step rfl rfl (K.move rfl) ?_
    refine KT.storeH (cs := wX fun _ => 0) rfl rfl rfl rfl y1 rfl (by simp [wN]) (by simp [wN, oneX, Value.oneCell']) Try.size75 fun σ2 l2 u2 v2 => ?_
    replace u2 := u2.trans (congrArg (fun c => some (VObj.mk c 0)) (splice_all (by simp [wN])))
    try simp only [List.length_append, List.length_cons, List.length_nil] at l2
    refine KT.step rfl rfl (K.assign rfl) ?_
    refine KT.step rfl rfl (K.assign rfl) ?_
    refine KT.nil ?_
    refine thenK_n ?_
    refine KC.ret ?_
    refine thenK_r ?_
    exact ⟨.inl rfl, _, resK_ctt (wN fun _ => 0) rfl rfl u2 (by simp) Try.agg75 Try.size75 (wN_len _) rfl rfl, rfl⟩
  · skip
    exact absurd (of_decide_eq_false hc15) (fun h => h he)
set_option maxRecDepth 10000 in
theorem scheduled48_no {d : DV} {N : Nat} {L : List LN} {q : Nat → Nat} (hd : Lks d (L.map LN.z)) (hr : RepG N L q) (hf : first0 L N q = none) : DeepCall Try.prog 48 [.agg [DI (N : Nat), d]] (.tup [.agg (wN fun _ => 0), Dnil, DI 8]) := by
  have hrep : DeepCall Try.prog 46 [.agg [DI (N : Nat), d]] (.tup [.agg (wN q), DI 0]) := by
    have h := repetition46 (n := (N : Int)) hd (by have := hr.len; rw [List.length_map]; omega)
    rw [hr.r] at h; exact h
  have hfir := first77 hd hr
  rw [hf] at hfir
  refine deepCall_K 5 Try.func48 rfl (Nat.le_of_ble_eq_true rfl) fun M W0 => ?_
  refine KC.seq ?_
  refine KC.region ?_
  refine KT.step rfl rfl (K.box rfl) ?_
  refine KT.step rfl rfl (K.alloc Try.zero75) ?_
  refine KT.step rfl rfl (K.assign rfl) ?_
  refine KT.step rfl rfl (K.assign rfl) ?_
  refine KT.nil ?_
  refine thenK_n ?_
  refine KC.seq ?_
  refine KC.region ?_
  refine KT.step rfl rfl (K.loadOA ([DI (N : Nat), d]) rfl rfl (by decide) Try.agg31 Try.size31 rfl) ?_
  refine KT.step rfl rfl (K.call1 rfl plainTry_46 (hrep)) ?_
  refine KT.step rfl rfl (K.move rfl) ?_
  refine KT.step rfl rfl (K.extract rfl rfl) ?_
  refine KT.step rfl rfl (K.extract rfl rfl) ?_
  refine KT.step rfl rfl (K.alloc Try.zero75) ?_
  refine KT.storeH (cs := wX q) rfl rfl rfl rfl rfl rfl (by simp [wN, Value.cells]) (by simp [wN, oneX, Value.oneCell']) Try.size75 fun σ1 l1 u1 v1 => ?_
  replace u1 := u1.trans (congrArg (fun c => some (VObj.mk c 0)) (splice_all (by simp [wN, Value.cells])))
  try simp only [List.length_append, List.length_cons, List.length_nil] at l1
  have y0 := (v1 (0) (by simp)).trans (show _ = some (⟨[.d (DI (N : Nat)), .d d], 0⟩ : VObj) from rfl)
  have y1 := (v1 (1) (by simp)).trans (show _ = some (⟨wX fun _ => 0, 0⟩ : VObj) from rfl)
  refine KT.step rfl rfl (K.assign rfl) ?_
  refine KT.nil ?_
  refine thenK_n ?_
  refine KC.seq ?_
  refine KC.seq ?_
  refine KC.region ?_
  refine KT.step rfl rfl (K.move rfl) ?_
  refine KT.step rfl rfl (K.neq rfl rfl) ?_
  refine KT.nil ?_
  refine thenK_n ?_
  refine KC.cond rfl (fun hc15 => ?_) (fun hc15 => ?_)
  · skip
    exact absurd rfl (of_decide_eq_true hc15)
  · skip
    replace hc15 := of_decide_eq_false hc15
    refine KC.skip ?_
    refine thenK_n ?_
    refine KC.seq ?_
    refine KC.region ?_
    refine KT.step rfl rfl (K.loadOA ([DI (N : Nat), d]) rfl y0 (by decide) Try.agg31 Try.size31 rfl) ?_
    refine KT.step rfl rfl (K.loadOA (wN q) rfl u1 (by decide) Try.agg75 Try.size75 rfl) ?_
    refine KT.step rfl rfl (K.call2 rfl rfl plainTry_77 (hfir)) ?_
    refine KT.step rfl rfl (K.move rfl) ?_
    refine KT.step rfl rfl (K.extract rfl rfl) ?_
    refine KT.step rfl rfl (K.extract rfl rfl) ?_
    refine KT.step rfl rfl (K.assign rfl) ?_
    refine KT.step rfl rfl (K.assign rfl) ?_
    refine KT.nil ?_
    refine thenK_n ?_
    refine KC.seq ?_
    refine KC.seq ?_
    refine KC.region ?_
    refine KT.step rfl rfl (K.move rfl) ?_
    refine KT.step rfl rfl (K.not rfl) ?_
    refine KT.nil ?_
    refine thenK_n ?_
    refine KC.cond rfl (fun hc25 => ?_) (fun hc25 => ?_)
    · skip
      refine KC.seq ?_
      refine KC.region ?_
      refine KT.step rfl rfl (K.buildL rfl build75z) ?_
      refine KT.storeH (cs := wX fun _ => 0) rfl rfl rfl rfl y1 rfl (by simp [wN]) (by simp [wN, oneX, Value.oneCell']) Try.size75 fun σ2 l2 u2 v2 => ?_
      replace u2 := u2.trans (congrArg (fun c => some (VObj.mk c 0)) (splice_all (by simp [wN])))
      try simp only [List.length_append, List.length_cons, List.length_nil] at l2
      refine KT.step rfl rfl (K.assign rfl) ?_
      refine KT.step rfl rfl (K.assign rfl) ?_
      refine KT.nil ?_
      refine thenK_n ?_
      refine KC.ret ?_
      refine thenK_r ?_
      exact ⟨.inl rfl, _, resK_ctt (wN fun _ => 0) rfl rfl u2 (by simp) Try.agg75 Try.size75 (wN_len _) rfl rfl, rfl⟩
    · skip
      cases hc25
set_option maxRecDepth 10000 in
theorem scheduled48_ok {d : DV} {N : Nat} {L : List LN} {q : Nat → Nat} {s : List Nat} (hd : Lks d (L.map LN.z)) (hr : RepG N L q) (hf : first0 L N q = some s) : DeepCall Try.prog 48 [.agg [DI (N : Nat), d]] (.tup [.agg (wN q), lsD (zs s), DI 0]) := by
  have hrep : DeepCall Try.prog 46 [.agg [DI (N : Nat), d]] (.tup [.agg (wN q), DI 0]) := by
    have h := repetition46 (n := (N : Int)) hd (by have := hr.len; rw [List.length_map]; omega)
    rw [hr.r] at h; exact h
  have hfir := first77 hd hr
  rw [hf] at hfir
  refine deepCall_K 5 Try.func48 rfl (Nat.le_of_ble_eq_true rfl) fun M W0 => ?_
  refine KC.seq ?_
  refine KC.region ?_
  refine KT.step rfl rfl (K.box rfl) ?_
  refine KT.step rfl rfl (K.alloc Try.zero75) ?_
  refine KT.step rfl rfl (K.assign rfl) ?_
  refine KT.step rfl rfl (K.assign rfl) ?_
  refine KT.nil ?_
  refine thenK_n ?_
  refine KC.seq ?_
  refine KC.region ?_
  refine KT.step rfl rfl (K.loadOA ([DI (N : Nat), d]) rfl rfl (by decide) Try.agg31 Try.size31 rfl) ?_
  refine KT.step rfl rfl (K.call1 rfl plainTry_46 (hrep)) ?_
  refine KT.step rfl rfl (K.move rfl) ?_
  refine KT.step rfl rfl (K.extract rfl rfl) ?_
  refine KT.step rfl rfl (K.extract rfl rfl) ?_
  refine KT.step rfl rfl (K.alloc Try.zero75) ?_
  refine KT.storeH (cs := wX q) rfl rfl rfl rfl rfl rfl (by simp [wN, Value.cells]) (by simp [wN, oneX, Value.oneCell']) Try.size75 fun σ1 l1 u1 v1 => ?_
  replace u1 := u1.trans (congrArg (fun c => some (VObj.mk c 0)) (splice_all (by simp [wN, Value.cells])))
  try simp only [List.length_append, List.length_cons, List.length_nil] at l1
  have y0 := (v1 (0) (by simp)).trans (show _ = some (⟨[.d (DI (N : Nat)), .d d], 0⟩ : VObj) from rfl)
  have y1 := (v1 (1) (by simp)).trans (show _ = some (⟨wX fun _ => 0, 0⟩ : VObj) from rfl)
  refine KT.step rfl rfl (K.assign rfl) ?_
  refine KT.nil ?_
  refine thenK_n ?_
  refine KC.seq ?_
  refine KC.seq ?_
  refine KC.region ?_
  refine KT.step rfl rfl (K.move rfl) ?_
  refine KT.step rfl rfl (K.neq rfl rfl) ?_
  refine KT.nil ?_
  refine thenK_n ?_
  refine KC.cond rfl (fun hc15 => ?_) (fun hc15 => ?_)
  · skip
    exact absurd rfl (of_decide_eq_true hc15)
  · skip
    replace hc15 := of_decide_eq_false hc15
    refine KC.skip ?_
    refine thenK_n ?_
    refine KC.seq ?_
    refine KC.region ?_
    refine KT.step rfl rfl (K.loadOA ([DI (N : Nat), d]) rfl y0 (by decide) Try.agg31 Try.size31 rfl) ?_
    refine KT.step rfl rfl (K.loadOA (wN q) rfl u1 (by decide) Try.agg75 Try.size75 rfl) ?_
    refine KT.step rfl rfl (K.call2 rfl rfl plainTry_77 (hfir)) ?_
    refine KT.step rfl rfl (K.move rfl) ?_
    refine KT.step rfl rfl (K.extract rfl rfl) ?_
    refine KT.step rfl rfl (K.extract rfl rfl) ?_
    refine KT.step rfl rfl (K.assign rfl) ?_
    refine KT.step rfl rfl (K.assign rfl) ?_
    refine KT.nil ?_
    refine thenK_n ?_
    refine KC.seq ?_
    refine KC.seq ?_
    refine KC.region ?_
    refine KT.step rfl rfl (K.move rfl) ?_
    refine KT.step rfl rfl (K.not rfl) ?_
    refine KT.nil ?_
    refine thenK_n ?_
    refine KC.cond rfl (fun hc25 => ?_) (fun hc25 => ?_)
    · skip
      cases hc25
    · skip
      refine KC.skip ?_
      refine thenK_n ?_
      refine KC.seq ?_
      refine KC.region ?_
      refine KT.step rfl rfl (K.loadOA (wN q) rfl u1 (by decide) Try.agg75 Try.size75 rfl) ?_
      refine KT.step rfl rfl (K.move rfl) ?_
      refine KT.storeH (cs := wX q) rfl rfl rfl rfl y1 rfl (by simp [wN]) (by simp [wN, oneX, Value.oneCell']) Try.size75 fun σ2 l2 u2 v2 => ?_
      replace u2 := u2.trans (congrArg (fun c => some (VObj.mk c 0)) (splice_all (by simp [wN])))
      try simp only [List.length_append, List.length_cons, List.length_nil] at l2
      refine KT.step rfl rfl (K.assign rfl) ?_
      refine KT.step rfl rfl (K.assign rfl) ?_
      refine KT.nil ?_
      refine thenK_n ?_
      refine KC.ret ?_
      exact ⟨.inl rfl, _, resK_ctt (wN q) rfl rfl u2 (by simp) Try.agg75 Try.size75 (wN_len _) rfl rfl, rfl⟩
set_option maxRecDepth 10000 in
theorem schedule23 {d sd : DV} {n e : Int} {w : Nat → Nat} (h : DeepCall Try.prog 48 [.agg [DI n, d]] (.tup [.agg (wN w), sd, DI e])) : DeepCall Try.prog 23 [.agg [DI n, d]] (.tup [sd, DI e]) := by
  refine deepCall_K 5 Try.func23 rfl (Nat.le_of_ble_eq_true rfl) fun M W0 => ?_
  refine KC.seq ?_
  refine KC.region ?_
  refine KT.step rfl rfl (K.box rfl) ?_
  refine KT.step rfl rfl (K.assign rfl) ?_
  refine KT.step rfl rfl (K.assign rfl) ?_
  refine KT.nil ?_
  refine thenK_n ?_
  refine KC.seq ?_
  refine KC.region ?_
  refine KT.step rfl rfl (K.loadOA ([DI n, d]) rfl rfl (by decide) Try.agg31 Try.size31 rfl) ?_
  refine KT.step rfl rfl (K.call1 rfl plainTry_48 (h)) ?_
  refine KT.step rfl rfl (K.move rfl) ?_
  refine KT.step rfl rfl (K.extract rfl rfl) ?_
  refine KT.step rfl rfl (K.extract rfl rfl) ?_
  refine KT.step rfl rfl (K.extract rfl rfl) ?_
  refine KT.step rfl rfl (K.alloc Try.zero75) ?_
  refine KT.storeH (cs := wX w) rfl rfl rfl rfl rfl rfl (by simp [wN, Value.cells]) (by simp [wN, oneX, Value.oneCell']) Try.size75 fun σ1 l1 u1 v1 => ?_
  replace u1 := u1.trans (congrArg (fun c => some (VObj.mk c 0)) (splice_all (by simp [wN, Value.cells])))
  try simp only [List.length_append, List.length_cons, List.length_nil] at l1
  refine KT.step rfl rfl (K.assign rfl) ?_
  refine KT.step rfl rfl (K.assign rfl) ?_
  refine KT.nil ?_
  refine thenK_n ?_
  refine KC.seq ?_
  refine KC.region ?_
  refine KT.step rfl rfl (K.move rfl) ?_
  refine KT.step rfl rfl (K.move rfl) ?_
  refine KT.step rfl rfl (K.assign rfl) ?_
  refine KT.step rfl rfl (K.assign rfl) ?_
  refine KT.nil ?_
  refine thenK_n ?_
  refine KC.ret ?_
  exact ⟨.inl rfl, _, rfl, rfl⟩
end Go.Proofs.Ytnfnjnaheckdbaa

