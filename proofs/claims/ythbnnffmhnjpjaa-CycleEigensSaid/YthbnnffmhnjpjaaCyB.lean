import Derived.Test.YthbnnffmhnjpjaaCyEg
import Derived.Test.YthbnnffmhnjpjaaCyA
/-
  Times: matrices that are made by a function.
-/
namespace Go.Proofs.Ythbnnffmhnjpjaa
open Go.Vm Go.Cy
theorem plainTry_85 : plainFn Try.prog 85 = true := by kernel_rfl
set_option maxRecDepth 10000 in
theorem build85_own {N L : Nat} {f : Nat → Nat → Int} {fv : XV} {fid : FuncId} {first caps : List XV} {pf : Nat → List VObj} (hN : N ≤ 1000) (hf : asFn fv = some (fid, first, caps)) (hp : plainFn Try.prog fid = true) (hL : ∀ t, (pf t).length = L)
    (hc : ∀ i j, i < N → j < N → ∀ τ, OwnCall Try.prog fid (pf (i * N + j) ++ τ) (first ++ [.d (DI (i : Nat)), .d (DI (j : Nat))] ++ caps) (pf (i * N + j + 1) ++ τ) (.d (DI (f i j)))) :
    OwnCall Try.prog 85 (pf 0) [.d (DI (N : Nat)), fv] (pf (N * N) ++ gP L N f N) (.osl L 0 N 1 N true) := by
  refine ownCall_K Try.func85 rfl (Nat.le_of_ble_eq_true rfl) fun M W0 => ?_
  refine KC.seq ?_
  refine KC.region ?_
  refine KT.step rfl rfl (K.assign rfl) ?_
  refine KT.nil ?_
  refine thenK_n ?_
  refine KC.seq ?_
  refine KC.region ?_
  refine KT.step rfl rfl (K.move rfl) ?_
  refine KT.step rfl rfl (K.make rfl rfl (Nat.le_refl _) (by omega) Try.underlying22 Try.one33) ?_
  rw [hL 0]
  refine KT.step rfl rfl (K.assign rfl) ?_
  refine KT.nil ?_
  refine thenK_n ?_
  refine KC.seq ?_
  refine KC.seq ?_
  refine KC.region ?_
  refine KT.step rfl rfl (K.move rfl) ?_
  refine KT.step rfl rfl (K.lenO rfl Try.underlying22) ?_
  refine KT.step rfl rfl (K.move rfl) ?_
  refine KT.nil ?_
  refine thenK_n ?_
  refine KC.block ?_
  refine KC.loop (fun i : Nat => pf (i * N) ++ gP L N f i) (fun i => [(0, .d (DI (N : Nat))), (1, fv), (5, .osl L 0 N 1 N true), (11, .d (DI (N : Nat))), (12, .d (DI (i : Nat)))]) (fun i => i ≤ N) (fun i => N - i) 0 (Nat.zero_le _) (by simp [gP_zero]) (by simp [Go.Vm.look, extK, enterK]) ?_
  intro i hi
  refine KC.seq ?_
  refine KC.region ?_
  refine KT.step rfl rfl (K.lss rfl rfl) ?_
  refine KT.nil ?_
  refine thenK_n ?_
  refine KC.seq ?_
  refine KC.cond rfl (fun hc13 => ?_) (fun hc13 => ?_)
  · skip
    replace hc13 := of_decide_eq_true hc13
    refine KC.skip ?_
    refine thenK_n ?_
    refine KC.seq ?_
    refine KC.block ?_
    refine KC.seq ?_
    refine KC.region ?_
    refine KT.step rfl rfl (K.move rfl) ?_
    refine KT.step rfl rfl (K.assign rfl) ?_
    refine KT.nil ?_
    refine thenK_n ?_
    refine KC.seq ?_
    refine KC.region ?_
    refine KT.step rfl rfl (K.move rfl) ?_
    refine KT.step rfl rfl (K.move rfl) ?_
    refine KT.step rfl rfl (K.move rfl) ?_
    refine KT.step rfl rfl (K.make rfl rfl (Nat.le_refl _) (by omega) Try.underlying33 Try.one3) ?_
    refine KT.step rfl rfl (K.idxO rfl rfl (by omega) Try.underlying22 Try.size33) ?_
    refine KT.step rfl rfl (K.storeO rfl rfl ((List.getElem?_append_left (by rw [List.length_append, hL, gP_len]; omega)).trans (gP_at (hL _) i)) (by rw [updL_len]; omega) rfl rfl Try.size33) ?_
    rw [gP_start (hL _) (show i < N by omega)]
    refine KT.nil ?_
    refine thenK_n ?_
    refine KC.seq ?_
    refine KC.region ?_
    refine KT.step rfl rfl (K.move rfl) ?_
    refine KT.step rfl rfl (K.move rfl) ?_
    refine KT.step rfl rfl (K.idxO rfl rfl (by omega) Try.underlying22 Try.size33) ?_
    refine KT.step rfl rfl (K.loadO rfl (gQ_at (hL _) i 0) (by simp) (oslL_get (by omega)) Try.agg33) ?_
    refine KT.step rfl rfl (K.lenO rfl Try.underlying33) ?_
    refine KT.step rfl rfl (K.move rfl) ?_
    refine KT.nil ?_
    refine thenK_n ?_
    refine KC.block ?_
    refine KC.loop (fun j : Nat => pf (i * N + j) ++ gQ L N f i j) (fun j => [(0, .d (DI (N : Nat))), (1, fv), (5, .osl L 0 N 1 N true), (11, .d (DI (N : Nat))), (12, .d (DI (i : Nat))), (6, .d (DI (i : Nat))), (24, .d (DI (N : Nat))), (25, .d (DI (j : Nat)))]) (fun j => j ≤ N) (fun j => N - j) 0 (Nat.zero_le _) rfl (by simp [Go.Vm.look, extK, enterK]) ?_
    intro j hj
    refine KC.seq ?_
    refine KC.region ?_
    refine KT.step rfl rfl (K.lss rfl rfl) ?_
    refine KT.nil ?_
    refine thenK_n ?_
    refine KC.seq ?_
    refine KC.cond rfl (fun hc26 => ?_) (fun hc26 => ?_)
    · skip
      replace hc26 := of_decide_eq_true hc26
      refine KC.skip ?_
      refine thenK_n ?_
      refine KC.seq ?_
      refine KC.block ?_
      refine KC.seq ?_
      refine KC.region ?_
      refine KT.step rfl rfl (K.move rfl) ?_
      refine KT.step rfl rfl (K.assign rfl) ?_
      refine KT.nil ?_
      refine thenK_n ?_
      refine KC.drawZ (fun id => id < L) Try.mixed ?_
      refine KTZ.step rfl rfl (K.move rfl) ?_
      refine KTZ.step rfl rfl (K.move rfl) ?_
      refine KTZ.step rfl rfl (K.idxO rfl rfl (by omega) Try.underlying22 Try.size33) ?_
      refine KTZ.load rfl rfl rfl (by simp) (K.loadO rfl (gQ_at (hL _) i j) (by simp) (oslL_get (by omega)) Try.agg33) ?_
      refine KTZ.step rfl rfl (K.move rfl) ?_
      refine KTZ.step rfl rfl (K.move rfl) ?_
      refine KTZ.step rfl rfl (K.move rfl) ?_
      refine KTZ.step rfl rfl (K.move rfl) ?_
      refine KTZ.write rfl rfl (keeps_pre (hL _) (hL _)) (K.callV rfl hf rfl hp (hc i j (by omega) (by omega) _)) ?_
      refine KTZ.step rfl rfl (K.idxO rfl rfl (by omega) Try.underlying33 Try.size3) ?_
      refine KTZ.step rfl rfl (K.storeO rfl rfl (gQ_row (hL _) i j) (by rw [rowC_len]; omega) rfl rfl Try.size3) ?_
      refine KTZ.nil ?_
      refine ⟨by kernel_rfl, ?_⟩
      refine blockK_n ?_
      refine thenK_n ?_
      refine KC.region ?_
      refine KT.step rfl rfl (K.add rfl rfl (wrap_id (by omega))) ?_
      refine KT.step rfl rfl (K.move rfl) ?_
      refine KT.nil ?_
      refine thenK_n ?_
      refine ⟨j + 1, by omega, by omega, gQ_step (hL _) (by omega), by simp [Go.Vm.look, extK]⟩
    · skip
      replace hc26 := of_decide_eq_false hc26
      refine KC.exit ?_
      refine thenK_x ?_
      refine thenK_x ?_
      refine blockK_e ?_
      refine blockK_n ?_
      refine thenK_n ?_
      refine KC.region ?_
      refine KT.step rfl rfl (K.add rfl rfl (wrap_id (by omega))) ?_
      refine KT.step rfl rfl (K.move rfl) ?_
      refine KT.nil ?_
      refine thenK_n ?_
      have hjN : j = N := by omega
      subst hjN
      refine ⟨i + 1, by omega, by omega, ?_, by simp [Go.Vm.look, extK]⟩
      rw [gQ_end, Nat.succ_mul]
  · skip
    replace hc13 := of_decide_eq_false hc13
    refine KC.exit ?_
    refine thenK_x ?_
    refine thenK_x ?_
    refine blockK_e ?_
    refine thenK_n ?_
    refine KC.seq ?_
    refine KC.region ?_
    refine KT.step rfl rfl (K.move rfl) ?_
    refine KT.step rfl rfl (K.assign rfl) ?_
    refine KT.nil ?_
    refine thenK_n ?_
    refine KC.ret ?_
    have hiN : i = N := by omega
    subst hiN
    exact ⟨.inl rfl, rfl, rfl⟩

/-- .. by one that only reads. -/
theorem build85 {N : Nat} {f : Nat → Nat → Int} {fid : FuncId} {caps : List DV} (hN : N ≤ 1000) (hp : plainFn Try.prog fid = true)
    (hc : ∀ i j, i < N → j < N → DeepCall Try.prog fid ([DI (i : Nat), DI (j : Nat)] ++ caps) (DI (f i j))) : DeepCall Try.prog 85 [DI (N : Nat), .fn (.func fid) [] caps] (genD N N f) := by
  have h := build85_own (N := N) (L := 0) (f := f) (fv := .d (.fn (.func fid) [] caps)) (fid := fid) (first := []) (caps := caps.map .d) (pf := fun _ => []) hN rfl hp (fun _ => rfl) (fun i j hi hj τ => by
    have := (hc i j hi hj).own τ
    simpa using this)
  exact h.deep (args := [DI (N : Nat), .fn (.func fid) [] caps]) 5 (gP_fin rfl)
end Go.Proofs.Ythbnnffmhnjpjaa

