import Derived.Test.YtnfnjnaheckdbaaFlSa
/-
  Schedule and Peaks of the reference.
-/
namespace Go.Proofs.Ytnfnjnaheckdbaa
open Go.Vm Go.Fl
theorem plainTry_26 : plainFn Try.prog 26 = true := by kernel_rfl

theorem rrep_ok {d : DV} {N : Nat} {L : List LN} {q : Nat → Nat} (hd : Lks d (L.map LN.z)) (hr : RepG N L q) : DeepCall Try.prog 20 [.agg [DI (N : Nat), d]] (.tup [(iD N fun k => (q k : Int)), DI 0]) := by
  have h := rrepeat20 (n := (N : Int)) hd (by rw [List.length_map]; have := hr.len; omega)
  unfold rrD at h
  rw [hr.r] at h
  simpa using h
theorem fz3 {σ : List VObj} {n : Nat} {f : Nat → Int} {a b : DV} (h : σ[1]? = some ⟨iX n f, 0⟩) : ([.d a, .d b, .osl 1 0 n 1 n true] : List XV).mapM (deepen (freezeIds σ [1]) 5) = some [a, b, iD n f] := by
  rw [List.mapM_cons, List.mapM_cons, List.mapM_cons, fz_iX h (by simp)]; rfl
set_option maxRecDepth 10000 in
theorem rschedule_err {d : DV} {n : Int} {L : List LZ} (hd : Lks d L) (hl : L.length ≤ 9223372036854775807) (he : (repA n L).2 ≠ 0) : DeepCall Try.prog 24 [.agg [DI n, d]] (.tup [Dnil, DI (repA n L).2]) := by
  refine deepCall_K 5 Try.func24 rfl (Nat.le_of_ble_eq_true rfl) fun M W0 => ?_
  refine KC.seq ?_
  refine KC.region ?_
  refine KT.step rfl rfl (K.box rfl) ?_
  refine KT.step rfl rfl (K.assign rfl) ?_
  refine KT.step rfl rfl (K.assign rfl) ?_
  refine KT.nil ?_
  refine thenK_n ?_
  refine KC.seq ?_
  refine KC.region ?_
  refine KT.step rfl rfl (K.loadOA [DI n, d] rfl rfl (by decide) Try.agg24 Try.size24 rfl) ?_
  refine KT.step rfl rfl (K.call1 rfl plainTry_20 (rrepeat20 hd hl)) ?_
  refine KT.step rfl rfl (K.move rfl) ?_
  refine KT.step rfl rfl (K.extract rfl rfl) ?_
  refine KT.step rfl rfl (K.extract rfl rfl) ?_
  refine KT.step rfl rfl (K.assign rfl) ?_
  refine KT.step rfl rfl (K.assign rfl) ?_
  refine KT.nil ?_
  refine thenK_n ?_
  refine KC.seq ?_
  refine KC.seq ?_
  refine KC.region ?_
  refine KT.step rfl rfl (K.move rfl) ?_
  refine KT.step rfl rfl (K.neq rfl rfl) ?_
  refine KT.nil ?_
  refine thenK_n ?_
  refine KC.cond rfl (fun hc14 => ?_) (fun hc14 => ?_)
  · skip
    replace hc14 := of_decide_eq_true hc14
    refine KC.seq ?_
    refine KC.region ?_
    refine KT.step rfl rfl (K.move rfl) ?_
    refine KT.step rfl rfl (K.assign rfl) ?_
    refine KT.step rfl rfl (K.assign rfl) ?_
    refine KT.nil ?_
    refine thenK_n ?_
    refine KC.ret ?_
    refine thenK_r ?_
    exact ⟨.inl rfl, _, rfl, rfl⟩
  · skip
    exact absurd he (of_decide_eq_false hc14)
set_option maxRecDepth 10000 in
theorem rschedule_no {d : DV} {N : Nat} {L : List LN} {q : Nat → Nat} (hd : Lks d (L.map LN.z)) (hr : RepG N L q) (hf : first0 L N q = none) : DeepCall Try.prog 24 [.agg [DI (N : Nat), d]] (.tup [Dnil, DI 8]) := by
  have h6 := hr.n6
  have hrest := rest49 hd hr
  rw [hf] at hrest
  refine deepCall_K 5 Try.func24 rfl (Nat.le_of_ble_eq_true rfl) fun M W0 => ?_
  refine KC.seq ?_
  refine KC.region ?_
  refine KT.step rfl rfl (K.box rfl) ?_
  refine KT.step rfl rfl (K.assign rfl) ?_
  refine KT.step rfl rfl (K.assign rfl) ?_
  refine KT.nil ?_
  refine thenK_n ?_
  refine KC.seq ?_
  refine KC.region ?_
  refine KT.step rfl rfl (K.loadOA [DI (N : Nat), d] rfl rfl (by decide) Try.agg24 Try.size24 rfl) ?_
  refine KT.step rfl rfl (K.call1 rfl plainTry_20 (rrep_ok hd hr)) ?_
  refine KT.step rfl rfl (K.move rfl) ?_
  refine KT.step rfl rfl (K.extract rfl rfl) ?_
  refine KT.step rfl rfl (K.extract rfl rfl) ?_
  refine KT.step rfl rfl (K.assign rfl) ?_
  refine KT.step rfl rfl (K.assign rfl) ?_
  refine KT.nil ?_
  refine thenK_n ?_
  refine KC.seq ?_
  refine KC.seq ?_
  refine KC.region ?_
  refine KT.step rfl rfl (K.move rfl) ?_
  refine KT.step rfl rfl (K.neq rfl rfl) ?_
  refine KT.nil ?_
  refine thenK_n ?_
  refine KC.cond rfl (fun hc14 => ?_) (fun hc14 => ?_)
  · skip
    exact absurd hc14 (by decide)
  · skip
    replace hc14 := of_decide_eq_false hc14
    refine KC.skip ?_
    refine thenK_n ?_
    refine KC.seq ?_
    refine KC.draw Try.mixed ?_
    refine KT.step rfl rfl (K.loadOA [DI (N : Nat), d] rfl rfl (by decide) Try.agg24 Try.size24 rfl) ?_
    refine KT.step rfl rfl (K.move rfl) ?_
    refine KT.step rfl rfl (K.fieldAddrO rfl Try.fld24_0 Try.size3) ?_
    refine KT.step rfl rfl (K.loadO (y := .d (DI (N : Nat))) rfl rfl (by simp) rfl Try.agg3) ?_
    refine KT.step rfl rfl (K.make (m := N) rfl rfl (Nat.le_refl _) (by omega) Try.underlying25 Try.one3) ?_
    rw [iX_zero]
    refine KT.step rfl rfl (K.callZ [1] 5 rfl plainTry_49 (fz3 rfl) hrest) ?_
    refine KT.step rfl rfl (K.move rfl) ?_
    refine KT.step rfl rfl (K.extract rfl rfl) ?_
    refine KT.step rfl rfl (K.extract rfl rfl) ?_
    refine KT.step rfl rfl (K.assign rfl) ?_
    refine KT.step rfl rfl (K.assign rfl) ?_
    refine KT.nil ?_
    refine ⟨by kernel_rfl, ?_⟩
    refine thenK_n ?_
    refine KC.seq ?_
    refine KC.seq ?_
    refine KC.region ?_
    refine KT.step rfl rfl (K.move rfl) ?_
    refine KT.step rfl rfl (K.not rfl) ?_
    refine KT.nil ?_
    refine thenK_n ?_
    refine KC.cond rfl (fun hc26 => ?_) (fun hc26 => ?_)
    · skip
      refine KC.seq ?_
      refine KC.region ?_
      refine KT.step rfl rfl (K.assign rfl) ?_
      refine KT.step rfl rfl (K.assign rfl) ?_
      refine KT.nil ?_
      refine thenK_n ?_
      refine KC.ret ?_
      refine thenK_r ?_
      exact ⟨.inl rfl, _, rfl, rfl⟩
    · skip
      exact absurd hc26 (by simp)
set_option maxRecDepth 10000 in
theorem rschedule_ok {d : DV} {N : Nat} {L : List LN} {q : Nat → Nat} (hd : Lks d (L.map LN.z)) (hr : RepG N L q) {s : List Nat} (hf : first0 L N q = some s) : DeepCall Try.prog 24 [.agg [DI (N : Nat), d]] (.tup [lsD (zs s), DI 0]) := by
  have h6 := hr.n6
  have hrest := rest49 hd hr
  rw [hf] at hrest
  refine deepCall_K 5 Try.func24 rfl (Nat.le_of_ble_eq_true rfl) fun M W0 => ?_
  refine KC.seq ?_
  refine KC.region ?_
  refine KT.step rfl rfl (K.box rfl) ?_
  refine KT.step rfl rfl (K.assign rfl) ?_
  refine KT.step rfl rfl (K.assign rfl) ?_
  refine KT.nil ?_
  refine thenK_n ?_
  refine KC.seq ?_
  refine KC.region ?_
  refine KT.step rfl rfl (K.loadOA [DI (N : Nat), d] rfl rfl (by decide) Try.agg24 Try.size24 rfl) ?_
  refine KT.step rfl rfl (K.call1 rfl plainTry_20 (rrep_ok hd hr)) ?_
  refine KT.step rfl rfl (K.move rfl) ?_
  refine KT.step rfl rfl (K.extract rfl rfl) ?_
  refine KT.step rfl rfl (K.extract rfl rfl) ?_
  refine KT.step rfl rfl (K.assign rfl) ?_
  refine KT.step rfl rfl (K.assign rfl) ?_
  refine KT.nil ?_
  refine thenK_n ?_
  refine KC.seq ?_
  refine KC.seq ?_
  refine KC.region ?_
  refine KT.step rfl rfl (K.move rfl) ?_
  refine KT.step rfl rfl (K.neq rfl rfl) ?_
  refine KT.nil ?_
  refine thenK_n ?_
  refine KC.cond rfl (fun hc14 => ?_) (fun hc14 => ?_)
  · skip
    exact absurd hc14 (by decide)
  · skip
    replace hc14 := of_decide_eq_false hc14
    refine KC.skip ?_
    refine thenK_n ?_
    refine KC.seq ?_
    refine KC.draw Try.mixed ?_
    refine KT.step rfl rfl (K.loadOA [DI (N : Nat), d] rfl rfl (by decide) Try.agg24 Try.size24 rfl) ?_
    refine KT.step rfl rfl (K.move rfl) ?_
    refine KT.step rfl rfl (K.fieldAddrO rfl Try.fld24_0 Try.size3) ?_
    refine KT.step rfl rfl (K.loadO (y := .d (DI (N : Nat))) rfl rfl (by simp) rfl Try.agg3) ?_
    refine KT.step rfl rfl (K.make (m := N) rfl rfl (Nat.le_refl _) (by omega) Try.underlying25 Try.one3) ?_
    rw [iX_zero]
    refine KT.step rfl rfl (K.callZ [1] 5 rfl plainTry_49 (fz3 rfl) hrest) ?_
    refine KT.step rfl rfl (K.move rfl) ?_
    refine KT.step rfl rfl (K.extract rfl rfl) ?_
    refine KT.step rfl rfl (K.extract rfl rfl) ?_
    refine KT.step rfl rfl (K.assign rfl) ?_
    refine KT.step rfl rfl (K.assign rfl) ?_
    refine KT.nil ?_
    refine ⟨by kernel_rfl, ?_⟩
    refine thenK_n ?_
    refine KC.seq ?_
    refine KC.seq ?_
    refine KC.region ?_
    refine KT.step rfl rfl (K.move rfl) ?_
    refine KT.step rfl rfl (K.not rfl) ?_
    refine KT.nil ?_
    refine thenK_n ?_
    refine KC.cond rfl (fun hc26 => ?_) (fun hc26 => ?_)
    · skip
      exact absurd hc26 (by simp)
    · skip
      refine KC.skip ?_
      refine thenK_n ?_
      refine KC.seq ?_
      refine KC.region ?_
      refine KT.step rfl rfl (K.move rfl) ?_
      refine KT.step rfl rfl (K.assign rfl) ?_
      refine KT.step rfl rfl (K.assign rfl) ?_
      refine KT.nil ?_
      refine thenK_n ?_
      refine KC.ret ?_
      exact ⟨.inl rfl, _, rfl, rfl⟩
set_option maxRecDepth 10000 in
theorem rpeaks_err {e : DV} {d : DV} {n : Int} {L : List LZ} (hd : Lks d L) (hl : L.length ≤ 9223372036854775807) (he : (repA n L).2 ≠ 0) : DeepCall Try.prog 26 [.agg [DI n, d], e] (.tup [Dnil, DI (repA n L).2]) := by
  refine deepCall_K 5 Try.func26 rfl (Nat.le_of_ble_eq_true rfl) fun M W0 => ?_
  refine KC.seq ?_
  refine KC.region ?_
  refine KT.step rfl rfl (K.box rfl) ?_
  refine KT.step rfl rfl (K.assign rfl) ?_
  refine KT.step rfl rfl (K.assign rfl) ?_
  refine KT.nil ?_
  refine thenK_n ?_
  refine KC.seq ?_
  refine KC.region ?_
  refine KT.step rfl rfl (K.loadOA [DI n, d] rfl rfl (by decide) Try.agg24 Try.size24 rfl) ?_
  refine KT.step rfl rfl (K.call1 rfl plainTry_20 (rrepeat20 hd hl)) ?_
  refine KT.step rfl rfl (K.move rfl) ?_
  refine KT.step rfl rfl (K.extract rfl rfl) ?_
  refine KT.step rfl rfl (K.extract rfl rfl) ?_
  refine KT.step rfl rfl (K.assign rfl) ?_
  refine KT.step rfl rfl (K.assign rfl) ?_
  refine KT.nil ?_
  refine thenK_n ?_
  refine KC.seq ?_
  refine KC.seq ?_
  refine KC.region ?_
  refine KT.step rfl rfl (K.move rfl) ?_
  refine KT.step rfl rfl (K.neq rfl rfl) ?_
  refine KT.nil ?_
  refine thenK_n ?_
  refine KC.cond rfl (fun hc22 => ?_) (fun hc22 => ?_)
  · skip
    replace hc22 := of_decide_eq_true hc22
    refine KC.seq ?_
    refine KC.region ?_
    refine KT.step rfl rfl (K.move rfl) ?_
    refine KT.step rfl rfl (K.assign rfl) ?_
    refine KT.step rfl rfl (K.assign rfl) ?_
    refine KT.nil ?_
    refine thenK_n ?_
    refine KC.ret ?_
    refine thenK_r ?_
    exact ⟨.inl rfl, _, rfl, rfl⟩
  · skip
    exact absurd he (of_decide_eq_false hc22)
set_option maxHeartbeats 2000000 in
set_option maxRecDepth 10000 in
theorem rpeaks_ok {e : DV} {s : List Int} {b : Bool} {d : DV} {N : Nat} {L : List LN} {q : Nat → Nat} (hd : Lks d (L.map LN.z)) (hr : RepG N L q) (hs : Ints e s) (hsl : s.length < 9223372036854775807) (hb : (pkRes q L.length (pkL L N q s (fun _ => 0) (ldAt L fun _ => 0))).2 = b) :
    DeepCall Try.prog 26 [.agg [DI (N : Nat), d], e] (.tup [if b = true then (pkRes q L.length (pkL L N q s (fun _ => 0) (ldAt L fun _ => 0))).1 else Dnil, DI (if b = true then 0 else 2)]) := by
  have h6 := hr.n6
  have h1 := hr.n1
  have hlen := hr.len
  have hsum := hr.sum
  refine deepCall_K 5 Try.func26 rfl (Nat.le_of_ble_eq_true rfl) fun M W0 => ?_
  refine KC.seq ?_
  refine KC.region ?_
  refine KT.step rfl rfl (K.box rfl) ?_
  refine KT.step rfl rfl (K.assign rfl) ?_
  refine KT.step rfl rfl (K.assign rfl) ?_
  refine KT.nil ?_
  refine thenK_n ?_
  refine KC.seq ?_
  refine KC.region ?_
  refine KT.step rfl rfl (K.loadOA [DI (N : Nat), d] rfl rfl (by decide) Try.agg24 Try.size24 rfl) ?_
  refine KT.step rfl rfl (K.call1 rfl plainTry_20 (rrep_ok hd hr)) ?_
  refine KT.step rfl rfl (K.move rfl) ?_
  refine KT.step rfl rfl (K.extract rfl rfl) ?_
  refine KT.step rfl rfl (K.extract rfl rfl) ?_
  refine KT.step rfl rfl (K.assign rfl) ?_
  refine KT.step rfl rfl (K.assign rfl) ?_
  refine KT.nil ?_
  refine thenK_n ?_
  refine KC.seq ?_
  refine KC.seq ?_
  refine KC.region ?_
  refine KT.step rfl rfl (K.move rfl) ?_
  refine KT.step rfl rfl (K.neq rfl rfl) ?_
  refine KT.nil ?_
  refine thenK_n ?_
  refine KC.cond rfl (fun hc22 => ?_) (fun hc22 => ?_)
  · skip
    exact absurd hc22 (by decide)
  · skip
    replace hc22 := of_decide_eq_false hc22
    refine KC.skip ?_
    refine thenK_n ?_
    refine KC.seq ?_
    refine KC.region ?_
    refine KT.step rfl rfl (K.fieldAddrO rfl Try.fld24_0 Try.size3) ?_
    refine KT.step rfl rfl (K.loadO (y := .d (DI (N : Nat))) rfl rfl (by simp) rfl Try.agg3) ?_
    refine KT.step rfl rfl (K.make (m := N) rfl rfl (Nat.le_refl _) (by omega) Try.underlying25 Try.one3) ?_
    rw [iX_zero]
    refine KT.step rfl rfl (K.assign rfl) ?_
    refine KT.nil ?_
    refine thenK_n ?_
    refine KC.seq ?_
    refine KC.region ?_
    refine KT.step rfl rfl (K.fieldAddrO rfl Try.fld24_1 Try.size22) ?_
    refine KT.step rfl rfl (K.loadO (y := .d d) rfl rfl (by simp) rfl Try.agg22) ?_
    refine KT.step rfl rfl (K.lenN rfl hd Try.underlying22) ?_
    refine KT.step rfl rfl (K.make (m := L.length) rfl rfl (Nat.le_refl _) (by omega) Try.underlying25 Try.one3) ?_
    rw [iX_zero]
    refine KT.step rfl rfl (K.assign rfl) ?_
    refine KT.nil ?_
    refine thenK_n ?_
    refine KC.seq ?_
    refine KC.seq ?_
    refine KC.region ?_
    refine KT.step rfl rfl (K.move rfl) ?_
    refine KT.step rfl rfl (K.len rfl hs Try.underlying25) ?_
    refine KT.step rfl rfl (K.add rfl rfl (wrap_id (by omega))) ?_
    refine KT.step rfl rfl (K.move rfl) ?_
    refine KT.nil ?_
    refine thenK_n ?_
    refine KC.block ?_
    refine KC.loop (fun p : List VObj × Nat × (Nat → Nat) × (Nat → Int) × (Nat → Int) => p.1) (fun p => [(1, .d e), (2, .optr 0 0), (6, .d (iD N fun k => (q k : Int))), (8, .osl 1 0 N 1 N true), (9, .osl 2 0 L.length 1 L.length true), (33, .d (DI ((s.length : Int) + 1))), (34, .d (DI (p.2.1 : Nat)))]) (fun p => p.2.1 ≤ s.length ∧ p.1[0]? = some ⟨[.d (DI (N : Nat)), .d d], 0⟩ ∧ p.1[1]? = some ⟨iX N fun k => (p.2.2.1 k : Int), 0⟩ ∧ p.1[2]? = some ⟨iX L.length p.2.2.2.1, 0⟩ ∧ (∀ i, p.2.2.1 i ≤ q i) ∧ (∀ k, k < L.length → max (p.2.2.2.1 k) (ldAt L p.2.2.1 k) = p.2.2.2.2 k) ∧ (pkL L N q s (fun _ => 0) (ldAt L fun _ => 0)) = pkL L N q (s.drop p.2.1) p.2.2.1 p.2.2.2.2) (fun p => s.length - p.2.1) (_, 0, (fun _ => 0), (fun _ => 0), (ldAt L fun _ => 0)) ⟨Nat.zero_le _, rfl, rfl, rfl, fun i => Nat.zero_le _, fun k hk => by show max (0 : Int) (ldAt L (fun _ => 0) k) = ldAt L (fun _ => 0) k; rw [ldAt_stock hk]; omega, rfl⟩ rfl (by simp [Go.Vm.look, extK, enterK]) ?_
    intro p hp
    obtain ⟨σ0, i, X, o, pk⟩ := p
    obtain ⟨hi, y0, y1, y2, hXq, hop, hpk⟩ := hp
    simp only at hi y0 y1 y2 hXq hop hpk ⊢
    refine KC.seq ?_
    refine KC.region ?_
    refine KT.step rfl rfl (K.lss rfl rfl) ?_
    refine KT.nil ?_
    refine thenK_n ?_
    refine KC.seq ?_
    refine KC.cond rfl (fun hc35 => ?_) (fun hc35 => ?_)
    · skip
      replace hc35 := of_decide_eq_true hc35
      have hX60 : ∀ j, X j ≤ 60 := fun j => Nat.le_trans (hXq j) (hr.le j)
      refine KC.skip ?_
      refine thenK_n ?_
      refine KC.seq ?_
      refine KC.block ?_
      refine KC.seq ?_
      refine KC.region ?_
      refine KT.step rfl rfl (K.move rfl) ?_
      refine KT.step rfl rfl (K.assign rfl) ?_
      refine KT.nil ?_
      refine thenK_n ?_
      refine KC.seq ?_
      refine KC.seq ?_
      refine KC.region ?_
      refine KT.step rfl rfl (K.fieldAddrO rfl Try.fld24_1 Try.size22) ?_
      refine KT.step rfl rfl (K.loadO (y := .d d) rfl y0 (by simp) rfl Try.agg22) ?_
      refine KT.step rfl rfl (K.lenN rfl hd Try.underlying22) ?_
      refine KT.step rfl rfl (K.move rfl) ?_
      refine KT.nil ?_
      refine thenK_n ?_
      refine KC.block ?_
      refine KC.loop (fun p : List VObj × Nat => p.1) (fun p => [(1, .d e), (2, .optr 0 0), (6, .d (iD N fun k => (q k : Int))), (8, .osl 1 0 N 1 N true), (9, .osl 2 0 L.length 1 L.length true), (33, .d (DI ((s.length : Int) + 1))), (34, .d (DI (i : Nat))), (10, .d (DI (i : Nat))), (38, .d d), (39, .d (DI (L.length : Nat))), (40, .d (DI (p.2 : Nat)))]) (fun p => p.2 ≤ L.length ∧ p.1[0]? = some ⟨[.d (DI (N : Nat)), .d d], 0⟩ ∧ p.1[1]? = some ⟨iX N fun k => (X k : Int), 0⟩ ∧ p.1[2]? = some ⟨iX L.length fun j => if j < p.2 then pk j else o j, 0⟩) (fun p => L.length - p.2) (_, 0) ⟨Nat.zero_le _, y0, y1, by simpa using y2⟩ rfl (by simp [Go.Vm.look, extK]) ?_
      clear y0 y1 y2
      intro p hp
      obtain ⟨σ1, k⟩ := p
      obtain ⟨hk, y0, y1, y2⟩ := hp
      simp only at hk y0 y1 y2 ⊢
      refine KC.seq ?_
      refine KC.region ?_
      refine KT.step rfl rfl (K.lss rfl rfl) ?_
      refine KT.nil ?_
      refine thenK_n ?_
      refine KC.seq ?_
      refine KC.cond rfl (fun hc41 => ?_) (fun hc41 => ?_)
      · skip
        replace hc41 := of_decide_eq_true hc41
        have hkl : k < L.length := by omega
        have ok := hr.ok _ (List.getElem_mem hkl)
        refine KC.skip ?_
        refine thenK_n ?_
        refine KC.seq ?_
        refine KC.block ?_
        refine KC.seq ?_
        refine KC.region ?_
        refine KT.step rfl rfl (K.move rfl) ?_
        refine KT.step rfl rfl (K.idxN rfl hd rfl hkl Try.underlying22 Try.size57) ?_
        refine KT.step rfl rfl (K.loadN hkl rfl Try.agg57 Try.size57) ?_
        refine KT.step rfl rfl (K.alloc Try.zero57) ?_
        refine KT.step rfl rfl (K.assign rfl) ?_
        refine KT.storeL (cs := (lk5 L[k].z).map .d) rfl rfl rfl rfl rfl rfl rfl Try.size57 ?_
        have xK : (σ1 ++ [(⟨(lk5 L[k].z).map .d, 0⟩ : VObj)])[σ1.length]? = some ⟨(lk5 L[k].z).map .d, 0⟩ := List.getElem?_concat_length ..
        replace y0 := get_left (B := [(⟨(lk5 L[k].z).map .d, 0⟩ : VObj)]) y0
        replace y1 := get_left (B := [(⟨(lk5 L[k].z).map .d, 0⟩ : VObj)]) y1
        replace y2 := get_left (B := [(⟨(lk5 L[k].z).map .d, 0⟩ : VObj)]) y2
        refine KT.nil ?_
        refine thenK_n ?_
        refine KC.draw Try.mixed ?_
        refine KT.step rfl rfl (K.move rfl) ?_
        refine KT.step rfl rfl (K.move rfl) ?_
        refine KT.step rfl rfl (K.move rfl) ?_
        refine KT.step rfl rfl (K.move rfl) ?_
        refine KT.step rfl rfl (K.idxO (m := k) rfl rfl hkl Try.underlying25 Try.size3) ?_
        refine KT.step rfl rfl (K.loadO rfl y2 (by simp) (iX_get _ hkl) Try.agg3) ?_
        refine KT.step rfl rfl (K.loadOA (lk5 L[k].z) rfl xK (by decide) Try.agg57 Try.size57 rfl) ?_
        refine KT.step rfl rfl (K.move rfl) ?_
        refine KT.step rfl rfl (K.callG rfl plainTry_51 (rloads51 ok hX60 y1)) ?_
        replace y0 := get_left (B := [lkO L[k]]) y0
        replace y1 := get_left (B := [lkO L[k]]) y1
        replace y2 := get_left (B := [lkO L[k]]) y2
        refine KT.step rfl rfl (K.max2 rfl rfl) ?_
        refine KT.step rfl rfl (K.idxO (m := k) rfl rfl hkl Try.underlying25 Try.size3) ?_
        refine KT.storeG rfl rfl rfl rfl y2 (by rw [iX_len]; omega) rfl rfl Try.size3 fun σ2 l2 u2 v2 => ?_
        replace y0 := (v2 0 (by decide)).trans y0
        replace y1 := (v2 1 (by decide)).trans y1
        refine KT.nil ?_
        refine ⟨by kernel_rfl, ?_⟩
        refine blockK_n ?_
        refine thenK_n ?_
        refine KC.region ?_
        refine KT.step rfl rfl (K.add rfl rfl (wrap_id (by omega))) ?_
        refine KT.step rfl rfl (K.move rfl) ?_
        refine KT.nil ?_
        refine thenK_n ?_
        refine ⟨(σ2, k + 1), ⟨by simp only; omega, y0, y1, ?_⟩, by simp only; omega, rfl, by simp [Go.Vm.look, extK]⟩
        refine u2.trans (congrArg (fun c => some (VObj.mk c 0)) ((iX_set _ hkl _).trans (iX_congr fun j hj => ?_)))
        by_cases e : j = k
        · subst e; rw [if_pos rfl, if_neg (Nat.lt_irrefl _), if_pos (Nat.lt_succ_self _), ← hop j hkl, ldAt_get hkl]
        · rw [if_neg e]
          by_cases h2 : j < k
          · rw [if_pos h2, if_pos (by omega)]
          · rw [if_neg h2, if_neg (by omega)]
      · skip
        replace hc41 := of_decide_eq_false hc41
        refine KC.exit ?_
        refine thenK_x ?_
        refine thenK_x ?_
        refine blockK_e ?_
        refine thenK_n ?_
        refine KC.seq ?_
        refine KC.seq ?_
        have y2b : σ1[2]? = some ⟨iX L.length pk, 0⟩ := y2.trans (congrArg (fun c => some (VObj.mk c 0)) (iX_congr fun j hj => if_pos (by omega)))
        clear y2
        rename _ => y2
        refine KC.region ?_
        refine KT.step rfl rfl (K.move rfl) ?_
        refine KT.step rfl rfl (K.move rfl) ?_
        refine KT.step rfl rfl (K.len rfl hs Try.underlying25) ?_
        refine KT.step rfl rfl (K.eql rfl rfl) ?_
        refine KT.nil ?_
        refine thenK_n ?_
        refine KC.cond rfl (fun hc60 => ?_) (fun hc60 => ?_)
        · skip
          replace hc60 := of_decide_eq_true hc60
          replace hc60 : i = s.length := by omega
          refine KC.exit ?_
          refine thenK_x ?_
          refine blockK_x (by decide) ?_
          refine thenK_x ?_
          refine thenK_x ?_
          refine blockK_e ?_
          refine thenK_n ?_
          refine KC.seq ?_
          refine KC.seq ?_
          refine KC.region ?_
          refine KT.step rfl rfl (K.move rfl) ?_
          refine KT.step rfl rfl (K.len rfl (iD_ints N _) Try.underlying25) ?_
          rw [show ((List.range N).map fun k => (q k : Int)).length = N by simp]
          refine KT.step rfl rfl (K.move rfl) ?_
          refine KT.nil ?_
          refine thenK_n ?_
          refine KC.block ?_
          refine KC.loop (fun _ : Nat => σ1) (fun j => [(1, .d e), (2, .optr 0 0), (6, .d (iD N fun k => (q k : Int))), (8, .osl 1 0 N 1 N true), (9, .osl 2 0 L.length 1 L.length true), (98, .d (iD N fun k => (q k : Int))), (99, .d (DI (N : Nat))), (100, .d (DI (j : Nat)))]) (fun j => j ≤ N ∧ ∀ i, i < j → X i = q i) (fun j => N - j) 0 ⟨Nat.zero_le _, fun i hi => absurd hi (Nat.not_lt_zero _)⟩ rfl (by simp [Go.Vm.look, extK]) ?_
          intro j hj
          obtain ⟨hj, hge⟩ := hj
          refine KC.seq ?_
          refine KC.region ?_
          refine KT.step rfl rfl (K.lss rfl rfl) ?_
          refine KT.nil ?_
          refine thenK_n ?_
          refine KC.seq ?_
          refine KC.cond rfl (fun hc101 => ?_) (fun hc101 => ?_)
          · skip
            replace hc101 := of_decide_eq_true hc101
            have hjN : j < N := by omega
            refine KC.skip ?_
            refine thenK_n ?_
            refine KC.seq ?_
            refine KC.block ?_
            refine KC.seq ?_
            refine KC.region ?_
            refine KT.step rfl rfl (K.move rfl) ?_
            refine KT.step rfl rfl (K.idxDK (m := j) rfl rfl hjN Try.underlying25 Try.size3) ?_
            refine KT.step rfl rfl (K.loadSeq hjN rfl Try.agg3) ?_
            refine KT.step rfl rfl (K.assign rfl) ?_
            refine KT.step rfl rfl (K.assign rfl) ?_
            refine KT.nil ?_
            refine thenK_n ?_
            refine KC.seq ?_
            refine KC.region ?_
            refine KT.step rfl rfl (K.move rfl) ?_
            refine KT.step rfl rfl (K.move rfl) ?_
            refine KT.step rfl rfl (K.idxO (m := j) rfl rfl hjN Try.underlying25 Try.size3) ?_
            refine KT.step rfl rfl (K.loadO rfl y1 (by simp) (iX_get _ hjN) Try.agg3) ?_
            refine KT.step rfl rfl (K.move rfl) ?_
            refine KT.step rfl rfl (K.neq rfl rfl) ?_
            refine KT.nil ?_
            refine thenK_n ?_
            refine KC.cond rfl (fun hc110 => ?_) (fun hc110 => ?_)
            · skip
              replace hc110 := of_decide_eq_true hc110
              replace hc110 : ¬ (X j : Int) = (q j : Int) := hc110
              refine KC.seq ?_
              refine KC.region ?_
              refine KT.step rfl rfl (K.assign rfl) ?_
              refine KT.step rfl rfl (K.assign rfl) ?_
              refine KT.nil ?_
              refine thenK_n ?_
              refine KC.ret ?_
              refine blockK_r ?_
              refine thenK_r ?_
              refine thenK_r ?_
              refine blockK_r ?_
              refine thenK_r ?_
              obtain rfl : b = false := by
                rw [← hb, hpk, show s.drop i = [] from List.drop_eq_nil_of_le (by omega)]
                show eqB X q = false
                rw [← Bool.not_eq_true]
                intro h
                have := eqB_iff.1 h j (by omega)
                exact hc110 (by omega)
              exact ⟨.inl rfl, _, rfl, rfl⟩
            · skip
              replace hc110 := of_decide_eq_false hc110
              replace hc110 : (X j : Int) = (q j : Int) := Classical.not_not.1 hc110
              refine KC.skip ?_
              refine blockK_n ?_
              refine thenK_n ?_
              refine KC.region ?_
              refine KT.step rfl rfl (K.add rfl rfl (wrap_id (by omega))) ?_
              refine KT.step rfl rfl (K.move rfl) ?_
              refine KT.nil ?_
              refine thenK_n ?_
              refine ⟨j + 1, ⟨by omega, fun i hi => ?_⟩, by omega, rfl, by simp [Go.Vm.look, extK]⟩
              rcases Nat.lt_succ_iff_lt_or_eq.1 hi with h | rfl
              · exact hge i h
              · omega
          · skip
            replace hc101 := of_decide_eq_false hc101
            refine KC.exit ?_
            refine thenK_x ?_
            refine thenK_x ?_
            refine blockK_e ?_
            refine thenK_n ?_
            refine KC.seq ?_
            refine KC.region ?_
            refine KT.step rfl rfl (K.move rfl) ?_
            refine KT.step rfl rfl (K.assign rfl) ?_
            refine KT.step rfl rfl (K.assign rfl) ?_
            refine KT.nil ?_
            refine thenK_n ?_
            refine KC.ret ?_
            have he : eqB X q = true := q_out hr hXq (fun k hk => Nat.le_of_eq (hge k (by omega)).symm)
            have e2 : (pkL L N q s (fun _ => 0) (ldAt L fun _ => 0)) = some (X, pk) := by rw [hpk, show s.drop i = [] from List.drop_eq_nil_of_le (by omega)]; rfl
            obtain rfl : b = true := by rw [← hb, e2]; exact he
            rw [e2]
            exact ⟨.inl rfl, _, rfl, deepen_tup2 (deepen_iX y2)⟩
        · skip
          replace hc60 := of_decide_eq_false hc60
          have hil : i < s.length := by omega
          refine KC.skip ?_
          refine thenK_n ?_
          refine KC.seq ?_
          refine KC.region ?_
          refine KT.step rfl rfl (K.move rfl) ?_
          refine KT.step rfl rfl (K.move rfl) ?_
          refine KT.idxI (m := i) rfl rfl rfl hs rfl hil Try.underlying25 Try.size3 fun cs63 => ?_
          refine KT.step rfl rfl (K.load rfl Try.agg3) ?_
          refine KT.step rfl rfl (K.assign rfl) ?_
          refine KT.nil ?_
          refine thenK_n ?_
          refine KC.seq ?_
          refine KC.seq ?_
          refine KC.draw Try.mixed ?_
          refine KT.step rfl rfl (K.move rfl) ?_
          refine KT.step rfl rfl (K.lss rfl rfl) ?_
          refine KT.step rfl rfl (K.move rfl) ?_
          refine KT.bcase (fun hb67 => ?_) (fun hb67 => ?_)
          · skip
            replace hb67 := of_decide_eq_true hb67
            refine KT.skip rfl rfl ?_
            refine KT.skip rfl rfl ?_
            refine KT.skip rfl rfl ?_
            refine KT.skip rfl rfl ?_
            refine KT.step rfl rfl (K.pick rfl (fun _ => rfl) (fun h => by cases h)) ?_
            refine KT.step rfl rfl (K.move rfl) ?_
            refine KT.skip rfl rfl ?_
            refine KT.skip rfl rfl ?_
            refine KT.skip rfl rfl ?_
            refine KT.skip rfl rfl ?_
            refine KT.skip rfl rfl ?_
            refine KT.skip rfl rfl ?_
            refine KT.skip rfl rfl ?_
            refine KT.skip rfl rfl ?_
            refine KT.skip rfl rfl ?_
            refine KT.step rfl rfl (K.pick rfl (fun _ => rfl) (fun h => by cases h)) ?_
            refine KT.step rfl rfl (K.move rfl) ?_
            refine KT.skip rfl rfl ?_
            refine KT.skip rfl rfl ?_
            refine KT.skip rfl rfl ?_
            refine KT.skip rfl rfl ?_
            refine KT.skip rfl rfl ?_
            refine KT.step rfl rfl (K.pick rfl (fun _ => rfl) (fun h => by cases h)) ?_
            refine KT.nil ?_
            refine ⟨by kernel_rfl, ?_⟩
            refine thenK_n ?_
            refine KC.cond rfl (fun hc90 => ?_) (fun hc90 => ?_)
            · skip
              refine KC.seq ?_
              refine KC.region ?_
              refine KT.step rfl rfl (K.assign rfl) ?_
              refine KT.step rfl rfl (K.assign rfl) ?_
              refine KT.nil ?_
              refine thenK_n ?_
              refine KC.ret ?_
              refine thenK_r ?_
              refine blockK_r ?_
              refine thenK_r ?_
              refine thenK_r ?_
              refine blockK_r ?_
              refine thenK_r ?_
              obtain rfl : b = false := by
                rw [← hb, hpk, pkL_drop hil, if_neg (fun h => by omega)]; rfl
              exact ⟨.inl rfl, _, rfl, rfl⟩
            · cases hc90
          · skip
            replace hb67 := of_decide_eq_false hb67
            refine KT.step rfl rfl (K.move rfl) ?_
            refine KT.step rfl rfl (K.fieldAddrO rfl Try.fld24_0 Try.size3) ?_
            refine KT.step rfl rfl (K.loadO (y := .d (DI (N : Nat))) rfl y0 (by simp) rfl Try.agg3) ?_
            refine KT.step rfl rfl (K.geq rfl rfl) ?_
            refine KT.step rfl rfl (K.pick rfl (fun h => by cases h) (fun _ => rfl)) ?_
            refine KT.step rfl rfl (K.move rfl) ?_
            refine KT.bcase (fun hb73 => ?_) (fun hb73 => ?_)
            · skip
              replace hb73 := of_decide_eq_true hb73
              refine KT.skip rfl rfl ?_
              refine KT.skip rfl rfl ?_
              refine KT.skip rfl rfl ?_
              refine KT.skip rfl rfl ?_
              refine KT.skip rfl rfl ?_
              refine KT.skip rfl rfl ?_
              refine KT.skip rfl rfl ?_
              refine KT.skip rfl rfl ?_
              refine KT.skip rfl rfl ?_
              refine KT.step rfl rfl (K.pick rfl (fun _ => rfl) (fun h => by cases h)) ?_
              refine KT.step rfl rfl (K.move rfl) ?_
              refine KT.skip rfl rfl ?_
              refine KT.skip rfl rfl ?_
              refine KT.skip rfl rfl ?_
              refine KT.skip rfl rfl ?_
              refine KT.skip rfl rfl ?_
              refine KT.step rfl rfl (K.pick rfl (fun _ => rfl) (fun h => by cases h)) ?_
              refine KT.nil ?_
              refine ⟨by kernel_rfl, ?_⟩
              refine thenK_n ?_
              refine KC.cond rfl (fun hc90 => ?_) (fun hc90 => ?_)
              · skip
                refine KC.seq ?_
                refine KC.region ?_
                refine KT.step rfl rfl (K.assign rfl) ?_
                refine KT.step rfl rfl (K.assign rfl) ?_
                refine KT.nil ?_
                refine thenK_n ?_
                refine KC.ret ?_
                refine thenK_r ?_
                refine blockK_r ?_
                refine thenK_r ?_
                refine thenK_r ?_
                refine blockK_r ?_
                refine thenK_r ?_
                obtain rfl : b = false := by
                  rw [← hb, hpk, pkL_drop hil, if_neg (fun h => by omega)]; rfl
                exact ⟨.inl rfl, _, rfl, rfl⟩
              · cases hc90
            · skip
              replace hb73 := of_decide_eq_false hb73
              have hmN : s[i].toNat < N := by omega
              refine KT.step rfl rfl (K.move rfl) ?_
              refine KT.step rfl rfl (K.move rfl) ?_
              refine KT.step rfl rfl (K.idxO (m := s[i].toNat) rfl (by rw [← show s[i] = ((s[i].toNat : Nat) : Int) by omega]; rfl) hmN Try.underlying25 Try.size3) ?_
              refine KT.step rfl rfl (K.loadO rfl y1 (by simp) (iX_get _ hmN) Try.agg3) ?_
              refine KT.step rfl rfl (K.move rfl) ?_
              refine KT.step rfl rfl (K.move rfl) ?_
              refine KT.step rfl rfl (K.idxDK (m := s[i].toNat) rfl (by rw [← show s[i] = ((s[i].toNat : Nat) : Int) by omega]; rfl) hmN Try.underlying25 Try.size3) ?_
              refine KT.step rfl rfl (K.loadSeq hmN rfl Try.agg3) ?_
              refine KT.step rfl rfl (K.geq rfl rfl) ?_
              refine KT.step rfl rfl (K.pick rfl (fun h => by cases h) (fun _ => rfl)) ?_
              refine KT.step rfl rfl (K.move rfl) ?_
              refine KT.bcase (fun hb84 => ?_) (fun hb84 => ?_)
              · skip
                replace hb84 := of_decide_eq_true hb84
                replace hb84 : (q s[i].toNat : Int) ≤ (X s[i].toNat : Int) := hb84
                refine KT.skip rfl rfl ?_
                refine KT.skip rfl rfl ?_
                refine KT.skip rfl rfl ?_
                refine KT.skip rfl rfl ?_
                refine KT.skip rfl rfl ?_
                refine KT.step rfl rfl (K.pick rfl (fun _ => rfl) (fun h => by cases h)) ?_
                refine KT.nil ?_
                refine ⟨by kernel_rfl, ?_⟩
                refine thenK_n ?_
                refine KC.cond rfl (fun hc90 => ?_) (fun hc90 => ?_)
                · skip
                  refine KC.seq ?_
                  refine KC.region ?_
                  refine KT.step rfl rfl (K.assign rfl) ?_
                  refine KT.step rfl rfl (K.assign rfl) ?_
                  refine KT.nil ?_
                  refine thenK_n ?_
                  refine KC.ret ?_
                  refine thenK_r ?_
                  refine blockK_r ?_
                  refine thenK_r ?_
                  refine thenK_r ?_
                  refine blockK_r ?_
                  refine thenK_r ?_
                  obtain rfl : b = false := by
                    rw [← hb, hpk, pkL_drop hil, if_neg (fun h => by have := (fireB_iff.1 h.2.2).1; omega)]; rfl
                  exact ⟨.inl rfl, _, rfl, rfl⟩
                · cases hc90
              · skip
                replace hb84 := of_decide_eq_false hb84
                replace hb84 : ¬ (q s[i].toNat : Int) ≤ (X s[i].toNat : Int) := hb84
                refine KT.step rfl rfl (K.loadOA [DI (N : Nat), d] rfl y0 (by decide) Try.agg24 Try.size24 rfl) ?_
                refine KT.step rfl rfl (K.move rfl) ?_
                refine KT.step rfl rfl (K.move rfl) ?_
                have hcan := can37 (n := (N : Int)) (a := s[i].toNat) (ex := true) hd hr.len hr.ok hX60 y1
                rw [show ((s[i].toNat : Nat) : Int) = s[i] by omega] at hcan
                refine KT.step rfl rfl (K.callG rfl plainTry_37 hcan) ?_
                generalize hτ : (⟨[.d (DI (N : Nat)), .d d], 0⟩ :: canObj X s[i].toNat L : List VObj) = τ
                replace y0 := get_left (B := τ) y0
                replace y1 := get_left (B := τ) y1
                replace y2 := get_left (B := τ) y2
                refine KT.step rfl rfl (K.not rfl) ?_
                refine KT.step rfl rfl (K.pick rfl (fun h => by cases h) (fun _ => rfl)) ?_
                refine KT.nil ?_
                refine ⟨by kernel_rfl, ?_⟩
                refine thenK_n ?_
                refine KC.cond rfl (fun hc90 => ?_) (fun hc90 => ?_)
                · skip
                  refine KC.seq ?_
                  refine KC.region ?_
                  refine KT.step rfl rfl (K.assign rfl) ?_
                  refine KT.step rfl rfl (K.assign rfl) ?_
                  refine KT.nil ?_
                  refine thenK_n ?_
                  refine KC.ret ?_
                  refine thenK_r ?_
                  refine blockK_r ?_
                  refine thenK_r ?_
                  refine thenK_r ?_
                  refine blockK_r ?_
                  refine thenK_r ?_
                  obtain rfl : b = false := by
                    rw [← hb, hpk, pkL_drop hil, if_neg (fun h => by rw [(fireB_iff.1 h.2.2).2] at hc90; cases hc90)]; rfl
                  exact ⟨.inl rfl, _, rfl, rfl⟩
                · skip
                  have hfire : fireB L q X s[i].toNat = true := fireB_iff.2 ⟨by omega, by simpa using hc90⟩
                  refine KC.skip ?_
                  refine thenK_n ?_
                  refine KC.region ?_
                  refine KT.step rfl rfl (K.move rfl) ?_
                  refine KT.step rfl rfl (K.move rfl) ?_
                  refine KT.step rfl rfl (K.idxO (m := s[i].toNat) rfl (by rw [← show s[i] = ((s[i].toNat : Nat) : Int) by omega]; rfl) hmN Try.underlying25 Try.size3) ?_
                  refine KT.step rfl rfl (K.loadO rfl y1 (by simp) (iX_get _ hmN) Try.agg3) ?_
                  refine KT.step rfl rfl (K.add rfl rfl (oneN (by have := hXq s[i].toNat; have := hr.le s[i].toNat; omega))) ?_
                  refine KT.step rfl rfl (K.idxO (m := s[i].toNat) rfl (by rw [← show s[i] = ((s[i].toNat : Nat) : Int) by omega]; rfl) hmN Try.underlying25 Try.size3) ?_
                  refine KT.storeG rfl rfl rfl rfl y1 (by rw [iX_len]; omega) rfl rfl Try.size3 fun σ4 l4 u4 v4 => ?_
                  replace y0 := (v4 0 (by decide)).trans y0
                  replace y2 := (v4 2 (by decide)).trans y2
                  rw [iX_bump X hmN] at u4
                  replace y1 := u4
                  refine KT.nil ?_
                  refine blockK_n ?_
                  refine thenK_n ?_
                  refine KC.region ?_
                  refine KT.step rfl rfl (K.add rfl rfl (wrap_id (by omega))) ?_
                  refine KT.step rfl rfl (K.move rfl) ?_
                  refine KT.nil ?_
                  refine thenK_n ?_
                  rw [pkL_drop hil, if_pos ⟨by omega, by omega, hfire⟩] at hpk
                  have hf := fireB_iff.1 hfire
                  exact ⟨(σ4, i + 1, bump X s[i].toNat, pk, fun k => max (pk k) (ldAt L (bump X s[i].toNat) k)), ⟨by simp only; omega, y0, y1, y2, fun k => by
                    simp only [bump]
                    split
                    · rename_i e; subst e; omega
                    · exact hXq k, fun k hk => rfl, hpk⟩, by simp only; omega, rfl, by simp [Go.Vm.look, extK]⟩
    · skip
      exact absurd (of_decide_eq_false hc35) (by omega)
end Go.Proofs.Ytnfnjnaheckdbaa

