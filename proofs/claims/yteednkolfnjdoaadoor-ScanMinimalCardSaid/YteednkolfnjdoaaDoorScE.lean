import Derived.Test.YteednkolfnjdoaaDoorScC
import Derived.Test.YteednkolfnjdoaaDoorBaQ
import Derived.Test.YteednkolfnjdoaaDoorCyY
/-
  Controllers: the first word that parts two states; Apart.
-/
namespace Go.Proofs.YteednkolfnjdoaaDoor
open Go.Vm Go.Sc
def wO : Option (List Nat) → DV
  | none => Dnil
  | some w => wV w
theorem wl_run {S : Type} [DecidableEq S] {nx : S → Nat → S} {m : Nat} {s0 : S} {Ok : S → Prop} (hcl : ∀ s i, Ok s → i < m → Ok (nx s i)) : ∀ (n k : Nat) (fs : List (S × List Nat)), SI nx m s0 Ok k 0 fs → ∀ (j : Nat) (p : S × List Nat), (bfs nx m n k fs)[j]? = some p → p.2.length ≤ j
  | 0, k, fs, h, j, p, hp => h.wl j p hp
  | n + 1, k, fs, h, j, p, hp => by
    unfold bfs at hp
    cases hq : fs[k]? with
    | none => rw [hq] at hp; exact h.wl j p hp
    | some q =>
      rw [hq] at hp
      obtain ⟨h1, h2⟩ := h.row hcl (s := q.1) (w := q.2) hq m (Nat.le_refl _)
      exact wl_run hcl n (k + 1) _ (h1.next (obj_ltF h2)) j p hp
theorem wl_P {nx : Nat × Nat → Nat → Nat × Nat} {m n1 n2 : Nat} {s0 : Nat × Nat} (h0 : s0.1 < n1 ∧ s0.2 < n2) (hcl : ∀ (s : Nat × Nat) (i : Nat), s.1 < n1 ∧ s.2 < n2 → i < m → (nx s i).1 < n1 ∧ (nx s i).2 < n2) {j : Nat} {p : (Nat × Nat) × List Nat} (hj : (bfs nx m (n1 * n2) 0 [(s0, [])])[j]? = some p) : p.2.length ≤ j :=
  wl_run (Ok := fun s : Nat × Nat => s.1 < n1 ∧ s.2 < n2) hcl (n1 * n2) 0 _ (.start h0) j p hj
set_option maxHeartbeats 1600000 in
set_option maxRecDepth 10000 in
theorem parting75 {m : Nat} {nd od : DV} {nx ou : List (List Int)} (hn : Mat nd nx) (ho : Mat od ou) (hv : VM m nx ou) {nd2 od2 : DV} {nx2 ou2 : List (List Int)} (hn2 : Mat nd2 nx2) (ho2 : Mat od2 ou2) (hv2 : VM m nx2 ou2) {s t : Nat} (hs : s < nx.length) (ht : t < nx2.length) : DeepCall Tryd.prog 75 [.agg [DI (m : Nat), nd, od], DI (s : Nat), .agg [DI (m : Nat), nd2, od2], DI (t : Nat)] (.tup [wO (partW m nx ou nx2 ou2 s t), DB (partW m nx ou nx2 ou2 s t).isSome]) := by
  have hN := hv.n16
  have hN2 := hv2.n16
  have hm8 : m ≤ 8 := by have := hv.a8; omega
  have hFo := found_P (s0 := (s, t)) ⟨hs, ht⟩ (nxP_ok hv hv2)
  have hOk : ∀ p ∈ bfs (nxP nx nx2) m (nx.length * nx2.length) 0 [((s, t), [])], p.1.1 < nx.length ∧ p.1.2 < nx2.length := fun p hp => by
    obtain ⟨a, b⟩ := hFo.run p hp
    rw [← a]; exact run_ok (Ok := fun s : Nat × Nat => s.1 < nx.length ∧ s.2 < nx2.length) (nxP_ok hv hv2) p.2 (s, t) ⟨hs, ht⟩ b
  have hLe : (bfs (nxP nx nx2) m (nx.length * nx2.length) 0 [((s, t), [])]).length ≤ nx.length * nx2.length := by
    have := nodup_pair hFo.nd (n := nx.length) (m := nx2.length) fun x hx => by obtain ⟨p, hp, rfl⟩ := List.mem_map.1 hx; exact hOk p hp
    simpa using this
  have b256 : nx.length * nx2.length ≤ 16 * 16 := Nat.mul_le_mul hN hN2
  have hWl : ∀ p ∈ bfs (nxP nx nx2) m (nx.length * nx2.length) 0 [((s, t), [])], p.2.length < 1000000 := fun p hp => by
    obtain ⟨j, hj⟩ := List.getElem?_of_mem hp
    have := wl_P (s0 := (s, t)) ⟨hs, ht⟩ (nxP_ok hv hv2) hj
    have := obj_ltF hj
    omega
  refine deepCall_K 5 Tryd.func75 rfl (Nat.le_of_ble_eq_true rfl) fun M W0 => ?_
  refine KC.seq ?_
  refine KC.region ?_
  refine KT.step rfl rfl (K.box rfl) ?_
  refine KT.step rfl rfl (K.box rfl) ?_
  refine KT.step rfl rfl (K.assign rfl) ?_
  refine KT.step rfl rfl (K.assign rfl) ?_
  refine KT.nil ?_
  refine thenK_n ?_
  refine KC.seq ?_
  refine KC.region ?_
  refine KT.step rfl rfl (K.makeF (m := 0) rfl rfl rfl rfl) ?_
  refine KT.step rfl rfl (K.assign rfl) ?_
  refine KT.nil ?_
  refine thenK_n ?_
  refine KC.seq ?_
  refine KC.seq ?_
  refine KC.region ?_
  refine KT.step rfl rfl (K.move rfl) ?_
  refine KT.step rfl rfl (K.move rfl) ?_
  refine KT.step rfl rfl (K.buildS rfl (build163_2 _ _)) ?_
  refine KT.step rfl rfl (K.fieldAddrO rfl Tryd.fld58_0 Tryd.size3) ?_
  refine KT.step rfl rfl (K.loadO rfl rfl (by simp) rfl Tryd.agg3) ?_
  refine KT.step rfl rfl (K.move rfl) ?_
  refine KT.step rfl rfl (K.callZ (ds := [.agg [DI (s : Nat), DI (t : Nat)], DI (m : Nat), .fn (.func 103) [] [.ptr [DI (m : Nat), nd, od], .ptr [DI (m : Nat), nd2, od2]]]) [0, 1] 5 rfl plainTryd_104 rfl (search104 plainTryd_103 hN hN2 hm8 (s0 := (s, t)) (nx := nxP nx nx2) ⟨hs, ht⟩ (nxP_ok hv hv2) (fun p i hp hi => pnc103 hn ho hv hn2 ho2 hv2 hp.1 hp.2 (by omega)))) ?_
  refine KT.step rfl rfl (K.lenF (k := 3) rfl (flV_ok (bfs (nxP nx nx2) m (nx.length * nx2.length) 0 [((s, t), [])])) Tryd.underlying165) ?_
  refine KT.step rfl rfl (K.move rfl) ?_
  refine KT.nil ?_
  refine thenK_n ?_
  refine KC.block ?_
  refine KC.loop (fun p : List VObj × Nat => p.1) (fun p => [(4, .optr 0 0), (6, .optr 1 0), (21, .d (flV f3 (bfs (nxP nx nx2) m (nx.length * nx2.length) 0 [((s, t), [])]))), (22, .d (DI ((bfs (nxP nx nx2) m (nx.length * nx2.length) 0 [((s, t), [])]).length : Nat))), (23, .d (DI (p.2 : Nat)))]) (fun p => p.2 ≤ (bfs (nxP nx nx2) m (nx.length * nx2.length) 0 [((s, t), [])]).length ∧ p.1[0]? = some ⟨[.d (DI (m : Nat)), .d nd, .d od], 1⟩ ∧ p.1[1]? = some ⟨[.d (DI (m : Nat)), .d nd2, .d od2], 1⟩ ∧ NoD (diffP ou ou2) m (bfs (nxP nx nx2) m (nx.length * nx2.length) 0 [((s, t), [])]) p.2 0) (fun p => (bfs (nxP nx nx2) m (nx.length * nx2.length) 0 [((s, t), [])]).length - p.2) (_, 0) ⟨Nat.zero_le _, rfl, rfl, .zero⟩ rfl (by simp [Go.Vm.look, extK, enterK]) ?_
  intro p hp
  obtain ⟨σ0, k⟩ := p
  obtain ⟨hkl0, y0, y1, hno⟩ := hp
  simp only at hkl0 y0 y1 hno ⊢
  refine KC.seq ?_
  refine KC.region ?_
  refine KT.step rfl rfl (K.lss rfl rfl) ?_
  refine KT.nil ?_
  refine thenK_n ?_
  refine KC.seq ?_
  refine KC.cond rfl (fun hc24 => ?_) (fun hc24 => ?_)
  · skip
    replace hc24 := of_decide_eq_true hc24
    have hkl : k < (bfs (nxP nx nx2) m (nx.length * nx2.length) 0 [((s, t), [])]).length := by omega
    obtain ⟨sk, wk, hk⟩ : ∃ (q1 : Nat × Nat) (q2 : List Nat), (bfs (nxP nx nx2) m (nx.length * nx2.length) 0 [((s, t), [])])[k]? = some (q1, q2) := ⟨_, _, List.getElem?_eq_getElem hkl⟩
    have hk9 : (bfs (nxP nx nx2) m (nx.length * nx2.length) 0 [((s, t), [])])[k] = (sk, wk) := (List.getElem?_eq_some_iff.1 hk).2
    have hO := hOk _ (List.mem_of_getElem? hk)
    simp only at hO
    refine KC.skip ?_
    refine thenK_n ?_
    refine KC.seq ?_
    refine KC.block ?_
    refine KC.seq ?_
    refine KC.region ?_
    refine KT.step rfl rfl (K.idxF f3_len (m := k) rfl (flV_ok (bfs (nxP nx nx2) m (nx.length * nx2.length) 0 [((s, t), [])])) rfl hkl Tryd.underlying165 Tryd.size168) ?_
    refine KT.step rfl rfl (K.loadFl (f3_len _) rfl Tryd.agg168 Tryd.size168) ?_
    rw [hk9]
    refine KT.step rfl rfl (K.alloc Tryd.zero168) ?_
    refine KT.storeL (cs := (f3 (sk, wk)).map .d) rfl rfl rfl rfl rfl rfl (f3_one _) Tryd.size168 ?_
    refine KT.nil ?_
    refine thenK_n ?_
    refine KC.seq ?_
    refine KC.region ?_
    refine KT.step rfl rfl (K.fieldAddrO rfl Tryd.fld58_0 Tryd.size3) ?_
    refine KT.step rfl rfl (K.loadO rfl (obj_left y0) (by simp) rfl Tryd.agg3) ?_
    refine KT.step rfl rfl (K.move rfl) ?_
    refine KT.nil ?_
    refine thenK_n ?_
    refine KC.block ?_
    generalize hE : σ0.length = e at *
    have a0 : (σ0 ++ [(⟨(f3 (sk, wk)).map .d, 0⟩ : VObj)])[0]? = _ := obj_left y0
    have a1 : (σ0 ++ [(⟨(f3 (sk, wk)).map .d, 0⟩ : VObj)])[1]? = _ := obj_left y1
    have a2 : (σ0 ++ [(⟨(f3 (sk, wk)).map .d, 0⟩ : VObj)])[e]? = some ⟨(f3 (sk, wk)).map .d, 0⟩ := by rw [← hE]; exact (List.getElem?_concat_length ..)
    refine KC.loop (fun p : List VObj × Nat => p.1) (fun p => [(4, .optr 0 0), (6, .optr 1 0), (12, .optr e 0), (21, .d (flV f3 (bfs (nxP nx nx2) m (nx.length * nx2.length) 0 [((s, t), [])]))), (22, .d (DI ((bfs (nxP nx nx2) m (nx.length * nx2.length) 0 [((s, t), [])]).length : Nat))), (23, .d (DI (k : Nat))), (28, .d (DI (m : Nat))), (29, .d (DI (p.2 : Nat)))]) (fun p => p.2 ≤ m ∧ p.1[0]? = some ⟨[.d (DI (m : Nat)), .d nd, .d od], 1⟩ ∧ p.1[1]? = some ⟨[.d (DI (m : Nat)), .d nd2, .d od2], 1⟩ ∧ p.1[e]? = some ⟨(f3 (sk, wk)).map .d, 0⟩ ∧ NoD (diffP ou ou2) m (bfs (nxP nx nx2) m (nx.length * nx2.length) 0 [((s, t), [])]) k p.2) (fun p => m - p.2) (_, 0) ⟨Nat.zero_le _, a0, a1, a2, hno⟩ (by rfl) (by simp [Go.Vm.look, extK]) ?_
    intro p hp
    obtain ⟨σ1, i⟩ := p
    obtain ⟨him, z0, z1, z2, hno1⟩ := hp
    simp only at him z0 z1 z2 hno1 ⊢
    refine KC.seq ?_
    refine KC.region ?_
    refine KT.step rfl rfl (K.lss rfl rfl) ?_
    refine KT.nil ?_
    refine thenK_n ?_
    refine KC.seq ?_
    refine KC.cond rfl (fun hc30 => ?_) (fun hc30 => ?_)
    · skip
      replace hc30 := of_decide_eq_true hc30
      refine KC.skip ?_
      refine thenK_n ?_
      refine KC.seq ?_
      refine KC.block ?_
      refine KC.seq ?_
      refine KC.region ?_
      refine KT.step rfl rfl (K.move rfl) ?_
      refine KT.step rfl rfl (K.assign rfl) ?_
      refine KT.nil ?_
      refine thenK_n ?_
      refine KC.seq ?_
      refine KC.draw Tryd.mixed ?_
      refine KT.step rfl rfl (K.fieldAddrO rfl Tryd.fld58_2 Tryd.size56) ?_
      refine KT.step rfl rfl (K.loadO rfl z0 (by simp) rfl Tryd.agg56) ?_
      refine KT.step rfl rfl (K.fieldAddrO rfl Tryd.fld168_0 Tryd.size163) ?_
      refine KT.step rfl rfl (K.idxA (m := 0) rfl rfl (by decide) Tryd.underlying163 Tryd.size3) ?_
      refine KT.step rfl rfl (K.loadO rfl z2 (by simp) rfl Tryd.agg3) ?_
      obtain ⟨g0, g1, g2⟩ := ou_get hv hO.1 (show (i : Int) < m by omega)
      obtain ⟨g3, g4, g5⟩ := ou_get hv2 hO.2 (show (i : Int) < m by omega)
      refine KT.idx (m := sk.1) rfl rfl rfl ho rfl (by omega) Tryd.underlying56 Tryd.size38 fun c37 cs37 hq37 => ?_
      refine KT.step rfl rfl (K.load rfl Tryd.agg38) ?_
      refine KT.step rfl rfl (K.move rfl) ?_
      refine KT.idxI (m := i) rfl rfl rfl hq37 rfl (by omega) Tryd.underlying38 Tryd.size3 fun cs40 => ?_
      refine KT.step rfl rfl (K.load rfl Tryd.agg3) ?_
      refine KT.step rfl rfl (K.fieldAddrO rfl Tryd.fld58_2 Tryd.size56) ?_
      refine KT.step rfl rfl (K.loadO rfl z1 (by simp) rfl Tryd.agg56) ?_
      refine KT.step rfl rfl (K.fieldAddrO rfl Tryd.fld168_0 Tryd.size163) ?_
      refine KT.step rfl rfl (K.idxA (m := 1) rfl rfl (by decide) Tryd.underlying163 Tryd.size3) ?_
      refine KT.step rfl rfl (K.loadO rfl z2 (by simp) rfl Tryd.agg3) ?_
      refine KT.idx (m := sk.2) rfl rfl rfl ho2 rfl (by omega) Tryd.underlying56 Tryd.size38 fun c47 cs47 hq47 => ?_
      refine KT.step rfl rfl (K.load rfl Tryd.agg38) ?_
      refine KT.step rfl rfl (K.move rfl) ?_
      refine KT.idxI (m := i) rfl rfl rfl hq47 rfl (by omega) Tryd.underlying38 Tryd.size3 fun cs50 => ?_
      refine KT.step rfl rfl (K.load rfl Tryd.agg3) ?_
      refine KT.step rfl rfl (K.neq rfl rfl) ?_
      refine KT.nil ?_
      refine ⟨by kernel_rfl, ?_⟩
      refine thenK_n ?_
      refine KC.cond rfl (fun hc52 => ?_) (fun hc52 => ?_)
      · skip
        replace hc52 := of_decide_eq_true hc52
        have hd : diffP ou ou2 sk i := by unfold diffP; rw [← g2, ← g5]; exact hc52
        refine KC.seq ?_
        refine KC.region ?_
        refine KT.step rfl rfl (K.fieldAddrO rfl Tryd.fld168_1 Tryd.size38) ?_
        refine KT.step rfl rfl (K.loadO rfl z2 (by simp) rfl Tryd.agg38) ?_
        refine KT.step rfl rfl (K.move rfl) ?_
        refine KT.step rfl rfl (K.call2 rfl rfl plainTryd_105 (longer105 wk (hWl _ (List.mem_of_getElem? hk)) i)) ?_
        refine KT.step rfl rfl (K.assign rfl) ?_
        refine KT.step rfl rfl (K.assign rfl) ?_
        refine KT.nil ?_
        refine thenK_n ?_
        refine KC.ret ?_
        refine blockK_r ?_
        refine thenK_r ?_
        refine thenK_r ?_
        refine blockK_r ?_
        refine blockK_r ?_
        refine thenK_r ?_
        refine thenK_r ?_
        refine blockK_r ?_
        refine thenK_r ?_
        have hF := (hFo.firstSome hno1 hk (by omega) hd).is
        exact ⟨.inl rfl, _, rfl, by unfold partW; rw [hF]; rfl⟩
      · skip
        replace hc52 := of_decide_eq_false hc52
        have hd : ¬ diffP ou ou2 sk i := by unfold diffP; rw [← g2, ← g5]; exact hc52
        refine KC.skip ?_
        refine blockK_n ?_
        refine thenK_n ?_
        refine KC.region ?_
        refine KT.step rfl rfl (K.add rfl rfl (wrap_id (by omega))) ?_
        refine KT.step rfl rfl (K.move rfl) ?_
        refine KT.nil ?_
        refine thenK_n ?_
        exact ⟨(σ1, i + 1), ⟨by simp only; omega, z0, z1, z2, hno1.letter hk hd⟩, by simp only; omega, rfl, by simp [Go.Vm.look, extK]⟩
    · skip
      replace hc30 := of_decide_eq_false hc30
      refine KC.exit ?_
      refine thenK_x ?_
      refine thenK_x ?_
      refine blockK_e ?_
      refine blockK_n ?_
      refine thenK_n ?_
      refine KC.region ?_
      refine KT.step rfl rfl (K.add rfl rfl (wrap_id (by omega))) ?_
      refine KT.step rfl rfl (K.move rfl) ?_
      refine KT.nil ?_
      refine thenK_n ?_
      exact ⟨(σ1, k + 1), ⟨by simp only; omega, z0, z1, hno1.next (by omega)⟩, by simp only; omega, rfl, by simp [Go.Vm.look, extK]⟩
  · skip
    replace hc24 := of_decide_eq_false hc24
    refine KC.exit ?_
    refine thenK_x ?_
    refine thenK_x ?_
    refine blockK_e ?_
    refine thenK_n ?_
    refine KC.seq ?_
    refine KC.region ?_
    refine KT.step rfl rfl (K.assign rfl) ?_
    refine KT.step rfl rfl (K.assign rfl) ?_
    refine KT.nil ?_
    refine thenK_n ?_
    refine KC.ret ?_
    have hF := (hFo.firstNone hno (by omega)).is
    exact ⟨.inl rfl, _, rfl, by unfold partW; rw [hF]; rfl⟩
/-- What Apart answers. -/
noncomputable def apR (a : Int) (nx ou : List (List Int)) (b : Int) (nx2 ou2 : List (List Int)) : Option (List Nat) × Int :=
  @ite _ (VM a nx ou ∧ VM b nx2 ou2 ∧ a = b) (Classical.propDecidable _) (match partW a.toNat nx ou nx2 ou2 0 0 with | none => (none, 5) | some w => (some w, 0)) (none, 2)
theorem apR_no {a b : Int} {nx ou nx2 ou2 : List (List Int)} (h : ¬ (VM a nx ou ∧ VM b nx2 ou2 ∧ a = b)) : apR a nx ou b nx2 ou2 = (none, 2) := if_neg h
theorem apR_none {m : Nat} {nx ou nx2 ou2 : List (List Int)} (hv : VM m nx ou) (hv2 : VM m nx2 ou2) (h : partW m nx ou nx2 ou2 0 0 = none) : apR m nx ou m nx2 ou2 = (none, 5) := by
  unfold apR; rw [if_pos ⟨hv, hv2, rfl⟩, show (m : Int).toNat = m by omega, h]
theorem apR_some {m : Nat} {nx ou nx2 ou2 : List (List Int)} (hv : VM m nx ou) (hv2 : VM m nx2 ou2) {w : List Nat} (h : partW m nx ou nx2 ou2 0 0 = some w) : apR m nx ou m nx2 ou2 = (some w, 0) := by
  unfold apR; rw [if_pos ⟨hv, hv2, rfl⟩, show (m : Int).toNat = m by omega, h]
set_option maxRecDepth 10000 in
theorem Apart44 {a : Int} {nd od : DV} {nx ou : List (List Int)} (hn : Mat nd nx) (ho : Mat od ou) (hnl : nx.length ≤ 9223372036854775807) (hol : ou.length ≤ 9223372036854775807) (hnr : ∀ r ∈ nx, r.length ≤ 9223372036854775807) (hor : ∀ r ∈ ou, r.length ≤ 9223372036854775807) {b : Int} {nd2 od2 : DV} {nx2 ou2 : List (List Int)} (hn2 : Mat nd2 nx2) (ho2 : Mat od2 ou2) (hnl2 : nx2.length ≤ 9223372036854775807) (hol2 : ou2.length ≤ 9223372036854775807) (hnr2 : ∀ r ∈ nx2, r.length ≤ 9223372036854775807) (hor2 : ∀ r ∈ ou2, r.length ≤ 9223372036854775807) : DeepCall Tryd.prog 44 [.agg [DI a, nd, od], .agg [DI b, nd2, od2]] (.tup [wO (apR a nx ou b nx2 ou2).1, DI (apR a nx ou b nx2 ou2).2]) := by
  refine deepCall_K 5 Tryd.func44 rfl (Nat.le_of_ble_eq_true rfl) fun M W0 => ?_
  refine KC.seq ?_
  refine KC.region ?_
  refine KT.step rfl rfl (K.box rfl) ?_
  refine KT.step rfl rfl (K.box rfl) ?_
  refine KT.step rfl rfl (K.assign rfl) ?_
  refine KT.step rfl rfl (K.assign rfl) ?_
  refine KT.nil ?_
  refine thenK_n ?_
  refine KC.seq ?_
  refine KC.seq ?_
  refine KC.region ?_
  refine KT.step rfl rfl (K.loadOA ([DI a, nd, od]) rfl rfl (by decide) Tryd.agg58 Tryd.size58 rfl) ?_
  refine KT.step rfl rfl (K.call1 rfl plainTryd_69 (valid69 hn ho hnl hol hnr hor)) ?_
  refine KT.step rfl rfl (K.not rfl) ?_
  refine KT.step rfl rfl (K.move rfl) ?_
  refine KT.bcase (fun hb11 => ?_) (fun hb11 => ?_)
  · skip
    refine KT.skip rfl rfl ?_
    refine KT.skip rfl rfl ?_
    refine KT.skip rfl rfl ?_
    refine KT.step rfl rfl (K.pick rfl (fun _ => rfl) (fun h => by cases h)) ?_
    refine KT.step rfl rfl (K.move rfl) ?_
    refine KT.skip rfl rfl ?_
    refine KT.skip rfl rfl ?_
    refine KT.skip rfl rfl ?_
    refine KT.skip rfl rfl ?_
    refine KT.skip rfl rfl ?_
    refine KT.step rfl rfl (K.pick rfl (fun _ => rfl) (fun h => by cases h)) ?_
    refine KT.nil ?_
    refine thenK_n ?_
    refine KC.cond rfl (fun hc22 => ?_) (fun hc22 => ?_)
    · skip
      refine KC.seq ?_
      refine KC.region ?_
      refine KT.step rfl rfl (K.assign rfl) ?_
      refine KT.step rfl rfl (K.assign rfl) ?_
      refine KT.nil ?_
      refine thenK_n ?_
      refine KC.ret ?_
      refine thenK_r ?_
      have hno : ¬ (VM a nx ou ∧ VM b nx2 ou2 ∧ a = b) := fun h => by rw [vmB_iff.2 h.1] at hb11; cases hb11
      exact ⟨.inl rfl, _, rfl, by rw [apR_no hno]; rfl⟩
    · cases hc22
  · skip
    have hv : VM a nx ou := vmB_iff.1 (by simpa using hb11)
    refine KT.step rfl rfl (K.loadOA ([DI b, nd2, od2]) rfl rfl (by decide) Tryd.agg58 Tryd.size58 rfl) ?_
    refine KT.step rfl rfl (K.call1 rfl plainTryd_69 (valid69 hn2 ho2 hnl2 hol2 hnr2 hor2)) ?_
    refine KT.step rfl rfl (K.not rfl) ?_
    refine KT.step rfl rfl (K.pick rfl (fun h => by cases h) (fun _ => rfl)) ?_
    refine KT.step rfl rfl (K.move rfl) ?_
    refine KT.bcase (fun hb16 => ?_) (fun hb16 => ?_)
    · skip
      refine KT.skip rfl rfl ?_
      refine KT.skip rfl rfl ?_
      refine KT.skip rfl rfl ?_
      refine KT.skip rfl rfl ?_
      refine KT.skip rfl rfl ?_
      refine KT.step rfl rfl (K.pick rfl (fun _ => rfl) (fun h => by cases h)) ?_
      refine KT.nil ?_
      refine thenK_n ?_
      refine KC.cond rfl (fun hc22 => ?_) (fun hc22 => ?_)
      · skip
        refine KC.seq ?_
        refine KC.region ?_
        refine KT.step rfl rfl (K.assign rfl) ?_
        refine KT.step rfl rfl (K.assign rfl) ?_
        refine KT.nil ?_
        refine thenK_n ?_
        refine KC.ret ?_
        refine thenK_r ?_
        have hno : ¬ (VM a nx ou ∧ VM b nx2 ou2 ∧ a = b) := fun h => by rw [vmB_iff.2 h.2.1] at hb16; cases hb16
        exact ⟨.inl rfl, _, rfl, by rw [apR_no hno]; rfl⟩
      · cases hc22
    · skip
      have hv2 : VM b nx2 ou2 := vmB_iff.1 (by simpa using hb16)
      refine KT.step rfl rfl (K.fieldAddrO rfl Tryd.fld58_0 Tryd.size3) ?_
      refine KT.step rfl rfl (K.loadO rfl rfl (by simp) rfl Tryd.agg3) ?_
      refine KT.step rfl rfl (K.fieldAddrO rfl Tryd.fld58_0 Tryd.size3) ?_
      refine KT.step rfl rfl (K.loadO rfl rfl (by simp) rfl Tryd.agg3) ?_
      refine KT.step rfl rfl (K.neq rfl rfl) ?_
      refine KT.step rfl rfl (K.pick rfl (fun h => by cases h) (fun _ => rfl)) ?_
      refine KT.nil ?_
      refine thenK_n ?_
      refine KC.cond rfl (fun hc22 => ?_) (fun hc22 => ?_)
      · skip
        replace hc22 := of_decide_eq_true hc22
        refine KC.seq ?_
        refine KC.region ?_
        refine KT.step rfl rfl (K.assign rfl) ?_
        refine KT.step rfl rfl (K.assign rfl) ?_
        refine KT.nil ?_
        refine thenK_n ?_
        refine KC.ret ?_
        refine thenK_r ?_
        have hno : ¬ (VM a nx ou ∧ VM b nx2 ou2 ∧ a = b) := fun h => hc22 h.2.2
        exact ⟨.inl rfl, _, rfl, by rw [apR_no hno]; rfl⟩
      · skip
        replace hc22 := of_decide_eq_false hc22
        have hab : a = b := Classical.not_not.1 hc22
        subst hab
        obtain ⟨m, rfl⟩ : ∃ m : Nat, a = m := ⟨a.toNat, by have := hv.a1; omega⟩
        refine KC.skip ?_
        refine thenK_n ?_
        refine KC.seq ?_
        refine KC.region ?_
        refine KT.step rfl rfl (K.loadOA ([DI (m : Nat), nd, od]) rfl rfl (by decide) Tryd.agg58 Tryd.size58 rfl) ?_
        refine KT.step rfl rfl (K.loadOA ([DI (m : Nat), nd2, od2]) rfl rfl (by decide) Tryd.agg58 Tryd.size58 rfl) ?_
        refine KT.step rfl rfl (K.call4 rfl rfl rfl rfl plainTryd_75 (parting75 (s := 0) (t := 0) hn ho hv hn2 ho2 hv2 (by have := hv.n1; omega) (by have := hv2.n1; omega))) ?_
        refine KT.step rfl rfl (K.move rfl) ?_
        refine KT.step rfl rfl (K.extract rfl rfl) ?_
        refine KT.step rfl rfl (K.extract rfl rfl) ?_
        refine KT.step rfl rfl (K.assign rfl) ?_
        refine KT.step rfl rfl (K.assign rfl) ?_
        refine KT.nil ?_
        refine thenK_n ?_
        refine KC.seq ?_
        refine KC.seq ?_
        refine KC.region ?_
        refine KT.step rfl rfl (K.move rfl) ?_
        refine KT.step rfl rfl (K.not rfl) ?_
        refine KT.nil ?_
        refine thenK_n ?_
        refine KC.cond rfl (fun hc30 => ?_) (fun hc30 => ?_)
        · skip
          have hN : partW m nx ou nx2 ou2 0 0 = none := by
            cases h : partW m nx ou nx2 ou2 0 0 with
            | none => rfl
            | some w => rw [h] at hc30; cases hc30
          refine KC.seq ?_
          refine KC.region ?_
          refine KT.step rfl rfl (K.assign rfl) ?_
          refine KT.step rfl rfl (K.assign rfl) ?_
          refine KT.nil ?_
          refine thenK_n ?_
          refine KC.ret ?_
          refine thenK_r ?_
          exact ⟨.inl rfl, _, rfl, by rw [apR_none hv hv2 hN]; rfl⟩
        · skip
          obtain ⟨w, hW⟩ : ∃ w, partW m nx ou nx2 ou2 0 0 = some w := by
            cases h : partW m nx ou nx2 ou2 0 0 with
            | none => rw [h] at hc30; cases hc30
            | some w => exact ⟨w, rfl⟩
          refine KC.skip ?_
          refine thenK_n ?_
          refine KC.seq ?_
          refine KC.region ?_
          refine KT.step rfl rfl (K.move rfl) ?_
          refine KT.step rfl rfl (K.assign rfl) ?_
          refine KT.step rfl rfl (K.assign rfl) ?_
          refine KT.nil ?_
          refine thenK_n ?_
          refine KC.ret ?_
          exact ⟨.inl rfl, _, rfl, by rw [apR_some hv hv2 hW, hW]; rfl⟩
end Go.Proofs.YteednkolfnjdoaaDoor

