import Derived.Test.YtnfnjnaheckdbaaFlC
import Derived.Test.YtnfnjnaheckdbaaVmMa
/-
  Dataflow graphs: the rates of one part.
-/
namespace Go.Proofs.Ytnfnjnaheckdbaa
open Go.Vm Go.Fl
theorem plainTry_74 : plainFn Try.prog 74 = true := by kernel_rfl

theorem fr_start {N i : Nat} (hi : i < N) {z : Value} (hz : z.cells = #[.int .i64 0, .int .i64 0]) : splice (zeroRow z (N * 2)) (0 + i * 2) [.d (DI 1), .d (DI 1)] = frX N (startR i) := by
  rw [frX_zero hz]
  have h := frX_splice N (fun _ => (0, 0)) hi (1, 1)
  have e : setF (fun _ => (0, 0)) i (1, 1) = startR i := rfl
  rw [e] at h
  exact h
theorem take_step {L : List LN} {i : Nat} (hi : i < L.length) (p : Rat6 × Bool) : (L.take (i + 1)).foldl stepR p = stepR ((L.take i).foldl stepR p) L[i] := by
  rw [List.take_succ_eq_append_getElem hi, List.foldl_append]; rfl
theorem deepen_fr {σ : List VObj} {N : Nat} {R : Rat6} {k id : Nat} (h : σ[id]? = some ⟨frX N R, 0⟩) : deepen (freezeAll σ) (k + 2) (.osl id 0 N 2 N true) = some (.sl (frN N R) N (some N)) := by
  have h1 : (freezeAll σ)[id]? = some ⟨frX N R, 1⟩ := by simp [freezeAll, h]
  rw [deepen_osl h1 rfl (by rw [List.length_map, frN_len]; omega)]
  rw [List.drop_zero, List.take_of_length_le (by rw [List.length_map, frN_len]; omega), mapM_deep]; rfl
abbrev ratD (L : List LN) (N i : Nat) : DV := .sl (frN N (ratesF L 6 (startR i))) N (some N)
set_option maxRecDepth 10000 in
theorem rates74 {d : DV} {L : List LN} {N a : Nat} (hd : Lks d (L.map LN.z)) (hl : L.length ≤ 10) (hN : N ≤ 6) (hL : ∀ l ∈ L, OkL N l) (ha : a < N) :
    DeepCall Try.prog 74 [.agg [DI (N : Nat), d], DI (a : Nat)] (ratD L N a) := by
  obtain ⟨hGs, hks⟩ := start_good hN ha
  refine deepCall_K 5 Try.func74 rfl (Nat.le_of_ble_eq_true rfl) fun M W0 => ?_
  refine KC.seq ?_
  refine KC.region ?_
  refine KT.step rfl rfl (K.box rfl) ?_
  refine KT.step rfl rfl (K.assign rfl) ?_
  refine KT.nil ?_
  refine thenK_n ?_
  refine KC.seq ?_
  refine KC.region ?_
  refine KT.step rfl rfl (K.fieldAddrO rfl Try.fld31_0 Try.size3) ?_
  refine KT.step rfl rfl (K.loadO rfl rfl (by simp) rfl Try.agg3) ?_
  refine KT.step rfl rfl (K.makeK rfl rfl (Nat.le_refl _) (by omega) Try.underlying111 Try.size116 Try.zero116 (of_decide_eq_true (by kernel_rfl))) ?_
  refine KT.step rfl rfl (K.assign rfl) ?_
  refine KT.nil ?_
  refine thenK_n ?_
  refine KC.seq ?_
  refine KC.region ?_
  refine KT.step rfl rfl (K.move rfl) ?_
  refine KT.step rfl rfl (K.move rfl) ?_
  refine KT.step rfl rfl (K.buildL rfl (build116 _ _)) ?_
  refine KT.step rfl rfl (K.idxOK rfl rfl ha Try.underlying111 Try.size116) ?_
  refine KT.storeH (cs := [.d (DI 1), .d (DI 1)]) rfl rfl rfl rfl rfl rfl (by simp [zeroRow]; omega) rfl Try.size116 fun σ1 l1 u1 v1 => ?_
  replace u1 := u1.trans (congrArg (fun c => some (VObj.mk c 0)) (fr_start ha rfl))
  have y0 : σ1[0]? = some ⟨[.d (DI (N : Nat)), .d d], 0⟩ := (v1 0 (by simp)).trans rfl
  have y1 := u1
  refine KT.nil ?_
  refine thenK_n ?_
  refine KC.seq ?_
  refine KC.seq ?_
  refine KC.region ?_
  refine KT.step rfl rfl (K.assign rfl) ?_
  refine KT.nil ?_
  refine thenK_n ?_
  refine KC.block ?_
  refine KC.loop (fun p : List VObj × Rat6 × Bool × Nat => p.1) (fun p => [(2, .optr 0 0), (5, .osl 1 0 N 2 N true), (6, .d (DB p.2.2.1))]) (fun p => p.1[0]? = some ⟨[.d (DI (N : Nat)), .d d], 0⟩ ∧ p.1[1]? = some ⟨frX N p.2.1, 0⟩ ∧ GoodR N p.2.1 ∧ (p.2.2.1 = true → 7 ≤ knum p.2.1 + p.2.2.2 ∧ ratesF L p.2.2.2 p.2.1 = ratesF L 6 (startR a)) ∧ (p.2.2.1 = false → p.2.1 = ratesF L 6 (startR a))) (fun p => if p.2.2.1 = true then p.2.2.2 + 1 else 0) (_, startR a, true, 6) ⟨y0, y1, hGs, fun _ => ⟨by simp only; omega, rfl⟩, fun h => by cases h⟩ rfl (by simp [Go.Vm.look, extK, enterK]) ?_
  intro p hp
  obtain ⟨σ0, R, ch, k⟩ := p
  obtain ⟨y0, y1, hG, hch, hnc⟩ := hp
  simp only at y0 y1 hG hch hnc ⊢
  refine KC.seq ?_
  refine KC.seq ?_
  refine KC.region ?_
  refine KT.step rfl rfl (K.move rfl) ?_
  refine KT.nil ?_
  refine thenK_n ?_
  refine KC.cond rfl (fun hc18 => ?_) (fun hc18 => ?_)
  · skip
    obtain ⟨hk7, hf2⟩ := hch hc18
    have hk6 := knum_le R
    obtain ⟨k, rfl⟩ : ∃ m, k = m + 1 := ⟨k - 1, by omega⟩
    subst hc18
    refine KC.skip ?_
    refine thenK_n ?_
    refine KC.block ?_
    refine KC.seq ?_
    refine KC.region ?_
    refine KT.step rfl rfl (K.assign rfl) ?_
    refine KT.nil ?_
    refine thenK_n ?_
    refine KC.seq ?_
    refine KC.region ?_
    refine KT.step rfl rfl (K.fieldAddrO rfl Try.fld31_1 Try.size29) ?_
    refine KT.step rfl rfl (K.loadO rfl y0 (by simp) rfl Try.agg29) ?_
    refine KT.step rfl rfl (K.lenN rfl hd Try.underlying29) ?_
    refine KT.step rfl rfl (K.move rfl) ?_
    refine KT.nil ?_
    refine thenK_n ?_
    refine KC.block ?_
    refine KC.loop (fun p : List VObj × Nat => p.1) (fun p => [(2, .optr 0 0), (5, .osl 1 0 N 2 N true), (6, .d (DB ((L.take p.2).foldl stepR (R, false)).2)), (20, .d d), (21, .d (DI (L.length : Nat))), (22, .d (DI (p.2 : Nat)))]) (fun p => p.2 ≤ L.length ∧ p.1[0]? = some ⟨[.d (DI (N : Nat)), .d d], 0⟩ ∧ p.1[1]? = some ⟨frX N ((L.take p.2).foldl stepR (R, false)).1, 0⟩ ∧ GoodR N ((L.take p.2).foldl stepR (R, false)).1) (fun p => L.length - p.2) (σ0, 0) ⟨Nat.zero_le _, y0, by simpa using y1, by simpa using hG⟩ rfl (by simp [Go.Vm.look, extK]) ?_
    clear y0 y1
    intro p hp
    obtain ⟨σ0, i⟩ := p
    obtain ⟨hi, y0, y1, hGi⟩ := hp
    simp only at hi y0 y1 hGi ⊢
    have g1 := (List.getElem?_eq_some_iff.1 y1).1
    refine KC.seq ?_
    refine KC.region ?_
    refine KT.step rfl rfl (K.lss rfl rfl) ?_
    refine KT.nil ?_
    refine thenK_n ?_
    refine KC.seq ?_
    refine KC.cond rfl (fun hc23 => ?_) (fun hc23 => ?_)
    · skip
      replace hc23 := of_decide_eq_true hc23
      have hil : i < L.length := by omega
      have ok := hL _ (List.getElem_mem hil)
      have okf := ok.f
      have okt := ok.t
      refine KC.skip ?_
      refine thenK_n ?_
      refine KC.seq ?_
      refine KC.block ?_
      refine KC.seq ?_
      refine KC.region ?_
      refine KT.step rfl rfl (K.idxN rfl hd rfl hil Try.underlying29 Try.size62) ?_
      refine KT.step rfl rfl (K.loadN hil rfl Try.agg62 Try.size62) ?_
      refine KT.step rfl rfl (K.alloc Try.zero62) ?_
      refine KT.storeH (cs := (lk5 L[i].z).map XV.d) rfl rfl rfl rfl (List.getElem?_concat_length ..) rfl (Nat.le_refl _) rfl Try.size62 fun σ1 l1 u1 v1 => ?_
      try simp only [List.length_append, List.length_cons, List.length_nil] at l1
      replace u1 := u1.trans (congrArg (fun c => some (VObj.mk c 0)) (splice_all (by rfl)))
      have y0 := (v1 (0) (by omega)).trans ((List.getElem?_append_left (by omega)).trans y0)
      have y1 := (v1 (1) (by omega)).trans ((List.getElem?_append_left (by omega)).trans y1)
      have x1 := u1
      generalize hQ : (L.take i).foldl stepR (R, false) = Q at y1 hGi ⊢
      refine KT.nil ?_
      refine thenK_n ?_
      refine KC.seq ?_
      refine KC.drawV Try.mixed (i1 := 10) (j1 := 12) (i2 := 11) (j2 := 13) (t1 := 9) (t2 := 10) (s1 := 30) (s2 := 35) (c1 := [.d (DI ((Q.1 L[i].f).1 : Nat)), .d (DI ((Q.1 L[i].f).2 : Nat))]) (c2 := [.d (DI ((Q.1 L[i].t).1 : Nat)), .d (DI ((Q.1 L[i].t).2 : Nat))]) (C := fun k => if k = 12 then [.d (DI ((Q.1 L[i].f).1 : Nat)), .d (DI ((Q.1 L[i].f).2 : Nat))] else [.d (DI ((Q.1 L[i].t).1 : Nat)), .d (DI ((Q.1 L[i].t).2 : Nat))]) ⟨116, _, _, _, rfl, rfl, rfl, rfl, Try.zero116, rfl, rfl, rfl, rfl, rfl, Try.size116, rfl⟩ ⟨116, _, _, _, rfl, rfl, rfl, rfl, Try.zero116, rfl, rfl, rfl, rfl, rfl, Try.size116, rfl⟩ rfl rfl (by decide) (by kernel_rfl) ?_
      refine KTV.read rfl rfl (K.move rfl) (by decide) ?_
      refine KTV.read rfl rfl (K.fieldAddrO rfl Try.fld62_0 Try.size3) (by decide) ?_
      refine KTV.read rfl rfl (K.loadO rfl x1 (by simp) rfl Try.agg3) (by decide) ?_
      refine KTV.read rfl rfl (K.idxOK rfl rfl ok.f Try.underlying111 Try.size116) (by decide) ?_
      refine KTV.read rfl rfl (K.loadOF ok.f rfl y1 (by decide) Try.agg116 Try.size116) (by decide) ?_
      refine KTV.read rfl rfl (K.move rfl) (by decide) ?_
      refine KTV.read rfl rfl (K.fieldAddrO rfl Try.fld62_1 Try.size3) (by decide) ?_
      refine KTV.read rfl rfl (K.loadO rfl x1 (by simp) rfl Try.agg3) (by decide) ?_
      refine KTV.read rfl rfl (K.idxOK rfl rfl ok.t Try.underlying111 Try.size116) (by decide) ?_
      refine KTV.read rfl rfl (K.loadOF ok.t rfl y1 (by decide) Try.agg116 Try.size116) (by decide) ?_
      refine KTV.make rfl ?_
      refine KTV.make rfl ?_
      refine KTV.put rfl rfl rfl rfl ?_
      refine KTV.put rfl rfl rfl rfl ?_
      refine KTV.nil ?_
      refine ⟨by kernel_rfl, fun σ3 p q hp hq hpq x2 x3 v3 l3 => ?_⟩
      have y0 := (v3 0 (by omega)).trans y0
      have y1 := (v3 1 (by omega)).trans y1
      have x1 := (v3 σ0.length (by omega)).trans x1
      refine thenK_n ?_
      refine KC.seq ?_
      refine KC.seq ?_
      refine KC.draw Try.mixed ?_
      refine KT.step rfl rfl (K.loadOA ([DI ((Q.1 L[i].f).1 : Nat), DI ((Q.1 L[i].f).2 : Nat)]) rfl x2 (by decide) Try.agg116 Try.size116 rfl) ?_
      refine KT.step rfl rfl (K.buildL rfl build116z) ?_
      refine KT.step rfl rfl (K.fraZ rfl rfl) ?_
      refine KT.step rfl rfl (K.loadOA ([DI ((Q.1 L[i].t).1 : Nat), DI ((Q.1 L[i].t).2 : Nat)]) rfl x3 (by decide) Try.agg116 Try.size116 rfl) ?_
      refine KT.step rfl rfl (K.buildL rfl build116z) ?_
      refine KT.step rfl rfl (K.fraZ rfl rfl) ?_
      refine KT.step rfl rfl (K.eqB Try.underlying4 rfl rfl) ?_
      refine KT.nil ?_
      refine ⟨by kernel_rfl, ?_⟩
      refine thenK_n ?_
      refine KC.cond rfl (fun hc42 => ?_) (fun hc42 => ?_)
      · skip
        have est : stepR Q L[i] = Q := if_pos (by revert hc42; cases knB (Q.1 L[i].f) <;> cases knB (Q.1 L[i].t) <;> simp)
        refine KC.exit ?_
        refine thenK_x ?_
        refine blockK_e ?_
        refine thenK_n ?_
        refine KC.region ?_
        refine KT.step rfl rfl (K.add rfl rfl (wrap_id (by omega))) ?_
        refine KT.step rfl rfl (K.move rfl) ?_
        refine KT.nil ?_
        refine thenK_n ?_
        refine ⟨(σ3, i + 1), ⟨by simp only; omega, y0, ?_, ?_⟩, by simp only; omega, rfl, ?_⟩
        · rw [take_step hil, hQ, est]; exact y1
        · rw [take_step hil, hQ, est]; exact hGi
        · rw [take_step hil, hQ, est]; simp [Go.Vm.look, extK]
      · skip
        have hne : ¬ knB (Q.1 L[i].f) = knB (Q.1 L[i].t) := by revert hc42; cases knB (Q.1 L[i].f) <;> cases knB (Q.1 L[i].t) <;> simp
        have hGn := (step_good hN hGi ok).1
        refine KC.skip ?_
        refine thenK_n ?_
        refine KC.seq ?_
        refine KC.seq ?_
        refine KC.region ?_
        refine KT.step rfl rfl (K.loadOA ([DI ((Q.1 L[i].f).1 : Nat), DI ((Q.1 L[i].f).2 : Nat)]) rfl x2 (by decide) Try.agg116 Try.size116 rfl) ?_
        refine KT.step rfl rfl (K.buildL rfl build116z) ?_
        refine KT.step rfl rfl (K.fraZ rfl rfl) ?_
        refine KT.nil ?_
        refine thenK_n ?_
        refine KC.cond rfl (fun hc45 => ?_) (fun hc45 => ?_)
        · skip
          have hkf : knB (Q.1 L[i].f) = false := by simpa using hc45
          have hkt : knB (Q.1 L[i].t) = true := by revert hne; rw [hkf]; cases knB (Q.1 L[i].t) <;> simp
          have est : stepR Q L[i] = (setF Q.1 L[i].f (timesF (Q.1 L[i].t) L[i].k L[i].g), true) := by unfold stepR; rw [if_neg hne, if_pos hkf]
          rw [est] at hGn
          obtain ⟨m1, m2, m3⟩ := tm_ok hGi hkt ok.k1 ok.k6 ok.g6
          refine KC.draw Try.mixed ?_
          refine KT.step rfl rfl (K.move rfl) ?_
          refine KT.step rfl rfl (K.fieldAddrO rfl Try.fld62_0 Try.size3) ?_
          refine KT.step rfl rfl (K.loadO rfl x1 (by simp) rfl Try.agg3) ?_
          refine KT.step rfl rfl (K.loadOA ([DI ((Q.1 L[i].t).1 : Nat), DI ((Q.1 L[i].t).2 : Nat)]) rfl x3 (by decide) Try.agg116 Try.size116 rfl) ?_
          refine KT.step rfl rfl (K.fieldAddrO rfl Try.fld62_3 Try.size3) ?_
          refine KT.step rfl rfl (K.loadO rfl x1 (by simp) rfl Try.agg3) ?_
          refine KT.step rfl rfl (K.fieldAddrO rfl Try.fld62_2 Try.size3) ?_
          refine KT.step rfl rfl (K.loadO rfl x1 (by simp) rfl Try.agg3) ?_
          refine KT.step rfl rfl (K.call3 rfl rfl rfl plainTry_103 (times103 m1 m2 m3)) ?_
          refine KT.step rfl rfl (K.idxOK rfl rfl ok.f Try.underlying111 Try.size116) ?_
          refine KT.storeH (cs := [.d (DI ((timesF (Q.1 L[i].t) L[i].k L[i].g).1 : Nat)), .d (DI ((timesF (Q.1 L[i].t) L[i].k L[i].g).2 : Nat))]) rfl rfl rfl rfl y1 rfl (by rw [List.length_map, frN_len]; simp only [List.length_cons, List.length_nil]; omega) rfl Try.size116 fun σ4 l4 u4 v4 => ?_
          try simp only [List.length_append, List.length_cons, List.length_nil, List.length_set] at l4
          have y0 := (v4 (0) (by omega)).trans y0
          replace y1 := u4.trans (congrArg (fun c => some (VObj.mk c 0)) (frX_splice N Q.1 ok.f (timesF (Q.1 L[i].t) L[i].k L[i].g)))
          refine KT.nil ?_
          refine ⟨by kernel_rfl, ?_⟩
          refine thenK_n ?_
          refine KC.region ?_
          refine KT.step rfl rfl (K.assign rfl) ?_
          refine KT.nil ?_
          refine blockK_n ?_
          refine thenK_n ?_
          refine KC.region ?_
          refine KT.step rfl rfl (K.add rfl rfl (wrap_id (by omega))) ?_
          refine KT.step rfl rfl (K.move rfl) ?_
          refine KT.nil ?_
          refine thenK_n ?_
          refine ⟨(σ4, i + 1), ⟨by simp only; omega, y0, ?_, ?_⟩, by simp only; omega, rfl, ?_⟩
          · rw [take_step hil, hQ, est]; exact y1
          · rw [take_step hil, hQ, est]; exact hGn
          · rw [take_step hil, hQ, est]; simp [Go.Vm.look, extK]
        · skip
          have hkf : knB (Q.1 L[i].f) = true := by simpa using hc45
          have hkt : knB (Q.1 L[i].t) = false := by revert hne; rw [hkf]; cases knB (Q.1 L[i].t) <;> simp
          have est : stepR Q L[i] = (setF Q.1 L[i].t (timesF (Q.1 L[i].f) L[i].g L[i].k), true) := by unfold stepR; rw [if_neg hne, if_neg (by rw [hkf]; simp)]
          rw [est] at hGn
          obtain ⟨m1, m2, m3⟩ := tm_ok hGi hkf ok.g1 ok.g6 ok.k6
          refine KC.draw Try.mixed ?_
          refine KT.step rfl rfl (K.move rfl) ?_
          refine KT.step rfl rfl (K.fieldAddrO rfl Try.fld62_1 Try.size3) ?_
          refine KT.step rfl rfl (K.loadO rfl x1 (by simp) rfl Try.agg3) ?_
          refine KT.step rfl rfl (K.loadOA ([DI ((Q.1 L[i].f).1 : Nat), DI ((Q.1 L[i].f).2 : Nat)]) rfl x2 (by decide) Try.agg116 Try.size116 rfl) ?_
          refine KT.step rfl rfl (K.fieldAddrO rfl Try.fld62_2 Try.size3) ?_
          refine KT.step rfl rfl (K.loadO rfl x1 (by simp) rfl Try.agg3) ?_
          refine KT.step rfl rfl (K.fieldAddrO rfl Try.fld62_3 Try.size3) ?_
          refine KT.step rfl rfl (K.loadO rfl x1 (by simp) rfl Try.agg3) ?_
          refine KT.step rfl rfl (K.call3 rfl rfl rfl plainTry_103 (times103 m1 m2 m3)) ?_
          refine KT.step rfl rfl (K.idxOK rfl rfl ok.t Try.underlying111 Try.size116) ?_
          refine KT.storeH (cs := [.d (DI ((timesF (Q.1 L[i].f) L[i].g L[i].k).1 : Nat)), .d (DI ((timesF (Q.1 L[i].f) L[i].g L[i].k).2 : Nat))]) rfl rfl rfl rfl y1 rfl (by rw [List.length_map, frN_len]; simp only [List.length_cons, List.length_nil]; omega) rfl Try.size116 fun σ4 l4 u4 v4 => ?_
          try simp only [List.length_append, List.length_cons, List.length_nil, List.length_set] at l4
          have y0 := (v4 (0) (by omega)).trans y0
          replace y1 := u4.trans (congrArg (fun c => some (VObj.mk c 0)) (frX_splice N Q.1 ok.t (timesF (Q.1 L[i].f) L[i].g L[i].k)))
          refine KT.nil ?_
          refine ⟨by kernel_rfl, ?_⟩
          refine thenK_n ?_
          refine KC.region ?_
          refine KT.step rfl rfl (K.assign rfl) ?_
          refine KT.nil ?_
          refine blockK_n ?_
          refine thenK_n ?_
          refine KC.region ?_
          refine KT.step rfl rfl (K.add rfl rfl (wrap_id (by omega))) ?_
          refine KT.step rfl rfl (K.move rfl) ?_
          refine KT.nil ?_
          refine thenK_n ?_
          refine ⟨(σ4, i + 1), ⟨by simp only; omega, y0, ?_, ?_⟩, by simp only; omega, rfl, ?_⟩
          · rw [take_step hil, hQ, est]; exact y1
          · rw [take_step hil, hQ, est]; exact hGn
          · rw [take_step hil, hQ, est]; simp [Go.Vm.look, extK]
    · skip
      replace hc23 := of_decide_eq_false hc23
      refine KC.exit ?_
      refine thenK_x ?_
      refine thenK_x ?_
      refine blockK_e ?_
      refine blockK_n ?_
      refine thenK_n ?_
      obtain rfl : i = L.length := by omega
      rw [List.take_length] at y1 hGi
      have ep : L.foldl stepR (R, false) = passR L R := rfl
      rw [ep] at y1 hGi
      obtain ⟨q1, q2⟩ := pass_good hN hG hL
      have e6 : ratesF L (k + 1) R = if (passR L R).2 = true then ratesF L k (passR L R).1 else (passR L R).1 := rfl
      rw [e6] at hf2
      refine ⟨(σ0, (passR L R).1, (passR L R).2, k), ⟨y0, y1, q1, fun h => ?_, fun h => ?_⟩, ?_, rfl, ?_⟩
      · simp only at h ⊢
        rw [if_pos h] at hf2
        refine ⟨?_, hf2⟩
        rcases q2 with q2 | q2
        · rw [q2.1] at h; cases h
        · omega
      · simp only at h ⊢
        rw [h] at hf2
        exact hf2
      · simp only [↓reduceIte]
        split <;> omega
      · rw [List.take_length, ep]; simp [Go.Vm.look, extK]
  · skip
    have hR := hnc hc18
    refine KC.exit ?_
    refine thenK_x ?_
    refine thenK_x ?_
    refine blockK_e ?_
    refine thenK_n ?_
    refine KC.seq ?_
    refine KC.region ?_
    refine KT.step rfl rfl (K.move rfl) ?_
    refine KT.step rfl rfl (K.assign rfl) ?_
    refine KT.nil ?_
    refine thenK_n ?_
    refine KC.ret ?_
    refine ⟨.inl rfl, _, rfl, ?_⟩
    rw [deepen_fr y1, hR]
end Go.Proofs.Ytnfnjnaheckdbaa

