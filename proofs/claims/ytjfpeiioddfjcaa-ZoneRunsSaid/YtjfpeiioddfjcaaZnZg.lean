import Derived.Test.YtjfpeiioddfjcaaZnZf
/-
  Automata: the reference follows a run.
-/
namespace Go.Proofs.Ytjfpeiioddfjcaa
open Go.Vm Go.Zn
theorem plainTry_47 : plainFn Try.prog 47 = true := by kernel_rfl

theorem resetR {v : Nat → Int} {s : Int} (h0 : 0 ≤ s) (h1 : s < 100) : DeepCall Try.prog 87 [.agg (c4 v), DI s] (.agg (c4 (rstM 1 4 s.toNat v))) := by
  obtain ⟨s, rfl⟩ := Int.eq_ofNat_of_zero_le h0
  exact reset87 (by omega)
theorem hold_ok2 {c : Nat} {L : List G3} {den : Int} (hc : c ≤ 3) (h : okL c L = true) (hd : 1 ≤ den ∧ den ≤ 1000) : ∀ g ∈ L, (0 ≤ g.1 ∧ g.1 ≤ 3) ∧ (0 ≤ g.2.1 ∧ g.2.1 ≤ 3) ∧ (-9223372036854775807 ≤ g.2.2 ∧ g.2.2 ≤ 9223372036854775807) ∧ -1000000000000000 ≤ g.2.2 / 2 * den ∧ g.2.2 / 2 * den ≤ 1000000000000000 := fun g hg => by
  obtain ⟨h1, h2, h3⟩ := (hold_ok hc h hd).2 g hg
  refine ⟨h1, h2, ?_, h3⟩
  unfold okL at h
  rw [Bool.and_eq_true] at h
  obtain ⟨k1, k2, k3⟩ := okG_iff.1 (List.all_eq_true.1 h.2 g hg)
  unfold bndB at k2
  simp only [Bool.or_eq_true, Bool.and_eq_true, decide_eq_true_eq] at k2
  omega
set_option maxHeartbeats 4000000 in
set_option maxRecDepth 10000 in
theorem CheckRun47 {iD eD wD kD : DV} {I : List (List G3)} {E : List Ed} {W Q : List Int} {c : Nat} {den : Int} (hI : GdsL iD I) (hE : Eds eD E) (hW : Ints wD W) (hK : Ints kD Q) (hr : rightB c I E = true) (hWl : W.length ≤ 9223372036854775807) (hKl : Q.length ≤ 9223372036854775807) : DeepCall Try.prog 47 [.agg [DI (c : Nat), iD, eD], .agg [DI den, wD, kD]] (.tup [DI (runM (c + 1) 1 I E den W Q).1, DB (runM (c + 1) 1 I E den W Q).2]) := by
  obtain ⟨⟨h1, h2, h3⟩, h4, h5⟩ := rightB_iff.1 hr
  have hi0 : 0 < I.length := by omega
  refine deepCall_K 5 Try.func47 rfl (Nat.le_of_ble_eq_true rfl) fun M W0 => ?_
  refine KC.seq ?_
  refine KC.region ?_
  refine KT.step rfl rfl (K.box rfl) ?_
  refine KT.step rfl rfl (K.box rfl) ?_
  refine KT.step rfl rfl (K.assign rfl) ?_
  refine KT.step rfl rfl (K.assign rfl) ?_
  refine KT.nil ?_
  refine thenK_n ?_
  refine KC.seq ?_
  refine KC.seq ?_
  refine KC.region ?_
  refine KT.step rfl rfl (K.fieldAddrO rfl Try.fld73_0 Try.size3) ?_
  refine KT.step rfl rfl (K.loadO rfl rfl (by simp) rfl Try.agg3) ?_
  refine KT.step rfl rfl (K.lss rfl rfl) ?_
  refine KT.step rfl rfl (K.move rfl) ?_
  refine KT.bcase (fun hb15 => ?_) (fun hb15 => ?_)
  · skip
    replace hb15 := of_decide_eq_true hb15
    refine KT.skip rfl rfl ?_
    refine KT.skip rfl rfl ?_
    refine KT.skip rfl rfl ?_
    refine KT.step rfl rfl (K.pick rfl (fun _ => rfl) (fun h => by cases h)) ?_
    refine KT.step rfl rfl (K.move rfl) ?_
    refine KT.skip rfl rfl ?_
    refine KT.skip rfl rfl ?_
    refine KT.skip rfl rfl ?_
    refine KT.skip rfl rfl ?_
    refine KT.skip rfl rfl ?_
    refine KT.skip rfl rfl ?_
    refine KT.skip rfl rfl ?_
    refine KT.step rfl rfl (K.pick rfl (fun _ => rfl) (fun h => by cases h)) ?_
    refine KT.step rfl rfl (K.move rfl) ?_
    refine KT.skip rfl rfl ?_
    refine KT.skip rfl rfl ?_
    refine KT.skip rfl rfl ?_
    refine KT.skip rfl rfl ?_
    refine KT.step rfl rfl (K.pick rfl (fun _ => rfl) (fun h => by cases h)) ?_
    refine KT.nil ?_
    refine thenK_n ?_
    refine KC.cond rfl (fun hc34 => ?_) (fun hc34 => ?_)
    · skip
      refine KC.seq ?_
      refine KC.region ?_
      refine KT.step rfl rfl (K.assign rfl) ?_
      refine KT.step rfl rfl (K.assign rfl) ?_
      refine KT.nil ?_
      refine thenK_n ?_
      refine KC.ret ?_
      refine thenK_r ?_
      have hno : ¬ runOk den W Q := fun h => by
        obtain ⟨g1, g2, g3⟩ := h
        omega
      exact ⟨.inl rfl, _, rfl, fin_ib (run_bad hno)⟩
    · cases hc34
  · skip
    replace hb15 := of_decide_eq_false hb15
    refine KT.step rfl rfl (K.fieldAddrO rfl Try.fld73_0 Try.size3) ?_
    refine KT.step rfl rfl (K.loadO rfl rfl (by simp) rfl Try.agg3) ?_
    refine KT.step rfl rfl (K.gtr rfl rfl) ?_
    refine KT.step rfl rfl (K.pick rfl (fun h => by cases h) (fun _ => rfl)) ?_
    refine KT.step rfl rfl (K.move rfl) ?_
    refine KT.bcase (fun hb20 => ?_) (fun hb20 => ?_)
    · skip
      replace hb20 := of_decide_eq_true hb20
      refine KT.skip rfl rfl ?_
      refine KT.skip rfl rfl ?_
      refine KT.skip rfl rfl ?_
      refine KT.skip rfl rfl ?_
      refine KT.skip rfl rfl ?_
      refine KT.skip rfl rfl ?_
      refine KT.skip rfl rfl ?_
      refine KT.step rfl rfl (K.pick rfl (fun _ => rfl) (fun h => by cases h)) ?_
      refine KT.step rfl rfl (K.move rfl) ?_
      refine KT.skip rfl rfl ?_
      refine KT.skip rfl rfl ?_
      refine KT.skip rfl rfl ?_
      refine KT.skip rfl rfl ?_
      refine KT.step rfl rfl (K.pick rfl (fun _ => rfl) (fun h => by cases h)) ?_
      refine KT.nil ?_
      refine thenK_n ?_
      refine KC.cond rfl (fun hc34 => ?_) (fun hc34 => ?_)
      · skip
        refine KC.seq ?_
        refine KC.region ?_
        refine KT.step rfl rfl (K.assign rfl) ?_
        refine KT.step rfl rfl (K.assign rfl) ?_
        refine KT.nil ?_
        refine thenK_n ?_
        refine KC.ret ?_
        refine thenK_r ?_
        have hno : ¬ runOk den W Q := fun h => by
          obtain ⟨g1, g2, g3⟩ := h
          omega
        exact ⟨.inl rfl, _, rfl, fin_ib (run_bad hno)⟩
      · cases hc34
    · skip
      replace hb20 := of_decide_eq_false hb20
      refine KT.step rfl rfl (K.fieldAddrO rfl Try.fld73_1 Try.size23) ?_
      refine KT.step rfl rfl (K.loadO rfl rfl (by simp) rfl Try.agg23) ?_
      refine KT.step rfl rfl (K.len rfl hW Try.underlying23) ?_
      refine KT.step rfl rfl (K.fieldAddrO rfl Try.fld73_2 Try.size23) ?_
      refine KT.step rfl rfl (K.loadO rfl rfl (by simp) rfl Try.agg23) ?_
      refine KT.step rfl rfl (K.len rfl hK Try.underlying23) ?_
      refine KT.step rfl rfl (K.neq rfl rfl) ?_
      refine KT.step rfl rfl (K.pick rfl (fun h => by cases h) (fun _ => rfl)) ?_
      refine KT.step rfl rfl (K.move rfl) ?_
      refine KT.bcase (fun hb29 => ?_) (fun hb29 => ?_)
      · skip
        replace hb29 := of_decide_eq_true hb29
        refine KT.skip rfl rfl ?_
        refine KT.skip rfl rfl ?_
        refine KT.skip rfl rfl ?_
        refine KT.skip rfl rfl ?_
        refine KT.step rfl rfl (K.pick rfl (fun _ => rfl) (fun h => by cases h)) ?_
        refine KT.nil ?_
        refine thenK_n ?_
        refine KC.cond rfl (fun hc34 => ?_) (fun hc34 => ?_)
        · skip
          refine KC.seq ?_
          refine KC.region ?_
          refine KT.step rfl rfl (K.assign rfl) ?_
          refine KT.step rfl rfl (K.assign rfl) ?_
          refine KT.nil ?_
          refine thenK_n ?_
          refine KC.ret ?_
          refine thenK_r ?_
          have hno : ¬ runOk den W Q := fun h => by
            obtain ⟨g1, g2, g3⟩ := h
            omega
          exact ⟨.inl rfl, _, rfl, fin_ib (run_bad hno)⟩
        · cases hc34
      · skip
        replace hb29 := of_decide_eq_false hb29
        refine KT.step rfl rfl (K.fieldAddrO rfl Try.fld73_1 Try.size23) ?_
        refine KT.step rfl rfl (K.loadO rfl rfl (by simp) rfl Try.agg23) ?_
        refine KT.step rfl rfl (K.len rfl hW Try.underlying23) ?_
        refine KT.step rfl rfl (K.gtr rfl rfl) ?_
        refine KT.step rfl rfl (K.pick rfl (fun h => by cases h) (fun _ => rfl)) ?_
        refine KT.nil ?_
        refine thenK_n ?_
        refine KC.cond rfl (fun hc34 => ?_) (fun hc34 => ?_)
        · skip
          replace hc34 := of_decide_eq_true hc34
          refine KC.seq ?_
          refine KC.region ?_
          refine KT.step rfl rfl (K.assign rfl) ?_
          refine KT.step rfl rfl (K.assign rfl) ?_
          refine KT.nil ?_
          refine thenK_n ?_
          refine KC.ret ?_
          refine thenK_r ?_
          have hno : ¬ runOk den W Q := fun h => by
            obtain ⟨g1, g2, g3⟩ := h
            omega
          exact ⟨.inl rfl, _, rfl, fin_ib (run_bad hno)⟩
        · skip
          replace hc34 := of_decide_eq_false hc34
          have hden : 1 ≤ den ∧ den ≤ 1000 := by omega
          refine KC.skip ?_
          refine thenK_n ?_
          refine KC.seq ?_
          refine KC.region ?_
          refine KT.step rfl rfl (K.alloc Try.zero84) ?_
          refine KT.nil ?_
          refine thenK_n ?_
          refine KC.seq ?_
          refine KC.region ?_
          refine KT.step rfl rfl (K.assign rfl) ?_
          refine KT.nil ?_
          refine thenK_n ?_
          refine KC.seq ?_
          refine KC.seq ?_
          refine KC.draw Try.mixed ?_
          refine KT.step rfl rfl (K.fieldAddrO rfl Try.fld56_1 Try.size53) ?_
          refine KT.step rfl rfl (K.loadO rfl rfl (by simp) rfl Try.agg53) ?_
          refine KT.idx (m := 0) rfl rfl rfl hI rfl hi0 Try.underlying53 Try.size117 fun c37 cs37 hq37 => ?_
          refine KT.step rfl rfl (K.load rfl Try.agg117) ?_
          refine KT.step rfl rfl (K.loadOA (c4 fun _ => 0) rfl rfl (by decide) Try.agg84 Try.size84 rfl) ?_
          refine KT.step rfl rfl (K.fieldAddrO rfl Try.fld73_0 Try.size3) ?_
          refine KT.step rfl rfl (K.loadO rfl rfl (by simp) rfl Try.agg3) ?_
          refine KT.step rfl rfl (K.call3 rfl rfl rfl plainTry_83 (hold83 hq37 (hold_ok (by omega) (h4 0 hi0) hden).1 (fun _ _ => ⟨by decide, by decide⟩) hden.1 (hold_ok2 (by omega) (h4 0 hi0) hden))) ?_
          refine KT.step rfl rfl (K.not rfl) ?_
          refine KT.nil ?_
          refine ⟨by kernel_rfl, ?_⟩
          refine thenK_n ?_
          refine KC.cond rfl (fun hc43 => ?_) (fun hc43 => ?_)
          · skip
            refine KC.seq ?_
            refine KC.region ?_
            refine KT.step rfl rfl (K.assign rfl) ?_
            refine KT.step rfl rfl (K.assign rfl) ?_
            refine KT.nil ?_
            refine thenK_n ?_
            refine KC.ret ?_
            refine thenK_r ?_
            have hno : stM (c + 1) 1 I E den W Q 0 = none := if_neg (by rw [getD_get hi0]; simpa using hc43)
            exact ⟨.inl rfl, _, rfl, fin_ib (run_none (Nat.zero_le _) hno)⟩
          · skip
            have hs0 : stM (c + 1) 1 I E den W Q 0 = some (fun _ => 0, 0) := if_pos (by rw [getD_get hi0]; simpa using hc43)
            refine KC.skip ?_
            refine thenK_n ?_
            refine KC.seq ?_
            refine KC.seq ?_
            refine KC.region ?_
            refine KT.step rfl rfl (K.fieldAddrO rfl Try.fld73_1 Try.size23) ?_
            refine KT.step rfl rfl (K.loadO rfl rfl (by simp) rfl Try.agg23) ?_
            refine KT.step rfl rfl (K.len rfl hW Try.underlying23) ?_
            refine KT.step rfl rfl (K.move rfl) ?_
            refine KT.nil ?_
            refine thenK_n ?_
            refine KC.block ?_
            refine KC.loop (fun s : List VObj × (Nat → Int) × Nat × Nat => s.1) (fun s => [(3, .optr 1 0), (2, .optr 0 0), (6, .optr 2 0), (7, .d (DI (s.2.2.1 : Nat))), (45, .d wD), (46, .d (DI (W.length : Nat))), (47, .d (DI (s.2.2.2 : Nat)))])
              (fun s => s.1[0]? = some ⟨[.d (DI (c : Nat)), .d iD, .d eD], 0⟩ ∧ s.1[1]? = some ⟨[.d (DI den), .d wD, .d kD], 0⟩ ∧ s.1[2]? = some ⟨(c4 (s.2.1)).map .d, 0⟩ ∧ stM (c + 1) 1 I E den W Q s.2.2.2 = some (s.2.1, s.2.2.1) ∧ s.2.2.1 < I.length ∧ (∀ i, i < 4 → 0 ≤ s.2.1 i ∧ s.2.1 i ≤ 1000000 * (s.2.2.2 : Int)) ∧ s.2.2.2 ≤ W.length) (fun s => W.length - s.2.2.2) (_, fun _ => 0, 0, 0) ⟨rfl, rfl, rfl, hs0, hi0, (fun _ _ => by show (0 : Int) ≤ 0 ∧ (0 : Int) ≤ 1000000 * ((0 : Nat) : Int); decide), Nat.zero_le _⟩ rfl (by simp [Go.Vm.look, extK, enterK]) ?_
            intro s hs
            obtain ⟨y0, y1, y2, hst, hl, hvb, hk⟩ := hs
            refine KC.seq ?_
            refine KC.region ?_
            refine KT.step rfl rfl (K.lss rfl rfl) ?_
            refine KT.nil ?_
            refine thenK_n ?_
            refine KC.seq ?_
            refine KC.cond rfl (fun hc48 => ?_) (fun hc48 => ?_)
            · skip
              replace hc48 := of_decide_eq_true hc48
              have hwl : s.2.2.2 < W.length := by omega
              have hkl : s.2.2.2 < Q.length := by omega
              have eK : Q.getD s.2.2.2 0 = Q[s.2.2.2] := getD_get hkl
              have eW : W.getD s.2.2.2 0 = W[s.2.2.2] := getD_get hwl
              refine KC.skip ?_
              refine thenK_n ?_
              refine KC.seq ?_
              refine KC.block ?_
              refine KC.seq ?_
              refine KC.region ?_
              refine KT.step rfl rfl (K.move rfl) ?_
              refine KT.idxI (m := s.2.2.2) rfl rfl rfl hW rfl hwl Try.underlying23 Try.size3 fun cs50 => ?_
              refine KT.step rfl rfl (K.load rfl Try.agg3) ?_
              refine KT.step rfl rfl (K.assign rfl) ?_
              refine KT.step rfl rfl (K.assign rfl) ?_
              refine KT.nil ?_
              refine thenK_n ?_
              refine KC.seq ?_
              refine KC.region ?_
              refine KT.step rfl rfl (K.fieldAddrO rfl Try.fld73_2 Try.size23) ?_
              refine KT.step rfl rfl (K.loadO rfl y1 (by simp) rfl Try.agg23) ?_
              refine KT.step rfl rfl (K.move rfl) ?_
              refine KT.idxI (m := s.2.2.2) rfl rfl rfl hK rfl hkl Try.underlying23 Try.size3 fun cs55 => ?_
              refine KT.step rfl rfl (K.load rfl Try.agg3) ?_
              refine KT.step rfl rfl (K.assign rfl) ?_
              refine KT.nil ?_
              refine thenK_n ?_
              refine KC.seq ?_
              refine KC.seq ?_
              refine KC.region ?_
              refine KT.step rfl rfl (K.move rfl) ?_
              refine KT.step rfl rfl (K.lss rfl rfl) ?_
              refine KT.step rfl rfl (K.move rfl) ?_
              refine KT.bcase (fun hb59 => ?_) (fun hb59 => ?_)
              · skip
                replace hb59 := of_decide_eq_true hb59
                refine KT.skip rfl rfl ?_
                refine KT.skip rfl rfl ?_
                refine KT.step rfl rfl (K.pick rfl (fun _ => rfl) (fun h => by cases h)) ?_
                refine KT.step rfl rfl (K.move rfl) ?_
                refine KT.skip rfl rfl ?_
                refine KT.skip rfl rfl ?_
                refine KT.step rfl rfl (K.pick rfl (fun _ => rfl) (fun h => by cases h)) ?_
                refine KT.step rfl rfl (K.move rfl) ?_
                refine KT.skip rfl rfl ?_
                refine KT.skip rfl rfl ?_
                refine KT.skip rfl rfl ?_
                refine KT.skip rfl rfl ?_
                refine KT.skip rfl rfl ?_
                refine KT.step rfl rfl (K.pick rfl (fun _ => rfl) (fun h => by cases h)) ?_
                refine KT.step rfl rfl (K.move rfl) ?_
                refine KT.skip rfl rfl ?_
                refine KT.skip rfl rfl ?_
                refine KT.skip rfl rfl ?_
                refine KT.skip rfl rfl ?_
                refine KT.skip rfl rfl ?_
                refine KT.skip rfl rfl ?_
                refine KT.skip rfl rfl ?_
                refine KT.skip rfl rfl ?_
                refine KT.step rfl rfl (K.pick rfl (fun _ => rfl) (fun h => by cases h)) ?_
                refine KT.nil ?_
                refine thenK_n ?_
                refine KC.cond rfl (fun hc83 => ?_) (fun hc83 => ?_)
                · skip
                  refine KC.seq ?_
                  refine KC.region ?_
                  refine KT.step rfl rfl (K.assign rfl) ?_
                  refine KT.step rfl rfl (K.assign rfl) ?_
                  refine KT.nil ?_
                  refine thenK_n ?_
                  refine KC.ret ?_
                  refine thenK_r ?_
                  refine blockK_r ?_
                  refine thenK_r ?_
                  refine thenK_r ?_
                  refine blockK_r ?_
                  refine thenK_r ?_
                  refine ⟨.inl rfl, _, rfl, fin_ib (run_step (k := s.2.2.2) hkl hst fun h => ?_)⟩
                  obtain ⟨g1, g2, g3, g4, g5, g6⟩ := h
                  rw [eW] at g1
                  rw [eK] at g2
                  omega
                · cases hc83
              · skip
                replace hb59 := of_decide_eq_false hb59
                refine KT.step rfl rfl (K.move rfl) ?_
                refine KT.step rfl rfl (K.gtr rfl rfl) ?_
                refine KT.step rfl rfl (K.pick rfl (fun h => by cases h) (fun _ => rfl)) ?_
                refine KT.step rfl rfl (K.move rfl) ?_
                refine KT.bcase (fun hb63 => ?_) (fun hb63 => ?_)
                · skip
                  replace hb63 := of_decide_eq_true hb63
                  refine KT.skip rfl rfl ?_
                  refine KT.skip rfl rfl ?_
                  refine KT.step rfl rfl (K.pick rfl (fun _ => rfl) (fun h => by cases h)) ?_
                  refine KT.step rfl rfl (K.move rfl) ?_
                  refine KT.skip rfl rfl ?_
                  refine KT.skip rfl rfl ?_
                  refine KT.skip rfl rfl ?_
                  refine KT.skip rfl rfl ?_
                  refine KT.skip rfl rfl ?_
                  refine KT.step rfl rfl (K.pick rfl (fun _ => rfl) (fun h => by cases h)) ?_
                  refine KT.step rfl rfl (K.move rfl) ?_
                  refine KT.skip rfl rfl ?_
                  refine KT.skip rfl rfl ?_
                  refine KT.skip rfl rfl ?_
                  refine KT.skip rfl rfl ?_
                  refine KT.skip rfl rfl ?_
                  refine KT.skip rfl rfl ?_
                  refine KT.skip rfl rfl ?_
                  refine KT.skip rfl rfl ?_
                  refine KT.step rfl rfl (K.pick rfl (fun _ => rfl) (fun h => by cases h)) ?_
                  refine KT.nil ?_
                  refine thenK_n ?_
                  refine KC.cond rfl (fun hc83 => ?_) (fun hc83 => ?_)
                  · skip
                    refine KC.seq ?_
                    refine KC.region ?_
                    refine KT.step rfl rfl (K.assign rfl) ?_
                    refine KT.step rfl rfl (K.assign rfl) ?_
                    refine KT.nil ?_
                    refine thenK_n ?_
                    refine KC.ret ?_
                    refine thenK_r ?_
                    refine blockK_r ?_
                    refine thenK_r ?_
                    refine thenK_r ?_
                    refine blockK_r ?_
                    refine thenK_r ?_
                    refine ⟨.inl rfl, _, rfl, fin_ib (run_step (k := s.2.2.2) hkl hst fun h => ?_)⟩
                    obtain ⟨g1, g2, g3, g4, g5, g6⟩ := h
                    rw [eW] at g1
                    rw [eK] at g2
                    omega
                  · cases hc83
                · skip
                  replace hb63 := of_decide_eq_false hb63
                  refine KT.step rfl rfl (K.move rfl) ?_
                  refine KT.step rfl rfl (K.lss rfl rfl) ?_
                  refine KT.step rfl rfl (K.pick rfl (fun h => by cases h) (fun _ => rfl)) ?_
                  refine KT.step rfl rfl (K.move rfl) ?_
                  refine KT.bcase (fun hb67 => ?_) (fun hb67 => ?_)
                  · skip
                    replace hb67 := of_decide_eq_true hb67
                    refine KT.skip rfl rfl ?_
                    refine KT.skip rfl rfl ?_
                    refine KT.skip rfl rfl ?_
                    refine KT.skip rfl rfl ?_
                    refine KT.skip rfl rfl ?_
                    refine KT.step rfl rfl (K.pick rfl (fun _ => rfl) (fun h => by cases h)) ?_
                    refine KT.step rfl rfl (K.move rfl) ?_
                    refine KT.skip rfl rfl ?_
                    refine KT.skip rfl rfl ?_
                    refine KT.skip rfl rfl ?_
                    refine KT.skip rfl rfl ?_
                    refine KT.skip rfl rfl ?_
                    refine KT.skip rfl rfl ?_
                    refine KT.skip rfl rfl ?_
                    refine KT.skip rfl rfl ?_
                    refine KT.step rfl rfl (K.pick rfl (fun _ => rfl) (fun h => by cases h)) ?_
                    refine KT.nil ?_
                    refine thenK_n ?_
                    refine KC.cond rfl (fun hc83 => ?_) (fun hc83 => ?_)
                    · skip
                      refine KC.seq ?_
                      refine KC.region ?_
                      refine KT.step rfl rfl (K.assign rfl) ?_
                      refine KT.step rfl rfl (K.assign rfl) ?_
                      refine KT.nil ?_
                      refine thenK_n ?_
                      refine KC.ret ?_
                      refine thenK_r ?_
                      refine blockK_r ?_
                      refine thenK_r ?_
                      refine thenK_r ?_
                      refine blockK_r ?_
                      refine thenK_r ?_
                      refine ⟨.inl rfl, _, rfl, fin_ib (run_step (k := s.2.2.2) hkl hst fun h => ?_)⟩
                      obtain ⟨g1, g2, g3, g4, g5, g6⟩ := h
                      rw [eW] at g1
                      rw [eK] at g2
                      omega
                    · cases hc83
                  · skip
                    replace hb67 := of_decide_eq_false hb67
                    refine KT.step rfl rfl (K.move rfl) ?_
                    refine KT.step rfl rfl (K.fieldAddrO rfl Try.fld56_2 Try.size54) ?_
                    refine KT.step rfl rfl (K.loadO rfl y0 (by simp) rfl Try.agg54) ?_
                    refine KT.step rfl rfl (K.lenEd rfl hE Try.underlying54) ?_
                    refine KT.step rfl rfl (K.geq rfl rfl) ?_
                    refine KT.step rfl rfl (K.pick rfl (fun h => by cases h) (fun _ => rfl)) ?_
                    refine KT.step rfl rfl (K.move rfl) ?_
                    refine KT.bcase (fun hb74 => ?_) (fun hb74 => ?_)
                    · skip
                      replace hb74 := of_decide_eq_true hb74
                      refine KT.skip rfl rfl ?_
                      refine KT.skip rfl rfl ?_
                      refine KT.skip rfl rfl ?_
                      refine KT.skip rfl rfl ?_
                      refine KT.skip rfl rfl ?_
                      refine KT.skip rfl rfl ?_
                      refine KT.skip rfl rfl ?_
                      refine KT.skip rfl rfl ?_
                      refine KT.step rfl rfl (K.pick rfl (fun _ => rfl) (fun h => by cases h)) ?_
                      refine KT.nil ?_
                      refine thenK_n ?_
                      refine KC.cond rfl (fun hc83 => ?_) (fun hc83 => ?_)
                      · skip
                        refine KC.seq ?_
                        refine KC.region ?_
                        refine KT.step rfl rfl (K.assign rfl) ?_
                        refine KT.step rfl rfl (K.assign rfl) ?_
                        refine KT.nil ?_
                        refine thenK_n ?_
                        refine KC.ret ?_
                        refine thenK_r ?_
                        refine blockK_r ?_
                        refine thenK_r ?_
                        refine thenK_r ?_
                        refine blockK_r ?_
                        refine thenK_r ?_
                        refine ⟨.inl rfl, _, rfl, fin_ib (run_step (k := s.2.2.2) hkl hst fun h => ?_)⟩
                        obtain ⟨g1, g2, g3, g4, g5, g6⟩ := h
                        rw [eW] at g1
                        rw [eK] at g2
                        omega
                      · cases hc83
                    · skip
                      replace hb74 := of_decide_eq_false hb74
                      have hwb : 0 ≤ W[s.2.2.2] ∧ W[s.2.2.2] ≤ 1000000 := by omega
                      obtain ⟨ek, eek⟩ := Int.eq_ofNat_of_zero_le (show 0 ≤ Q[s.2.2.2] by omega)
                      have hekl : ek < E.length := by omega
                      have hEk := okEd_iff.1 (h5 ek hekl)
                      rw [Int.toNat_natCast] at hEk
                      obtain ⟨hE1, hE2, hE3, hE4⟩ := hEk
                      have hE5 := setB_iff.1 hE4
                      have hE6 : 2 ^ (c + 1) ≤ 2 ^ 4 := Nat.pow_le_pow_right (by decide) (by omega)
                      have hE7 : 0 ≤ E[ek].2.2.2 ∧ E[ek].2.2.2 < 100 := by
                        generalize 2 ^ (c + 1) = q at *
                        omega
                      have hto : E[ek].2.1.toNat < I.length := by omega
                      have eEd : E.getD Q[s.2.2.2].toNat (0, 0, [], 0) = E[ek] := by rw [eek, Int.toNat_natCast]; exact getD_get hekl
                      have hvw : ∀ i, i < 4 → 0 ≤ wtM (c + 1) s.2.1 W[s.2.2.2] i ∧ wtM (c + 1) s.2.1 W[s.2.2.2] i ≤ 1000000000 := fun i hi => by have := wt_lim (m := c + 1) hvb hwb i hi; omega
                      refine KT.step rfl rfl (K.fieldAddrO rfl Try.fld56_2 Try.size54) ?_
                      refine KT.step rfl rfl (K.loadO rfl y0 (by simp) rfl Try.agg54) ?_
                      refine KT.step rfl rfl (K.move rfl) ?_
                      refine KT.idxEd (m := ek) rfl rfl rfl hE (by rw [eek]; rfl) hekl Try.underlying54 Try.size120 fun gd78 rest78 hgd78 => ?_
                      refine KT.step rfl rfl (K.fieldAddrD rfl Try.fld120_0 Try.size3) ?_
                      refine KT.step rfl rfl (K.load rfl Try.agg3) ?_
                      refine KT.step rfl rfl (K.move rfl) ?_
                      refine KT.step rfl rfl (K.neq rfl rfl) ?_
                      refine KT.step rfl rfl (K.pick rfl (fun h => by cases h) (fun _ => rfl)) ?_
                      refine KT.nil ?_
                      refine thenK_n ?_
                      refine KC.cond rfl (fun hc83 => ?_) (fun hc83 => ?_)
                      · skip
                        replace hc83 := of_decide_eq_true hc83
                        refine KC.seq ?_
                        refine KC.region ?_
                        refine KT.step rfl rfl (K.assign rfl) ?_
                        refine KT.step rfl rfl (K.assign rfl) ?_
                        refine KT.nil ?_
                        refine thenK_n ?_
                        refine KC.ret ?_
                        refine thenK_r ?_
                        refine blockK_r ?_
                        refine thenK_r ?_
                        refine thenK_r ?_
                        refine blockK_r ?_
                        refine thenK_r ?_
                        refine ⟨.inl rfl, _, rfl, fin_ib (run_step (k := s.2.2.2) hkl hst fun h => ?_)⟩
                        obtain ⟨g1, g2, g3, g4, g5, g6⟩ := h
                        rw [eK, eEd] at g3 g5 g6
                        rw [eW] at g4 g5 g6
                        exact absurd g3 hc83
                      · skip
                        replace hc83 := of_decide_eq_false hc83
                        refine KC.skip ?_
                        refine thenK_n ?_
                        refine KC.seq ?_
                        refine KC.seq ?_
                        refine KC.region ?_
                        refine KT.step rfl rfl (K.assign rfl) ?_
                        refine KT.nil ?_
                        refine thenK_n ?_
                        refine KC.block ?_
                        have y2' : s.1[2]? = some ⟨(c4 (wtM 1 s.2.1 W[s.2.2.2])).map .d, 0⟩ := by rw [wtM_one]; exact y2
                        refine KC.loop (fun r : List VObj × Nat => r.1) (fun r => [(3, .optr 1 0), (2, .optr 0 0), (6, .optr 2 0), (7, .d (DI (s.2.2.1 : Nat))), (45, .d wD), (46, .d (DI (W.length : Nat))), (47, .d (DI (s.2.2.2 : Nat))), (8, .d (DI (s.2.2.2 : Nat))), (9, .d (DI W[s.2.2.2])), (10, .d (DI Q[s.2.2.2])), (11, .d (DI (r.2 : Nat)))])
                          (fun r => r.1[0]? = some ⟨[.d (DI (c : Nat)), .d iD, .d eD], 0⟩ ∧ r.1[1]? = some ⟨[.d (DI den), .d wD, .d kD], 0⟩ ∧ r.1[2]? = some ⟨(c4 (wtM r.2 s.2.1 W[s.2.2.2])).map .d, 0⟩ ∧ 1 ≤ r.2 ∧ r.2 ≤ c + 1) (fun r => c + 1 - r.2) (s.1, 1) ⟨y0, y1, y2', Nat.le_refl _, by simp only; omega⟩ rfl (by simp [Go.Vm.look, extK, enterK]) ?_
                        clear y0 y1 y2 y2'
                        intro r hr2
                        obtain ⟨y0, y1, y2, hr1, hrc⟩ := hr2
                        refine KC.seq ?_
                        refine KC.seq ?_
                        refine KC.region ?_
                        refine KT.step rfl rfl (K.move rfl) ?_
                        refine KT.step rfl rfl (K.fieldAddrO rfl Try.fld56_0 Try.size3) ?_
                        refine KT.step rfl rfl (K.loadO rfl y0 (by simp) rfl Try.agg3) ?_
                        refine KT.step rfl rfl (K.leq rfl rfl) ?_
                        refine KT.nil ?_
                        refine thenK_n ?_
                        refine KC.cond rfl (fun hc87 => ?_) (fun hc87 => ?_)
                        · skip
                          replace hc87 := of_decide_eq_true hc87
                          have hvm : wtM r.2 s.2.1 W[s.2.2.2] r.2 = s.2.1 r.2 := by unfold wtM; rw [if_neg (by omega)]
                          have hvr := hvb r.2 (by omega)
                          refine KC.skip ?_
                          refine thenK_n ?_
                          refine KC.seq ?_
                          refine KC.block ?_
                          refine KC.region ?_
                          refine KT.step rfl rfl (K.move rfl) ?_
                          refine KT.step rfl rfl (K.idxA rfl rfl (show r.2 < 4 by omega) Try.underlying84 Try.size3) ?_
                          refine KT.step rfl rfl (K.loadO rfl y2 (by simp) (c4_get (by omega)) Try.agg3) ?_
                          refine KT.step rfl rfl (K.move rfl) ?_
                          refine KT.step rfl rfl (K.add rfl rfl (wrap_id (by rw [hvm]; omega))) ?_
                          refine KT.step rfl rfl (K.idxA rfl rfl (show r.2 < 4 by omega) Try.underlying84 Try.size3) ?_
                          refine KT.step rfl rfl (K.storeO rfl rfl y2 (by show 0 + r.2 * 1 < 4; omega) rfl rfl Try.size3) ?_
                          refine KT.nil ?_
                          refine blockK_n ?_
                          refine thenK_n ?_
                          refine KC.region ?_
                          refine KT.step rfl rfl (K.move rfl) ?_
                          refine KT.step rfl rfl (K.add rfl rfl (wrap_id (by omega))) ?_
                          refine KT.step rfl rfl (K.assign rfl) ?_
                          refine KT.nil ?_
                          refine thenK_n ?_
                          obtain ⟨y0, y1, y2⟩ := obj_set2 (o := ⟨((c4 (wtM r.2 s.2.1 W[s.2.2.2])).map XV.d).set (0 + r.2 * 1) (.d (DI (wtM r.2 s.2.1 W[s.2.2.2] r.2 + W[s.2.2.2]))), 0⟩) y0 y1 y2
                          rw [c4_put (by omega), wtM_step hr1] at y0 y1 y2
                          exact ⟨(_, r.2 + 1), ⟨y0, y1, y2, by simp only; omega, by simp only; omega⟩, by simp only; omega, by rw [c4_put (by omega), wtM_step hr1], by simp [Go.Vm.look, extK]⟩
                        · skip
                          replace hc87 := of_decide_eq_false hc87
                          refine KC.exit ?_
                          refine thenK_x ?_
                          refine thenK_x ?_
                          refine blockK_e ?_
                          refine thenK_n ?_
                          refine KC.seq ?_
                          refine KC.seq ?_
                          have hrc : r.2 = c + 1 := by omega
                          rw [hrc] at y2
                          refine KC.draw Try.mixed ?_
                          refine KT.step rfl rfl (K.fieldAddrO rfl Try.fld56_1 Try.size53) ?_
                          refine KT.step rfl rfl (K.loadO rfl y0 (by simp) rfl Try.agg53) ?_
                          refine KT.step rfl rfl (K.move rfl) ?_
                          refine KT.idx (m := s.2.2.1) rfl rfl rfl hI rfl hl Try.underlying53 Try.size117 fun c99 cs99 hq99 => ?_
                          refine KT.step rfl rfl (K.load rfl Try.agg117) ?_
                          refine KT.step rfl rfl (K.loadOA (c4 (wtM (c + 1) s.2.1 W[s.2.2.2])) rfl y2 (by decide) Try.agg84 Try.size84 rfl) ?_
                          refine KT.step rfl rfl (K.fieldAddrO rfl Try.fld73_0 Try.size3) ?_
                          refine KT.step rfl rfl (K.loadO rfl y1 (by simp) rfl Try.agg3) ?_
                          refine KT.step rfl rfl (K.call3 rfl rfl rfl plainTry_83 (hold83 hq99 (hold_ok (by omega) (h4 _ hl) hden).1 hvw hden.1 (hold_ok2 (by omega) (h4 _ hl) hden))) ?_
                          refine KT.step rfl rfl (K.not rfl) ?_
                          refine KT.step rfl rfl (K.move rfl) ?_
                          refine KT.bcase (fun hb106 => ?_) (fun hb106 => ?_)
                          · skip
                            refine KT.skip rfl rfl ?_
                            refine KT.skip rfl rfl ?_
                            refine KT.skip rfl rfl ?_
                            refine KT.skip rfl rfl ?_
                            refine KT.skip rfl rfl ?_
                            refine KT.skip rfl rfl ?_
                            refine KT.skip rfl rfl ?_
                            refine KT.skip rfl rfl ?_
                            refine KT.skip rfl rfl ?_
                            refine KT.skip rfl rfl ?_
                            refine KT.skip rfl rfl ?_
                            refine KT.step rfl rfl (K.pick rfl (fun _ => rfl) (fun h => by cases h)) ?_
                            refine KT.nil ?_
                            refine ⟨by kernel_rfl, ?_⟩
                            refine thenK_n ?_
                            refine KC.cond rfl (fun hc118 => ?_) (fun hc118 => ?_)
                            · skip
                              refine KC.seq ?_
                              refine KC.region ?_
                              refine KT.step rfl rfl (K.assign rfl) ?_
                              refine KT.step rfl rfl (K.assign rfl) ?_
                              refine KT.nil ?_
                              refine thenK_n ?_
                              refine KC.ret ?_
                              refine thenK_r ?_
                              refine blockK_r ?_
                              refine thenK_r ?_
                              refine thenK_r ?_
                              refine blockK_r ?_
                              refine thenK_r ?_
                              refine ⟨.inl rfl, _, rfl, fin_ib (run_step (k := s.2.2.2) hkl hst fun h => ?_)⟩
                              obtain ⟨g1, g2, g3, g4, g5, g6⟩ := h
                              rw [eK, eEd] at g3 g5 g6
                              rw [eW] at g4 g5 g6
                              rw [getD_get hl] at g4
                              rw [g4] at hb106; cases hb106
                            · cases hc118
                          · skip
                            refine KT.step rfl rfl (K.fieldAddrO rfl Try.fld56_2 Try.size54) ?_
                            refine KT.step rfl rfl (K.loadO rfl y0 (by simp) rfl Try.agg54) ?_
                            refine KT.step rfl rfl (K.move rfl) ?_
                            refine KT.idxEd (m := ek) rfl rfl rfl hE (by rw [eek]; rfl) hekl Try.underlying54 Try.size120 fun gd110 rest110 hgd110 => ?_
                            refine KT.step rfl rfl (K.fieldAddrD rfl Try.fld120_2 Try.size117) ?_
                            refine KT.step rfl rfl (K.load rfl Try.agg117) ?_
                            refine KT.step rfl rfl (K.loadOA (c4 (wtM (c + 1) s.2.1 W[s.2.2.2])) rfl y2 (by decide) Try.agg84 Try.size84 rfl) ?_
                            refine KT.step rfl rfl (K.fieldAddrO rfl Try.fld73_0 Try.size3) ?_
                            refine KT.step rfl rfl (K.loadO rfl y1 (by simp) rfl Try.agg3) ?_
                            refine KT.step rfl rfl (K.call3 rfl rfl rfl plainTry_83 (hold83 hgd110 (hold_ok (by omega) hE3 hden).1 hvw hden.1 (hold_ok2 (by omega) hE3 hden))) ?_
                            refine KT.step rfl rfl (K.not rfl) ?_
                            refine KT.step rfl rfl (K.pick rfl (fun h => by cases h) (fun _ => rfl)) ?_
                            refine KT.nil ?_
                            refine ⟨by kernel_rfl, ?_⟩
                            refine thenK_n ?_
                            refine KC.cond rfl (fun hc118 => ?_) (fun hc118 => ?_)
                            · skip
                              refine KC.seq ?_
                              refine KC.region ?_
                              refine KT.step rfl rfl (K.assign rfl) ?_
                              refine KT.step rfl rfl (K.assign rfl) ?_
                              refine KT.nil ?_
                              refine thenK_n ?_
                              refine KC.ret ?_
                              refine thenK_r ?_
                              refine blockK_r ?_
                              refine thenK_r ?_
                              refine thenK_r ?_
                              refine blockK_r ?_
                              refine thenK_r ?_
                              refine ⟨.inl rfl, _, rfl, fin_ib (run_step (k := s.2.2.2) hkl hst fun h => ?_)⟩
                              obtain ⟨g1, g2, g3, g4, g5, g6⟩ := h
                              rw [eK, eEd] at g3 g5 g6
                              rw [eW] at g4 g5 g6
                              rw [g5] at hc118; cases hc118
                            · skip
                              refine KC.skip ?_
                              refine thenK_n ?_
                              refine KC.seq ?_
                              refine KC.draw Try.mixed ?_
                              refine KT.step rfl rfl (K.loadOA (c4 (wtM (c + 1) s.2.1 W[s.2.2.2])) rfl y2 (by decide) Try.agg84 Try.size84 rfl) ?_
                              refine KT.step rfl rfl (K.fieldAddrO rfl Try.fld56_2 Try.size54) ?_
                              refine KT.step rfl rfl (K.loadO rfl y0 (by simp) rfl Try.agg54) ?_
                              refine KT.step rfl rfl (K.move rfl) ?_
                              refine KT.idxEd (m := ek) rfl rfl rfl hE (by rw [eek]; rfl) hekl Try.underlying54 Try.size120 fun gd123 rest123 hgd123 => ?_
                              refine KT.step rfl rfl (K.fieldAddrD rfl Try.fld120_3 Try.size3) ?_
                              refine KT.step rfl rfl (K.load rfl Try.agg3) ?_
                              refine KT.step rfl rfl (K.call2 rfl rfl plainTry_87 (resetR (by omega) (by omega))) ?_
                              refine KT.step rfl rfl (K.storeA (cs := (c4 (rstM 1 4 E[ek].2.2.2.toNat (wtM (c + 1) s.2.1 W[s.2.2.2]))).map .d) rfl rfl rfl y2 rfl rfl Try.size84) ?_
                              refine KT.nil ?_
                              refine ⟨by kernel_rfl, ?_⟩
                              refine thenK_n ?_
                              refine KC.seq ?_
                              obtain ⟨y0, y1, y2⟩ := obj_set2 (o := ⟨(c4 (rstM 1 4 E[ek].2.2.2.toNat (wtM (c + 1) s.2.1 W[s.2.2.2]))).map .d, 0⟩) y0 y1 y2
                              generalize hB3 : r.1.set 2 (⟨(c4 (rstM 1 4 E[ek].2.2.2.toNat (wtM (c + 1) s.2.1 W[s.2.2.2]))).map .d, 0⟩ : VObj) = B3 at y0 y1 y2 ⊢
                              refine KC.region ?_
                              refine KT.step rfl rfl (K.fieldAddrO rfl Try.fld56_2 Try.size54) ?_
                              refine KT.step rfl rfl (K.loadO rfl y0 (by simp) rfl Try.agg54) ?_
                              refine KT.step rfl rfl (K.move rfl) ?_
                              refine KT.idxEd (m := ek) rfl rfl rfl hE (by rw [eek]; rfl) hekl Try.underlying54 Try.size120 fun gd130 rest130 hgd130 => ?_
                              refine KT.step rfl rfl (K.fieldAddrD rfl Try.fld120_1 Try.size3) ?_
                              refine KT.step rfl rfl (K.load rfl Try.agg3) ?_
                              refine KT.step rfl rfl (K.assign rfl) ?_
                              refine KT.nil ?_
                              refine thenK_n ?_
                              refine KC.seq ?_
                              refine KC.draw Try.mixed ?_
                              refine KT.step rfl rfl (K.fieldAddrO rfl Try.fld56_1 Try.size53) ?_
                              refine KT.step rfl rfl (K.loadO rfl y0 (by simp) rfl Try.agg53) ?_
                              refine KT.step rfl rfl (K.move rfl) ?_
                              refine KT.idx (m := E[ek].2.1.toNat) rfl rfl rfl hI (by rw [Int.toNat_of_nonneg hE2.1]; rfl) hto Try.underlying53 Try.size117 fun c136 cs136 hq136 => ?_
                              refine KT.step rfl rfl (K.load rfl Try.agg117) ?_
                              refine KT.step rfl rfl (K.loadOA (c4 (rstM 1 4 E[ek].2.2.2.toNat (wtM (c + 1) s.2.1 W[s.2.2.2]))) rfl y2 (by decide) Try.agg84 Try.size84 rfl) ?_
                              refine KT.step rfl rfl (K.fieldAddrO rfl Try.fld73_0 Try.size3) ?_
                              refine KT.step rfl rfl (K.loadO rfl y1 (by simp) rfl Try.agg3) ?_
                              refine KT.step rfl rfl (K.call3 rfl rfl rfl plainTry_83 (hold83 hq136 (hold_ok (by omega) (h4 _ hto) hden).1 (rst_lim hvw) hden.1 (hold_ok2 (by omega) (h4 _ hto) hden))) ?_
                              refine KT.step rfl rfl (K.not rfl) ?_
                              refine KT.nil ?_
                              refine ⟨by kernel_rfl, ?_⟩
                              refine thenK_n ?_
                              refine KC.cond rfl (fun hc142 => ?_) (fun hc142 => ?_)
                              · skip
                                refine KC.seq ?_
                                refine KC.region ?_
                                refine KT.step rfl rfl (K.assign rfl) ?_
                                refine KT.step rfl rfl (K.assign rfl) ?_
                                refine KT.nil ?_
                                refine thenK_n ?_
                                refine KC.ret ?_
                                refine blockK_r ?_
                                refine thenK_r ?_
                                refine thenK_r ?_
                                refine blockK_r ?_
                                refine thenK_r ?_
                                refine ⟨.inl rfl, _, rfl, fin_ib (run_step (k := s.2.2.2) hkl hst fun h => ?_)⟩
                                obtain ⟨g1, g2, g3, g4, g5, g6⟩ := h
                                rw [eK, eEd] at g3 g5 g6
                                rw [eW] at g4 g5 g6
                                rw [getD_get hto] at g6
                                rw [g6] at hc142; cases hc142
                              · skip
                                refine KC.skip ?_
                                refine blockK_n ?_
                                refine thenK_n ?_
                                refine KC.region ?_
                                refine KT.step rfl rfl (K.add rfl rfl (wrap_id (by omega))) ?_
                                refine KT.step rfl rfl (K.move rfl) ?_
                                refine KT.nil ?_
                                refine thenK_n ?_
                                have hyes : okStep (c + 1) 1 I E den s.2.1 s.2.2.1 (W.getD s.2.2.2 0) (Q.getD s.2.2.2 0) := by
                                  unfold okStep
                                  rw [eK, eEd, eW, getD_get hl, getD_get hto]
                                  exact ⟨hwb, by omega, Classical.not_not.1 hc83, by simpa using hb106, by simpa using hc118, by simpa using hc142⟩
                                have hst2 := (stM_succ hst).trans (if_pos hyes)
                                rw [eK, eEd, eW] at hst2
                                refine ⟨(B3, _, E[ek].2.1.toNat, s.2.2.2 + 1), ⟨y0, y1, y2, hst2, hto, rst_lim (wt_lim hvb hwb), by simp only; omega⟩, by simp only; omega, rfl, by simp [Go.Vm.look, extK]; omega⟩
            · skip
              replace hc48 := of_decide_eq_false hc48
              refine KC.exit ?_
              refine thenK_x ?_
              refine thenK_x ?_
              refine blockK_e ?_
              refine thenK_n ?_
              refine KC.seq ?_
              refine KC.region ?_
              refine KT.step rfl rfl (K.move rfl) ?_
              refine KT.step rfl rfl (K.assign rfl) ?_
              refine KT.step rfl rfl (K.assign rfl) ?_
              refine KT.nil ?_
              refine thenK_n ?_
              refine KC.ret ?_
              have e : s.2.2.2 = Q.length := by omega
              rw [e] at hst
              exact ⟨.inl rfl, _, rfl, fin_ib (run_some ⟨by omega, by omega, by omega⟩ hst)⟩
end Go.Proofs.Ytjfpeiioddfjcaa

