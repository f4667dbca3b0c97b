import Derived.Test.YtjfpeiioddfjcaaZnZe
import Derived.Test.YtjfpeiioddfjcaaZnYb
/-
  Automata: the program follows a run.
-/
namespace Go.Proofs.Ytjfpeiioddfjcaa
open Go.Vm Go.Zn
theorem plainTry_88 : plainFn Try.prog 88 = true := by kernel_rfl
theorem Try.agg67 : isAggT Try.prog 67 = some true := by kernel_rfl
theorem Try.size67 : sizeT Try.prog 67 = some 3 := by kernel_rfl
theorem Try.zero67 : zeroT Try.prog 67 = some (.agg #[.int .i64 0, .slice none 0 0, .slice none 0 0]) := by kernel_rfl
theorem Try.fld67_0 : fieldT Try.prog 67 0 = some { name := "Den", type := 3, offset := 0, embedded := false, tag := "", pkgPath := "", byteOffset := 0 } := by kernel_rfl
theorem Try.fld67_1 : fieldT Try.prog 67 1 = some { name := "Waits", type := 23, offset := 1, embedded := false, tag := "", pkgPath := "", byteOffset := 8 } := by kernel_rfl
theorem Try.fld67_2 : fieldT Try.prog 67 2 = some { name := "Edges", type := 23, offset := 2, embedded := false, tag := "", pkgPath := "", byteOffset := 32 } := by kernel_rfl
theorem Try.places67 : (match Try.prog.underlying 67 with | some (.struct fs) => placesT Try.prog fs | _ => none) = some #[(0, 1), (1, 1), (2, 1)] := by kernel_rfl
theorem Try.agg73 : isAggT Try.prog 73 = some true := by kernel_rfl
theorem Try.size73 : sizeT Try.prog 73 = some 3 := by kernel_rfl
theorem Try.zero73 : zeroT Try.prog 73 = some (.agg #[.int .i64 0, .slice none 0 0, .slice none 0 0]) := by kernel_rfl
theorem Try.fld73_0 : fieldT Try.prog 73 0 = some { name := "Den", type := 3, offset := 0, embedded := false, tag := "", pkgPath := "", byteOffset := 0 } := by kernel_rfl
theorem Try.fld73_1 : fieldT Try.prog 73 1 = some { name := "Waits", type := 23, offset := 1, embedded := false, tag := "", pkgPath := "", byteOffset := 8 } := by kernel_rfl
theorem Try.fld73_2 : fieldT Try.prog 73 2 = some { name := "Edges", type := 23, offset := 2, embedded := false, tag := "", pkgPath := "", byteOffset := 32 } := by kernel_rfl
theorem Try.places73 : (match Try.prog.underlying 73 with | some (.struct fs) => placesT Try.prog fs | _ => none) = some #[(0, 1), (1, 1), (2, 1)] := by kernel_rfl

theorem resetP {v : Nat → Int} {s : Int} (h0 : 0 ≤ s) (h1 : s < 100) : DeepCall Try.prog 108 [.agg (c4 v), DI s] (.agg (c4 (rstM 0 4 s.toNat v))) := by
  obtain ⟨s, rfl⟩ := Int.eq_ofNat_of_zero_le h0
  exact reset108 (by omega)
theorem hold_ok {c : Nat} {L : List G3} {den : Int} (hc : c ≤ 3) (h : okL c L = true) (hd : 1 ≤ den ∧ den ≤ 1000) : L.length ≤ 1000000 ∧ ∀ g ∈ L, (0 ≤ g.1 ∧ g.1 ≤ 3) ∧ (0 ≤ g.2.1 ∧ g.2.1 ≤ 3) ∧ -1000000000000000 ≤ g.2.2 / 2 * den ∧ g.2.2 / 2 * den ≤ 1000000000000000 := by
  unfold okL at h
  rw [Bool.and_eq_true] at h
  have h1 := of_decide_eq_true h.1
  refine ⟨by omega, fun g hg => ?_⟩
  obtain ⟨k1, k2, k3⟩ := okG_iff.1 (List.all_eq_true.1 h.2 g hg)
  refine ⟨by omega, by omega, ?_⟩
  unfold bndB at k2
  simp only [Bool.or_eq_true, Bool.and_eq_true, decide_eq_true_eq] at k2
  rcases k2 with k2 | k2
  · rw [k2]; show -1000000000000000 ≤ 549755813888 * den ∧ 549755813888 * den ≤ 1000000000000000; omega
  · have a1 : -10 ≤ g.2.2 / 2 := by omega
    have a2 : g.2.2 / 2 ≤ 10 := by omega
    generalize g.2.2 / 2 = q at *
    have b1 := Int.mul_le_mul_of_nonneg_right a1 (show 0 ≤ den by omega)
    have b2 := Int.mul_le_mul_of_nonneg_right a2 (show 0 ≤ den by omega)
    omega
theorem wt_lim {m k : Nat} {v : Nat → Int} {w : Int} (hv : ∀ i, i < 4 → 0 ≤ v i ∧ v i ≤ 1000000 * (k : Int)) (hw : 0 ≤ w ∧ w ≤ 1000000) : ∀ i, i < 4 → 0 ≤ wtM m v w i ∧ wtM m v w i ≤ 1000000 * ((k + 1 : Nat) : Int) := fun i hi => by
  have := hv i hi
  unfold wtM
  split <;> omega
theorem rst_lim {lo m s : Nat} {v : Nat → Int} {b : Int} (hv : ∀ i, i < 4 → 0 ≤ v i ∧ v i ≤ b) : ∀ i, i < 4 → 0 ≤ rstM lo m s v i ∧ rstM lo m s v i ≤ b := fun i hi => by
  have := hv i hi
  unfold rstM
  split <;> omega
theorem fin_ib {σ : List VObj} {k : Nat} {x : Int} {b : Bool} {r : Int × Bool} (h : r = (x, b)) : deepen σ (k + 3) (.tup [.d (DI x), .d (DB b)]) = some (.tup [DI r.1, DB r.2]) := by subst h; rfl
set_option maxHeartbeats 4000000 in
set_option maxRecDepth 10000 in
theorem follow88 {iD eD wD kD : DV} {I : List (List G3)} {E : List Ed} {W Q : List Int} {c : Nat} {den : Int} (hI : GdsL iD I) (hE : Eds eD E) (hW : Ints wD W) (hK : Ints kD Q) (hr : rightB c I E = true) (hWl : W.length ≤ 9223372036854775807) (hKl : Q.length ≤ 9223372036854775807) : DeepCall Try.prog 88 [.agg [DI (c : Nat), iD, eD], .agg [DI den, wD, kD]] (.tup [DI (runM 4 0 I E den W Q).1, DB (runM 4 0 I E den W Q).2]) := by
  obtain ⟨⟨h1, h2, h3⟩, h4, h5⟩ := rightB_iff.1 hr
  have hi0 : 0 < I.length := by omega
  refine deepCall_K 5 Try.func88 rfl (Nat.le_of_ble_eq_true rfl) fun M W0 => ?_
  refine KC.seq ?_
  refine KC.region ?_
  refine KT.step rfl rfl (K.box rfl) ?_
  refine KT.step rfl rfl (K.box rfl) ?_
  refine KT.step rfl rfl (K.assign rfl) ?_
  refine KT.step rfl rfl (K.assign rfl) ?_
  refine KT.nil ?_
  refine thenK_n ?_
  refine KC.seq ?_
  refine KC.seq ?_
  refine KC.region ?_
  refine KT.step rfl rfl (K.fieldAddrO rfl Try.fld67_0 Try.size3) ?_
  refine KT.step rfl rfl (K.loadO rfl rfl (by simp) rfl Try.agg3) ?_
  refine KT.step rfl rfl (K.call3 rfl rfl rfl plainTry_71 (in71 _ _ _)) ?_
  refine KT.step rfl rfl (K.not rfl) ?_
  refine KT.step rfl rfl (K.move rfl) ?_
  refine KT.bcase (fun hb14 => ?_) (fun hb14 => ?_)
  · skip
    refine KT.skip rfl rfl ?_
    refine KT.skip rfl rfl ?_
    refine KT.skip rfl rfl ?_
    refine KT.skip rfl rfl ?_
    refine KT.step rfl rfl (K.pick rfl (fun _ => rfl) (fun h => by cases h)) ?_
    refine KT.step rfl rfl (K.move rfl) ?_
    refine KT.skip rfl rfl ?_
    refine KT.skip rfl rfl ?_
    refine KT.skip rfl rfl ?_
    refine KT.skip rfl rfl ?_
    refine KT.skip rfl rfl ?_
    refine KT.skip rfl rfl ?_
    refine KT.skip rfl rfl ?_
    refine KT.step rfl rfl (K.pick rfl (fun _ => rfl) (fun h => by cases h)) ?_
    refine KT.nil ?_
    refine thenK_n ?_
    refine KC.cond rfl (fun hc28 => ?_) (fun hc28 => ?_)
    · skip
      refine KC.seq ?_
      refine KC.region ?_
      refine KT.step rfl rfl (K.assign rfl) ?_
      refine KT.step rfl rfl (K.assign rfl) ?_
      refine KT.nil ?_
      refine thenK_n ?_
      refine KC.ret ?_
      refine thenK_r ?_
      have hno : ¬ runOk den W Q := fun h => by
        rw [in_iff.2 h.1] at hb14; cases hb14
      exact ⟨.inl rfl, _, rfl, fin_ib (run_bad hno)⟩
    · cases hc28
  · skip
    refine KT.step rfl rfl (K.fieldAddrO rfl Try.fld67_2 Try.size23) ?_
    refine KT.step rfl rfl (K.loadO rfl rfl (by simp) rfl Try.agg23) ?_
    refine KT.step rfl rfl (K.len rfl hK Try.underlying23) ?_
    refine KT.step rfl rfl (K.gtr rfl rfl) ?_
    refine KT.step rfl rfl (K.pick rfl (fun h => by cases h) (fun _ => rfl)) ?_
    refine KT.step rfl rfl (K.move rfl) ?_
    refine KT.bcase (fun hb20 => ?_) (fun hb20 => ?_)
    · skip
      replace hb20 := of_decide_eq_true hb20
      refine KT.skip rfl rfl ?_
      refine KT.skip rfl rfl ?_
      refine KT.skip rfl rfl ?_
      refine KT.skip rfl rfl ?_
      refine KT.skip rfl rfl ?_
      refine KT.skip rfl rfl ?_
      refine KT.skip rfl rfl ?_
      refine KT.step rfl rfl (K.pick rfl (fun _ => rfl) (fun h => by cases h)) ?_
      refine KT.nil ?_
      refine thenK_n ?_
      refine KC.cond rfl (fun hc28 => ?_) (fun hc28 => ?_)
      · skip
        refine KC.seq ?_
        refine KC.region ?_
        refine KT.step rfl rfl (K.assign rfl) ?_
        refine KT.step rfl rfl (K.assign rfl) ?_
        refine KT.nil ?_
        refine thenK_n ?_
        refine KC.ret ?_
        refine thenK_r ?_
        have hno : ¬ runOk den W Q := fun h => by
          have h1 := h.2
          omega
        exact ⟨.inl rfl, _, rfl, fin_ib (run_bad hno)⟩
      · cases hc28
    · skip
      replace hb20 := of_decide_eq_false hb20
      refine KT.step rfl rfl (K.fieldAddrO rfl Try.fld67_1 Try.size23) ?_
      refine KT.step rfl rfl (K.loadO rfl rfl (by simp) rfl Try.agg23) ?_
      refine KT.step rfl rfl (K.len rfl hW Try.underlying23) ?_
      refine KT.step rfl rfl (K.fieldAddrO rfl Try.fld67_2 Try.size23) ?_
      refine KT.step rfl rfl (K.loadO rfl rfl (by simp) rfl Try.agg23) ?_
      refine KT.step rfl rfl (K.len rfl hK Try.underlying23) ?_
      refine KT.step rfl rfl (K.neq rfl rfl) ?_
      refine KT.step rfl rfl (K.pick rfl (fun h => by cases h) (fun _ => rfl)) ?_
      refine KT.nil ?_
      refine thenK_n ?_
      refine KC.cond rfl (fun hc28 => ?_) (fun hc28 => ?_)
      · skip
        replace hc28 := of_decide_eq_true hc28
        refine KC.seq ?_
        refine KC.region ?_
        refine KT.step rfl rfl (K.assign rfl) ?_
        refine KT.step rfl rfl (K.assign rfl) ?_
        refine KT.nil ?_
        refine thenK_n ?_
        refine KC.ret ?_
        refine thenK_r ?_
        have hno : ¬ runOk den W Q := fun h => by
          have h1 := h.2
          omega
        exact ⟨.inl rfl, _, rfl, fin_ib (run_bad hno)⟩
      · skip
        replace hc28 := of_decide_eq_false hc28
        have hden := in_iff.1 (show (decide ((1 : Int) ≤ den) && decide (den ≤ 1000)) = true by simpa using hb14)
        refine KC.skip ?_
        refine thenK_n ?_
        refine KC.seq ?_
        refine KC.region ?_
        refine KT.step rfl rfl (K.alloc Try.zero105) ?_
        refine KT.nil ?_
        refine thenK_n ?_
        refine KC.seq ?_
        refine KC.seq ?_
        refine KC.draw Try.mixed ?_
        refine KT.step rfl rfl (K.fieldAddrO rfl Try.fld62_1 Try.size59) ?_
        refine KT.step rfl rfl (K.loadO rfl rfl (by simp) rfl Try.agg59) ?_
        refine KT.idx (m := 0) rfl rfl rfl hI rfl hi0 Try.underlying59 Try.size107 fun c31 cs31 hq31 => ?_
        refine KT.step rfl rfl (K.load rfl Try.agg107) ?_
        refine KT.step rfl rfl (K.loadOA (c4 fun _ => 0) rfl rfl (by decide) Try.agg105 Try.size105 rfl) ?_
        refine KT.step rfl rfl (K.fieldAddrO rfl Try.fld67_0 Try.size3) ?_
        refine KT.step rfl rfl (K.loadO rfl rfl (by simp) rfl Try.agg3) ?_
        refine KT.step rfl rfl (K.call3 rfl rfl rfl plainTry_72 (hold72 hq31 (hold_ok (by omega) (h4 0 hi0) hden).1 (fun _ _ => ⟨by decide, by decide⟩) (hold_ok (by omega) (h4 0 hi0) hden).2)) ?_
        refine KT.step rfl rfl (K.not rfl) ?_
        refine KT.nil ?_
        refine ⟨by kernel_rfl, ?_⟩
        refine thenK_n ?_
        refine KC.cond rfl (fun hc37 => ?_) (fun hc37 => ?_)
        · skip
          refine KC.seq ?_
          refine KC.region ?_
          refine KT.step rfl rfl (K.assign rfl) ?_
          refine KT.step rfl rfl (K.assign rfl) ?_
          refine KT.nil ?_
          refine thenK_n ?_
          refine KC.ret ?_
          refine thenK_r ?_
          have hno : stM 4 0 I E den W Q 0 = none := if_neg (by rw [getD_get hi0]; simpa using hc37)
          exact ⟨.inl rfl, _, rfl, fin_ib (run_none (Nat.zero_le _) hno)⟩
        · skip
          have hs0 : stM 4 0 I E den W Q 0 = some (fun _ => 0, 0) := if_pos (by rw [getD_get hi0]; simpa using hc37)
          refine KC.skip ?_
          refine thenK_n ?_
          refine KC.seq ?_
          refine KC.seq ?_
          refine KC.region ?_
          refine KT.step rfl rfl (K.fieldAddrO rfl Try.fld67_2 Try.size23) ?_
          refine KT.step rfl rfl (K.loadO rfl rfl (by simp) rfl Try.agg23) ?_
          refine KT.step rfl rfl (K.len rfl hK Try.underlying23) ?_
          refine KT.step rfl rfl (K.move rfl) ?_
          refine KT.nil ?_
          refine thenK_n ?_
          refine KC.block ?_
          refine KC.loop (fun s : List VObj × (Nat → Int) × Nat × Nat => s.1) (fun s => [(2, .optr 0 0), (3, .optr 1 0), (4, .d (DI (s.2.2.1 : Nat))), (6, .optr 2 0), (39, .d kD), (40, .d (DI (Q.length : Nat))), (41, .d (DI (s.2.2.2 : Nat)))])
            (fun s => s.1[0]? = some ⟨[.d (DI (c : Nat)), .d iD, .d eD], 0⟩ ∧ s.1[1]? = some ⟨[.d (DI den), .d wD, .d kD], 0⟩ ∧ s.1[2]? = some ⟨(c4 (s.2.1)).map .d, 0⟩ ∧ 3 ≤ s.1.length ∧ stM 4 0 I E den W Q s.2.2.2 = some (s.2.1, s.2.2.1) ∧ s.2.2.1 < I.length ∧ (∀ i, i < 4 → 0 ≤ s.2.1 i ∧ s.2.1 i ≤ 1000000 * (s.2.2.2 : Int)) ∧ s.2.2.2 ≤ Q.length) (fun s => Q.length - s.2.2.2) (_, fun _ => 0, 0, 0) ⟨rfl, rfl, rfl, Nat.le_refl _, hs0, hi0, (fun _ _ => by show (0 : Int) ≤ 0 ∧ (0 : Int) ≤ 1000000 * ((0 : Nat) : Int); decide), Nat.zero_le _⟩ rfl (by simp [Go.Vm.look, extK, enterK]) ?_
          intro s hs
          obtain ⟨y0, y1, y2, hA3, hst, hl, hvb, hk⟩ := hs
          refine KC.seq ?_
          refine KC.region ?_
          refine KT.step rfl rfl (K.lss rfl rfl) ?_
          refine KT.nil ?_
          refine thenK_n ?_
          refine KC.seq ?_
          refine KC.cond rfl (fun hc42 => ?_) (fun hc42 => ?_)
          · skip
            replace hc42 := of_decide_eq_true hc42
            have hkl : s.2.2.2 < Q.length := by omega
            have hwl : s.2.2.2 < W.length := by omega
            have eK : Q.getD s.2.2.2 0 = Q[s.2.2.2] := getD_get hkl
            have eW : W.getD s.2.2.2 0 = W[s.2.2.2] := getD_get hwl
            refine KC.skip ?_
            refine thenK_n ?_
            refine KC.seq ?_
            refine KC.block ?_
            refine KC.seq ?_
            refine KC.region ?_
            refine KT.step rfl rfl (K.move rfl) ?_
            refine KT.idxI (m := s.2.2.2) rfl rfl rfl hK rfl hkl Try.underlying23 Try.size3 fun cs44 => ?_
            refine KT.step rfl rfl (K.load rfl Try.agg3) ?_
            refine KT.step rfl rfl (K.assign rfl) ?_
            refine KT.step rfl rfl (K.assign rfl) ?_
            refine KT.nil ?_
            refine thenK_n ?_
            refine KC.seq ?_
            refine KC.seq ?_
            refine KC.region ?_
            refine KT.step rfl rfl (K.move rfl) ?_
            refine KT.step rfl rfl (K.fieldAddrO rfl Try.fld62_2 Try.size60) ?_
            refine KT.step rfl rfl (K.loadO rfl y0 (by simp) rfl Try.agg60) ?_
            refine KT.step rfl rfl (K.lenEd rfl hE Try.underlying60) ?_
            refine KT.step rfl rfl (K.sub rfl rfl (wrap_id (by omega))) ?_
            refine KT.step rfl rfl (K.call3 rfl rfl rfl plainTry_71 (in71 _ _ _)) ?_
            refine KT.step rfl rfl (K.not rfl) ?_
            refine KT.step rfl rfl (K.move rfl) ?_
            refine KT.bcase (fun hb53 => ?_) (fun hb53 => ?_)
            · skip
              refine KT.skip rfl rfl ?_
              refine KT.skip rfl rfl ?_
              refine KT.skip rfl rfl ?_
              refine KT.skip rfl rfl ?_
              refine KT.skip rfl rfl ?_
              refine KT.skip rfl rfl ?_
              refine KT.skip rfl rfl ?_
              refine KT.step rfl rfl (K.pick rfl (fun _ => rfl) (fun h => by cases h)) ?_
              refine KT.nil ?_
              refine thenK_n ?_
              refine KC.cond rfl (fun hc61 => ?_) (fun hc61 => ?_)
              · skip
                refine KC.seq ?_
                refine KC.region ?_
                refine KT.step rfl rfl (K.assign rfl) ?_
                refine KT.step rfl rfl (K.assign rfl) ?_
                refine KT.nil ?_
                refine thenK_n ?_
                refine KC.ret ?_
                refine thenK_r ?_
                refine blockK_r ?_
                refine thenK_r ?_
                refine thenK_r ?_
                refine blockK_r ?_
                refine thenK_r ?_
                refine ⟨.inl rfl, _, rfl, fin_ib (run_step (k := s.2.2.2) hkl hst fun h => ?_)⟩
                obtain ⟨g1, g2, g3, g4, g5, g6⟩ := h
                rw [eK] at g2
                rw [in_iff.2 (by omega)] at hb53; cases hb53
              · cases hc61
            · skip
              refine KT.step rfl rfl (K.fieldAddrO rfl Try.fld67_1 Try.size23) ?_
              refine KT.step rfl rfl (K.loadO rfl y1 (by simp) rfl Try.agg23) ?_
              refine KT.step rfl rfl (K.move rfl) ?_
              refine KT.idxI (m := s.2.2.2) rfl rfl rfl hW rfl hwl Try.underlying23 Try.size3 fun cs57 => ?_
              refine KT.step rfl rfl (K.load rfl Try.agg3) ?_
              refine KT.step rfl rfl (K.call3 rfl rfl rfl plainTry_71 (in71 _ _ _)) ?_
              refine KT.step rfl rfl (K.not rfl) ?_
              refine KT.step rfl rfl (K.pick rfl (fun h => by cases h) (fun _ => rfl)) ?_
              refine KT.nil ?_
              refine thenK_n ?_
              refine KC.cond rfl (fun hc61 => ?_) (fun hc61 => ?_)
              · skip
                refine KC.seq ?_
                refine KC.region ?_
                refine KT.step rfl rfl (K.assign rfl) ?_
                refine KT.step rfl rfl (K.assign rfl) ?_
                refine KT.nil ?_
                refine thenK_n ?_
                refine KC.ret ?_
                refine thenK_r ?_
                refine blockK_r ?_
                refine thenK_r ?_
                refine thenK_r ?_
                refine blockK_r ?_
                refine thenK_r ?_
                refine ⟨.inl rfl, _, rfl, fin_ib (run_step (k := s.2.2.2) hkl hst fun h => ?_)⟩
                obtain ⟨g1, g2, g3, g4, g5, g6⟩ := h
                rw [eK] at g2
                rw [eW] at g1
                rw [in_iff.2 g1] at hc61; cases hc61
              · skip
                have hwb := in_iff.1 (show (decide ((0 : Int) ≤ W[s.2.2.2]) && decide (W[s.2.2.2] ≤ 1000000)) = true by simpa using hc61)
                have heb := in_iff.1 (show (decide ((0 : Int) ≤ Q[s.2.2.2]) && decide (Q[s.2.2.2] ≤ ((E.length : Nat) : Int) - 1)) = true by simpa using hb53)
                obtain ⟨ek, eek⟩ := Int.eq_ofNat_of_zero_le heb.1
                have hekl : ek < E.length := by omega
                have hEk := okEd_iff.1 (h5 ek hekl)
                rw [Int.toNat_natCast] at hEk
                obtain ⟨hE1, hE2, hE3, hE4⟩ := hEk
                have hE5 := setB_iff.1 hE4
                have hE6 : 2 ^ (c + 1) ≤ 2 ^ 4 := Nat.pow_le_pow_right (by decide) (by omega)
                have hE7 : 0 ≤ E[ek].2.2.2 ∧ E[ek].2.2.2 < 100 := by
                  generalize 2 ^ (c + 1) = q at *
                  omega
                have hto : E[ek].2.1.toNat < I.length := by omega
                have eEd : E.getD Q[s.2.2.2].toNat (0, 0, [], 0) = E[ek] := by rw [eek, Int.toNat_natCast]; exact getD_get hekl
                have hvl : ∀ i, i < 4 → 0 ≤ s.2.1 i ∧ s.2.1 i ≤ 1000000000 := fun i hi => by have := hvb i hi; omega
                have hvw : ∀ i, i < 4 → 0 ≤ wtM 4 s.2.1 W[s.2.2.2] i ∧ wtM 4 s.2.1 W[s.2.2.2] i ≤ 1000000000 := fun i hi => by have := wt_lim (m := 4) hvb hwb i hi; omega
                refine KC.skip ?_
                refine thenK_n ?_
                refine KC.seq ?_
                refine KC.region ?_
                refine KT.step rfl rfl (K.fieldAddrO rfl Try.fld62_2 Try.size60) ?_
                refine KT.step rfl rfl (K.loadO rfl y0 (by simp) rfl Try.agg60) ?_
                refine KT.step rfl rfl (K.move rfl) ?_
                refine KT.idxEd (m := ek) rfl rfl rfl hE (by rw [eek]; rfl) hekl Try.underlying60 Try.size122 fun gd rest hgd => ?_
                refine KT.step rfl rfl (K.loadAgg (m := 4) rfl Try.agg122 Try.size122 (by simp)) ?_
                refine KT.step rfl rfl (K.alloc Try.zero122) ?_
                refine KT.storeL (cs := [.d (DI E[ek].1), .d (DI E[ek].2.1), .d gd, .d (DI E[ek].2.2.2)]) rfl rfl rfl rfl rfl rfl (ed_one hgd) Try.size122 ?_
                refine KT.nil ?_
                refine thenK_n ?_
                refine KC.seq ?_
                have y3 : (s.1 ++ [(⟨[.d (DI E[ek].1), .d (DI E[ek].2.1), .d gd, .d (DI E[ek].2.2.2)], 0⟩ : VObj)])[s.1.length]? = some ⟨[.d (DI E[ek].1), .d (DI E[ek].2.1), .d gd, .d (DI E[ek].2.2.2)], 0⟩ := obj_app
                have y0 : (s.1 ++ [(⟨[.d (DI E[ek].1), .d (DI E[ek].2.1), .d gd, .d (DI E[ek].2.2.2)], 0⟩ : VObj)])[0]? = some _ := get_left y0
                have y1 : (s.1 ++ [(⟨[.d (DI E[ek].1), .d (DI E[ek].2.1), .d gd, .d (DI E[ek].2.2.2)], 0⟩ : VObj)])[1]? = some _ := get_left y1
                have y2 : (s.1 ++ [(⟨[.d (DI E[ek].1), .d (DI E[ek].2.1), .d gd, .d (DI E[ek].2.2.2)], 0⟩ : VObj)])[2]? = some _ := get_left y2
                generalize hB1 : s.1 ++ [(⟨[.d (DI E[ek].1), .d (DI E[ek].2.1), .d gd, .d (DI E[ek].2.2.2)], 0⟩ : VObj)] = B1 at y0 y1 y2 y3 ⊢
                refine KC.draw Try.mixed ?_
                refine KT.step rfl rfl (K.loadOA (c4 s.2.1) rfl y2 (by decide) Try.agg105 Try.size105 rfl) ?_
                refine KT.step rfl rfl (K.fieldAddrO rfl Try.fld67_1 Try.size23) ?_
                refine KT.step rfl rfl (K.loadO rfl y1 (by simp) rfl Try.agg23) ?_
                refine KT.step rfl rfl (K.move rfl) ?_
                refine KT.idxI (m := s.2.2.2) rfl rfl rfl hW rfl hwl Try.underlying23 Try.size3 fun cs71 => ?_
                refine KT.step rfl rfl (K.load rfl Try.agg3) ?_
                refine KT.step rfl rfl (K.call2 rfl rfl plainTry_107 (waited107 hvl hwb)) ?_
                refine KT.step rfl rfl (K.storeA (cs := (c4 (wtM 4 s.2.1 W[s.2.2.2])).map .d) rfl rfl rfl y2 rfl rfl Try.size105) ?_
                refine KT.nil ?_
                refine ⟨by kernel_rfl, ?_⟩
                refine thenK_n ?_
                refine KC.seq ?_
                refine KC.seq ?_
                obtain ⟨y0, y1, y2, y3⟩ := obj_set3 (o := ⟨(c4 (wtM 4 s.2.1 W[s.2.2.2])).map .d, 0⟩) y0 y1 y2 y3 hA3
                generalize hB2 : B1.set 2 (⟨(c4 (wtM 4 s.2.1 W[s.2.2.2])).map .d, 0⟩ : VObj) = B2 at y0 y1 y2 y3 ⊢
                refine KC.draw Try.mixed ?_
                refine KT.step rfl rfl (K.fieldAddrO rfl Try.fld122_0 Try.size3) ?_
                refine KT.step rfl rfl (K.loadO rfl y3 (by simp) rfl Try.agg3) ?_
                refine KT.step rfl rfl (K.move rfl) ?_
                refine KT.step rfl rfl (K.neq rfl rfl) ?_
                refine KT.step rfl rfl (K.move rfl) ?_
                refine KT.bcase (fun hb78 => ?_) (fun hb78 => ?_)
                · skip
                  replace hb78 := of_decide_eq_true hb78
                  refine KT.skip rfl rfl ?_
                  refine KT.skip rfl rfl ?_
                  refine KT.skip rfl rfl ?_
                  refine KT.skip rfl rfl ?_
                  refine KT.skip rfl rfl ?_
                  refine KT.skip rfl rfl ?_
                  refine KT.skip rfl rfl ?_
                  refine KT.skip rfl rfl ?_
                  refine KT.skip rfl rfl ?_
                  refine KT.skip rfl rfl ?_
                  refine KT.step rfl rfl (K.pick rfl (fun _ => rfl) (fun h => by cases h)) ?_
                  refine KT.step rfl rfl (K.move rfl) ?_
                  refine KT.skip rfl rfl ?_
                  refine KT.skip rfl rfl ?_
                  refine KT.skip rfl rfl ?_
                  refine KT.skip rfl rfl ?_
                  refine KT.skip rfl rfl ?_
                  refine KT.skip rfl rfl ?_
                  refine KT.skip rfl rfl ?_
                  refine KT.step rfl rfl (K.pick rfl (fun _ => rfl) (fun h => by cases h)) ?_
                  refine KT.nil ?_
                  refine ⟨by kernel_rfl, ?_⟩
                  refine thenK_n ?_
                  refine KC.cond rfl (fun hc98 => ?_) (fun hc98 => ?_)
                  · skip
                    refine KC.seq ?_
                    refine KC.region ?_
                    refine KT.step rfl rfl (K.assign rfl) ?_
                    refine KT.step rfl rfl (K.assign rfl) ?_
                    refine KT.nil ?_
                    refine thenK_n ?_
                    refine KC.ret ?_
                    refine thenK_r ?_
                    refine blockK_r ?_
                    refine thenK_r ?_
                    refine thenK_r ?_
                    refine blockK_r ?_
                    refine thenK_r ?_
                    refine ⟨.inl rfl, _, rfl, fin_ib (run_step (k := s.2.2.2) hkl hst fun h => ?_)⟩
                    obtain ⟨g1, g2, g3, g4, g5, g6⟩ := h
                    rw [eK, eEd] at g3 g5 g6
                    rw [eW] at g4 g5 g6
                    exact absurd g3 hb78
                  · cases hc98
                · skip
                  replace hb78 := of_decide_eq_false hb78
                  refine KT.step rfl rfl (K.fieldAddrO rfl Try.fld62_1 Try.size59) ?_
                  refine KT.step rfl rfl (K.loadO rfl y0 (by simp) rfl Try.agg59) ?_
                  refine KT.step rfl rfl (K.move rfl) ?_
                  refine KT.idx (m := s.2.2.1) rfl rfl rfl hI rfl hl Try.underlying59 Try.size107 fun c82 cs82 hq82 => ?_
                  refine KT.step rfl rfl (K.load rfl Try.agg107) ?_
                  refine KT.step rfl rfl (K.loadOA (c4 (wtM 4 s.2.1 W[s.2.2.2])) rfl y2 (by decide) Try.agg105 Try.size105 rfl) ?_
                  refine KT.step rfl rfl (K.fieldAddrO rfl Try.fld67_0 Try.size3) ?_
                  refine KT.step rfl rfl (K.loadO rfl y1 (by simp) rfl Try.agg3) ?_
                  refine KT.step rfl rfl (K.call3 rfl rfl rfl plainTry_72 (hold72 hq82 (hold_ok (by omega) (h4 _ hl) hden).1 hvw (hold_ok (by omega) (h4 _ hl) hden).2)) ?_
                  refine KT.step rfl rfl (K.not rfl) ?_
                  refine KT.step rfl rfl (K.pick rfl (fun h => by cases h) (fun _ => rfl)) ?_
                  refine KT.step rfl rfl (K.move rfl) ?_
                  refine KT.bcase (fun hb90 => ?_) (fun hb90 => ?_)
                  · skip
                    refine KT.skip rfl rfl ?_
                    refine KT.skip rfl rfl ?_
                    refine KT.skip rfl rfl ?_
                    refine KT.skip rfl rfl ?_
                    refine KT.skip rfl rfl ?_
                    refine KT.skip rfl rfl ?_
                    refine KT.skip rfl rfl ?_
                    refine KT.step rfl rfl (K.pick rfl (fun _ => rfl) (fun h => by cases h)) ?_
                    refine KT.nil ?_
                    refine ⟨by kernel_rfl, ?_⟩
                    refine thenK_n ?_
                    refine KC.cond rfl (fun hc98 => ?_) (fun hc98 => ?_)
                    · skip
                      refine KC.seq ?_
                      refine KC.region ?_
                      refine KT.step rfl rfl (K.assign rfl) ?_
                      refine KT.step rfl rfl (K.assign rfl) ?_
                      refine KT.nil ?_
                      refine thenK_n ?_
                      refine KC.ret ?_
                      refine thenK_r ?_
                      refine blockK_r ?_
                      refine thenK_r ?_
                      refine thenK_r ?_
                      refine blockK_r ?_
                      refine thenK_r ?_
                      refine ⟨.inl rfl, _, rfl, fin_ib (run_step (k := s.2.2.2) hkl hst fun h => ?_)⟩
                      obtain ⟨g1, g2, g3, g4, g5, g6⟩ := h
                      rw [eK, eEd] at g3 g5 g6
                      rw [eW] at g4 g5 g6
                      rw [getD_get hl] at g4
                      rw [g4] at hb90; cases hb90
                    · cases hc98
                  · skip
                    refine KT.step rfl rfl (K.fieldAddrO rfl Try.fld122_2 Try.size107) ?_
                    refine KT.step rfl rfl (K.loadO rfl y3 (by simp) rfl Try.agg107) ?_
                    refine KT.step rfl rfl (K.loadOA (c4 (wtM 4 s.2.1 W[s.2.2.2])) rfl y2 (by decide) Try.agg105 Try.size105 rfl) ?_
                    refine KT.step rfl rfl (K.fieldAddrO rfl Try.fld67_0 Try.size3) ?_
                    refine KT.step rfl rfl (K.loadO rfl y1 (by simp) rfl Try.agg3) ?_
                    refine KT.step rfl rfl (K.call3 rfl rfl rfl plainTry_72 (hold72 hgd (hold_ok (by omega) hE3 hden).1 hvw (hold_ok (by omega) hE3 hden).2)) ?_
                    refine KT.step rfl rfl (K.not rfl) ?_
                    refine KT.step rfl rfl (K.pick rfl (fun h => by cases h) (fun _ => rfl)) ?_
                    refine KT.nil ?_
                    refine ⟨by kernel_rfl, ?_⟩
                    refine thenK_n ?_
                    refine KC.cond rfl (fun hc98 => ?_) (fun hc98 => ?_)
                    · skip
                      refine KC.seq ?_
                      refine KC.region ?_
                      refine KT.step rfl rfl (K.assign rfl) ?_
                      refine KT.step rfl rfl (K.assign rfl) ?_
                      refine KT.nil ?_
                      refine thenK_n ?_
                      refine KC.ret ?_
                      refine thenK_r ?_
                      refine blockK_r ?_
                      refine thenK_r ?_
                      refine thenK_r ?_
                      refine blockK_r ?_
                      refine thenK_r ?_
                      refine ⟨.inl rfl, _, rfl, fin_ib (run_step (k := s.2.2.2) hkl hst fun h => ?_)⟩
                      obtain ⟨g1, g2, g3, g4, g5, g6⟩ := h
                      rw [eK, eEd] at g3 g5 g6
                      rw [eW] at g4 g5 g6
                      rw [g5] at hc98; cases hc98
                    · skip
                      refine KC.skip ?_
                      refine thenK_n ?_
                      refine KC.seq ?_
                      refine KC.region ?_
                      refine KT.step rfl rfl (K.loadOA (c4 (wtM 4 s.2.1 W[s.2.2.2])) rfl y2 (by decide) Try.agg105 Try.size105 rfl) ?_
                      refine KT.step rfl rfl (K.fieldAddrO rfl Try.fld122_3 Try.size3) ?_
                      refine KT.step rfl rfl (K.loadO rfl y3 (by simp) rfl Try.agg3) ?_
                      refine KT.step rfl rfl (K.call2 rfl rfl plainTry_108 (resetP (by omega) (by omega))) ?_
                      refine KT.step rfl rfl (K.storeA (cs := (c4 (rstM 0 4 E[ek].2.2.2.toNat (wtM 4 s.2.1 W[s.2.2.2]))).map .d) rfl rfl rfl y2 rfl rfl Try.size105) ?_
                      refine KT.nil ?_
                      refine thenK_n ?_
                      refine KC.seq ?_
                      obtain ⟨y0, y1, y2, y3⟩ := obj_set3 (o := ⟨(c4 (rstM 0 4 E[ek].2.2.2.toNat (wtM 4 s.2.1 W[s.2.2.2]))).map .d, 0⟩) y0 y1 y2 y3 hA3
                      generalize hB3 : B2.set 2 (⟨(c4 (rstM 0 4 E[ek].2.2.2.toNat (wtM 4 s.2.1 W[s.2.2.2]))).map .d, 0⟩ : VObj) = B3 at y0 y1 y2 y3 ⊢
                      refine KC.region ?_
                      refine KT.step rfl rfl (K.fieldAddrO rfl Try.fld122_1 Try.size3) ?_
                      refine KT.step rfl rfl (K.loadO rfl y3 (by simp) rfl Try.agg3) ?_
                      refine KT.step rfl rfl (K.assign rfl) ?_
                      refine KT.nil ?_
                      refine thenK_n ?_
                      refine KC.seq ?_
                      refine KC.draw Try.mixed ?_
                      refine KT.step rfl rfl (K.fieldAddrO rfl Try.fld62_1 Try.size59) ?_
                      refine KT.step rfl rfl (K.loadO rfl y0 (by simp) rfl Try.agg59) ?_
                      refine KT.step rfl rfl (K.move rfl) ?_
                      refine KT.idx (m := E[ek].2.1.toNat) rfl rfl rfl hI (by rw [Int.toNat_of_nonneg hE2.1]; rfl) hto Try.underlying59 Try.size107 fun c108 cs108 hq108 => ?_
                      refine KT.step rfl rfl (K.load rfl Try.agg107) ?_
                      refine KT.step rfl rfl (K.loadOA (c4 (rstM 0 4 E[ek].2.2.2.toNat (wtM 4 s.2.1 W[s.2.2.2]))) rfl y2 (by decide) Try.agg105 Try.size105 rfl) ?_
                      refine KT.step rfl rfl (K.fieldAddrO rfl Try.fld67_0 Try.size3) ?_
                      refine KT.step rfl rfl (K.loadO rfl y1 (by simp) rfl Try.agg3) ?_
                      refine KT.step rfl rfl (K.call3 rfl rfl rfl plainTry_72 (hold72 hq108 (hold_ok (by omega) (h4 _ hto) hden).1 (rst_lim hvw) (hold_ok (by omega) (h4 _ hto) hden).2)) ?_
                      refine KT.step rfl rfl (K.not rfl) ?_
                      refine KT.nil ?_
                      refine ⟨by kernel_rfl, ?_⟩
                      refine thenK_n ?_
                      refine KC.cond rfl (fun hc114 => ?_) (fun hc114 => ?_)
                      · skip
                        refine KC.seq ?_
                        refine KC.region ?_
                        refine KT.step rfl rfl (K.assign rfl) ?_
                        refine KT.step rfl rfl (K.assign rfl) ?_
                        refine KT.nil ?_
                        refine thenK_n ?_
                        refine KC.ret ?_
                        refine blockK_r ?_
                        refine thenK_r ?_
                        refine thenK_r ?_
                        refine blockK_r ?_
                        refine thenK_r ?_
                        refine ⟨.inl rfl, _, rfl, fin_ib (run_step (k := s.2.2.2) hkl hst fun h => ?_)⟩
                        obtain ⟨g1, g2, g3, g4, g5, g6⟩ := h
                        rw [eK, eEd] at g3 g5 g6
                        rw [eW] at g4 g5 g6
                        rw [getD_get hto] at g6
                        rw [g6] at hc114; cases hc114
                      · skip
                        refine KC.skip ?_
                        refine blockK_n ?_
                        refine thenK_n ?_
                        refine KC.region ?_
                        refine KT.step rfl rfl (K.add rfl rfl (wrap_id (by omega))) ?_
                        refine KT.step rfl rfl (K.move rfl) ?_
                        refine KT.nil ?_
                        refine thenK_n ?_
                        have hyes : okStep 4 0 I E den s.2.1 s.2.2.1 (W.getD s.2.2.2 0) (Q.getD s.2.2.2 0) := by
                          unfold okStep
                          rw [eK, eEd, eW, getD_get hl, getD_get hto]
                          exact ⟨hwb, by omega, Classical.not_not.1 hb78, by simpa using hb90, by simpa using hc98, by simpa using hc114⟩
                        have hst2 := (stM_succ hst).trans (if_pos hyes)
                        rw [eK, eEd, eW] at hst2
                        have hB3l : 3 ≤ B3.length := by have := (List.getElem?_eq_some_iff.1 y3).1; omega
                        refine ⟨(B3, _, E[ek].2.1.toNat, s.2.2.2 + 1), ⟨y0, y1, y2, hB3l, hst2, hto, rst_lim (wt_lim hvb hwb), by simp only; omega⟩, by simp only; omega, rfl, by simp [Go.Vm.look, extK]; omega⟩
          · skip
            replace hc42 := of_decide_eq_false hc42
            refine KC.exit ?_
            refine thenK_x ?_
            refine thenK_x ?_
            refine blockK_e ?_
            refine thenK_n ?_
            refine KC.seq ?_
            refine KC.region ?_
            refine KT.step rfl rfl (K.move rfl) ?_
            refine KT.step rfl rfl (K.assign rfl) ?_
            refine KT.step rfl rfl (K.assign rfl) ?_
            refine KT.nil ?_
            refine thenK_n ?_
            refine KC.ret ?_
            have e : s.2.2.2 = Q.length := by omega
            rw [e] at hst
            exact ⟨.inl rfl, _, rfl, fin_ib (run_some ⟨hden, by omega, by omega⟩ hst)⟩
end Go.Proofs.Ytjfpeiioddfjcaa

