import Derived.Test.YtjfpeiioddfjcaaZnZb
/-
  Automata: which are right, by the program.
-/
namespace Go.Proofs.Ytjfpeiioddfjcaa
open Go.Vm Go.Zn

theorem isSetC (s : Int) {c : Nat} (h : c ≤ 5) : DeepCall Try.prog 66 [DI s, DI (c : Nat)] (DB (setB (c + 1) s)) := by
  have := isSet66 s (L := c + 1) (by omega)
  rwa [show (((c + 1 : Nat) : Int) - 1) = (c : Int) by omega] at this
theorem in_iff {a b x : Int} : (decide (a ≤ x) && decide (x ≤ b)) = true ↔ a ≤ x ∧ x ≤ b := by simp
set_option maxHeartbeats 2000000 in
set_option maxRecDepth 10000 in
theorem valid77 {iD eD : DV} {I : List (List G3)} {E : List Ed} {c : Int} (hI : GdsL iD I) (hE : Eds eD E) (hIl : I.length ≤ 9223372036854775807) (hEl : E.length ≤ 9223372036854775807) (hIr : ∀ L ∈ I, L.length ≤ 9223372036854775807) (hEr : ∀ e ∈ E, e.2.2.1.length ≤ 9223372036854775807) : DeepCall Try.prog 77 [.agg [DI c, iD, eD]] (DB (rightB c I E)) := by
  refine deepCall_K 5 Try.func77 rfl (Nat.le_of_ble_eq_true rfl) fun M W0 => ?_
  refine KC.seq ?_
  refine KC.region ?_
  refine KT.step rfl rfl (K.box rfl) ?_
  refine KT.step rfl rfl (K.assign rfl) ?_
  refine KT.nil ?_
  refine thenK_n ?_
  refine KC.seq ?_
  refine KC.region ?_
  refine KT.step rfl rfl (K.fieldAddrO rfl Try.fld62_1 Try.size59) ?_
  refine KT.step rfl rfl (K.loadO rfl rfl (by simp) rfl Try.agg59) ?_
  refine KT.step rfl rfl (K.len rfl hI Try.underlying59) ?_
  refine KT.step rfl rfl (K.assign rfl) ?_
  refine KT.nil ?_
  refine thenK_n ?_
  refine KC.seq ?_
  refine KC.seq ?_
  refine KC.region ?_
  refine KT.step rfl rfl (K.fieldAddrO rfl Try.fld62_0 Try.size3) ?_
  refine KT.step rfl rfl (K.loadO rfl rfl (by simp) rfl Try.agg3) ?_
  refine KT.step rfl rfl (K.call3 rfl rfl rfl plainTry_71 (in71 _ _ _)) ?_
  refine KT.step rfl rfl (K.not rfl) ?_
  refine KT.step rfl rfl (K.move rfl) ?_
  refine KT.bcase (fun hb15 => ?_) (fun hb15 => ?_)
  · skip
    refine KT.skip rfl rfl ?_
    refine KT.skip rfl rfl ?_
    refine KT.skip rfl rfl ?_
    refine KT.step rfl rfl (K.pick rfl (fun _ => rfl) (fun h => by cases h)) ?_
    refine KT.step rfl rfl (K.move rfl) ?_
    refine KT.skip rfl rfl ?_
    refine KT.skip rfl rfl ?_
    refine KT.skip rfl rfl ?_
    refine KT.skip rfl rfl ?_
    refine KT.step rfl rfl (K.pick rfl (fun _ => rfl) (fun h => by cases h)) ?_
    refine KT.nil ?_
    refine thenK_n ?_
    refine KC.cond rfl (fun hc25 => ?_) (fun hc25 => ?_)
    · skip
      refine KC.seq ?_
      refine KC.region ?_
      refine KT.step rfl rfl (K.assign rfl) ?_
      refine KT.nil ?_
      refine thenK_n ?_
      refine KC.ret ?_
      refine thenK_r ?_
      have hbad : rightB c I E = false := Bool.eq_false_iff.2 fun h => by
        obtain ⟨⟨h1, h2, h3⟩, h4, h5⟩ := rightB_iff.1 h
        rw [in_iff.2 h1] at hb15; cases hb15
      exact ⟨.inl rfl, _, rfl, fin_b hbad⟩
    · cases hc25
  · skip
    refine KT.step rfl rfl (K.move rfl) ?_
    refine KT.step rfl rfl (K.call3 rfl rfl rfl plainTry_71 (in71 _ _ _)) ?_
    refine KT.step rfl rfl (K.not rfl) ?_
    refine KT.step rfl rfl (K.pick rfl (fun h => by cases h) (fun _ => rfl)) ?_
    refine KT.step rfl rfl (K.move rfl) ?_
    refine KT.bcase (fun hb20 => ?_) (fun hb20 => ?_)
    · skip
      refine KT.skip rfl rfl ?_
      refine KT.skip rfl rfl ?_
      refine KT.skip rfl rfl ?_
      refine KT.skip rfl rfl ?_
      refine KT.step rfl rfl (K.pick rfl (fun _ => rfl) (fun h => by cases h)) ?_
      refine KT.nil ?_
      refine thenK_n ?_
      refine KC.cond rfl (fun hc25 => ?_) (fun hc25 => ?_)
      · skip
        refine KC.seq ?_
        refine KC.region ?_
        refine KT.step rfl rfl (K.assign rfl) ?_
        refine KT.nil ?_
        refine thenK_n ?_
        refine KC.ret ?_
        refine thenK_r ?_
        have hbad : rightB c I E = false := Bool.eq_false_iff.2 fun h => by
          obtain ⟨⟨h1, h2, h3⟩, h4, h5⟩ := rightB_iff.1 h
          rw [in_iff.2 (by omega)] at hb20; cases hb20
        exact ⟨.inl rfl, _, rfl, fin_b hbad⟩
      · cases hc25
    · skip
      refine KT.step rfl rfl (K.fieldAddrO rfl Try.fld62_2 Try.size60) ?_
      refine KT.step rfl rfl (K.loadO rfl rfl (by simp) rfl Try.agg60) ?_
      refine KT.step rfl rfl (K.lenEd rfl hE Try.underlying60) ?_
      refine KT.step rfl rfl (K.gtr rfl rfl) ?_
      refine KT.step rfl rfl (K.pick rfl (fun h => by cases h) (fun _ => rfl)) ?_
      refine KT.nil ?_
      refine thenK_n ?_
      refine KC.cond rfl (fun hc25 => ?_) (fun hc25 => ?_)
      · skip
        replace hc25 := of_decide_eq_true hc25
        refine KC.seq ?_
        refine KC.region ?_
        refine KT.step rfl rfl (K.assign rfl) ?_
        refine KT.nil ?_
        refine thenK_n ?_
        refine KC.ret ?_
        refine thenK_r ?_
        have hbad : rightB c I E = false := Bool.eq_false_iff.2 fun h => by
          obtain ⟨⟨h1, h2, h3⟩, h4, h5⟩ := rightB_iff.1 h
          omega
        exact ⟨.inl rfl, _, rfl, fin_b hbad⟩
      · skip
        replace hc25 := of_decide_eq_false hc25
        have h15 := in_iff.1 (show (decide ((1 : Int) ≤ c) && decide (c ≤ 3)) = true by simpa using hb15)
        have h20 := in_iff.1 (show (decide ((1 : Int) ≤ (I.length : Nat)) && decide (((I.length : Nat) : Int) ≤ 5)) = true by simpa using hb20)
        obtain ⟨c, rfl⟩ := Int.eq_ofNat_of_zero_le (show 0 ≤ c by omega)
        refine KC.skip ?_
        refine thenK_n ?_
        refine KC.seq ?_
        refine KC.seq ?_
        refine KC.region ?_
        refine KT.step rfl rfl (K.fieldAddrO rfl Try.fld62_1 Try.size59) ?_
        refine KT.step rfl rfl (K.loadO rfl rfl (by simp) rfl Try.agg59) ?_
        refine KT.step rfl rfl (K.len rfl hI Try.underlying59) ?_
        refine KT.step rfl rfl (K.move rfl) ?_
        refine KT.nil ?_
        refine thenK_n ?_
        refine KC.block ?_
        refine KC.loop (fun _ : Nat => [⟨[.d (DI c), .d iD, .d eD], 0⟩]) (fun i => [(1, .optr 0 0), (3, .d (DI (I.length : Nat))), (27, .d iD), (28, .d (DI (I.length : Nat))), (29, .d (DI (i : Nat)))]) (fun i => i ≤ I.length ∧ ∀ q (h : q < I.length), q < i → okL c I[q] = true) (fun i => I.length - i) 0 ⟨Nat.zero_le _, fun q _ h => absurd h (Nat.not_lt_zero _)⟩ rfl (by simp [Go.Vm.look, extK, enterK]) ?_
        intro i hi
        obtain ⟨hi, hI2⟩ := hi
        refine KC.seq ?_
        refine KC.region ?_
        refine KT.step rfl rfl (K.lss rfl rfl) ?_
        refine KT.nil ?_
        refine thenK_n ?_
        refine KC.seq ?_
        refine KC.cond rfl (fun hc30 => ?_) (fun hc30 => ?_)
        · skip
          replace hc30 := of_decide_eq_true hc30
          have hil : i < I.length := by omega
          refine KC.skip ?_
          refine thenK_n ?_
          refine KC.seq ?_
          refine KC.block ?_
          refine KC.seq ?_
          refine KC.region ?_
          refine KT.idx rfl rfl rfl hI rfl hil Try.underlying59 Try.size107 fun c31 cs31 hq31 => ?_
          refine KT.step rfl rfl (K.load rfl Try.agg107) ?_
          refine KT.step rfl rfl (K.assign rfl) ?_
          refine KT.nil ?_
          refine thenK_n ?_
          refine KC.seq ?_
          refine KC.region ?_
          refine KT.step rfl rfl (K.move rfl) ?_
          refine KT.step rfl rfl (K.fieldAddrO rfl Try.fld62_0 Try.size3) ?_
          refine KT.step rfl rfl (K.loadO rfl rfl (by simp) rfl Try.agg3) ?_
          refine KT.step rfl rfl (K.call2 rfl rfl plainTry_99 (validGuards99 hq31 (hIr _ (List.getElem_mem hil)))) ?_
          refine KT.step rfl rfl (K.not rfl) ?_
          refine KT.nil ?_
          refine thenK_n ?_
          refine KC.cond rfl (fun hc37 => ?_) (fun hc37 => ?_)
          · skip
            refine KC.seq ?_
            refine KC.region ?_
            refine KT.step rfl rfl (K.assign rfl) ?_
            refine KT.nil ?_
            refine thenK_n ?_
            refine KC.ret ?_
            refine blockK_r ?_
            refine thenK_r ?_
            refine thenK_r ?_
            refine blockK_r ?_
            refine thenK_r ?_
            have hbad : rightB c I E = false := Bool.eq_false_iff.2 fun h => by
              obtain ⟨⟨h1, h2, h3⟩, h4, h5⟩ := rightB_iff.1 h
              rw [h4 i hil] at hc37; cases hc37
            exact ⟨.inl rfl, _, rfl, fin_b hbad⟩
          · skip
            refine KC.skip ?_
            refine blockK_n ?_
            refine thenK_n ?_
            refine KC.region ?_
            refine KT.step rfl rfl (K.add rfl rfl (wrap_id (by omega))) ?_
            refine KT.step rfl rfl (K.move rfl) ?_
            refine KT.nil ?_
            refine thenK_n ?_
            refine ⟨i + 1, ⟨by omega, fun q h hq => ?_⟩, by omega, rfl, by simp [Go.Vm.look, extK]⟩
            by_cases e : q = i
            · subst e; simpa using hc37
            · exact hI2 q h (by omega)
        · skip
          replace hc30 := of_decide_eq_false hc30
          refine KC.exit ?_
          refine thenK_x ?_
          refine thenK_x ?_
          refine blockK_e ?_
          refine thenK_n ?_
          refine KC.seq ?_
          refine KC.seq ?_
          refine KC.region ?_
          refine KT.step rfl rfl (K.fieldAddrO rfl Try.fld62_2 Try.size60) ?_
          refine KT.step rfl rfl (K.loadO rfl rfl (by simp) rfl Try.agg60) ?_
          refine KT.step rfl rfl (K.lenEd rfl hE Try.underlying60) ?_
          refine KT.step rfl rfl (K.move rfl) ?_
          refine KT.nil ?_
          refine thenK_n ?_
          refine KC.block ?_
          refine KC.loop (fun p : List VObj × Nat => p.1) (fun p => [(1, .optr 0 0), (3, .d (DI (I.length : Nat))), (40, .d eD), (41, .d (DI (E.length : Nat))), (42, .d (DI (p.2 : Nat)))]) (fun p => p.1[0]? = some ⟨[.d (DI c), .d iD, .d eD], 0⟩ ∧ p.2 ≤ E.length ∧ ∀ q (h : q < E.length), q < p.2 → okEd c I.length E[q] = true) (fun p => E.length - p.2) (_, 0) ⟨rfl, Nat.zero_le _, fun q _ h => absurd h (Nat.not_lt_zero _)⟩ rfl (by simp [Go.Vm.look, extK, enterK]) ?_
          intro p hp
          obtain ⟨y0, hp2, hE2⟩ := hp
          refine KC.seq ?_
          refine KC.region ?_
          refine KT.step rfl rfl (K.lss rfl rfl) ?_
          refine KT.nil ?_
          refine thenK_n ?_
          refine KC.seq ?_
          refine KC.cond rfl (fun hc43 => ?_) (fun hc43 => ?_)
          · skip
            replace hc43 := of_decide_eq_true hc43
            have hil : p.2 < E.length := by omega
            refine KC.skip ?_
            refine thenK_n ?_
            refine KC.seq ?_
            refine KC.block ?_
            refine KC.seq ?_
            refine KC.region ?_
            refine KT.idxEd rfl rfl rfl hE rfl hil Try.underlying60 Try.size122 fun gd rest hgd => ?_
            refine KT.step rfl rfl (K.loadAgg (m := 4) rfl Try.agg122 Try.size122 (by simp)) ?_
            refine KT.step rfl rfl (K.alloc Try.zero122) ?_
            refine KT.storeL (cs := [.d (DI E[p.2].1), .d (DI E[p.2].2.1), .d gd, .d (DI E[p.2].2.2.2)]) rfl rfl rfl rfl rfl rfl (ed_one hgd) Try.size122 ?_
            refine KT.nil ?_
            refine thenK_n ?_
            refine KC.seq ?_
            refine KC.region ?_
            refine KT.step rfl rfl (K.fieldAddrO rfl Try.fld122_0 Try.size3) ?_
            refine KT.step rfl rfl (K.loadO rfl (List.getElem?_concat_length ..) (by simp) rfl Try.agg3) ?_
            refine KT.step rfl rfl (K.move rfl) ?_
            refine KT.step rfl rfl (K.sub rfl rfl (wrap_id (by omega))) ?_
            refine KT.step rfl rfl (K.call3 rfl rfl rfl plainTry_71 (in71 _ _ _)) ?_
            refine KT.step rfl rfl (K.not rfl) ?_
            refine KT.step rfl rfl (K.move rfl) ?_
            refine KT.bcase (fun hb52 => ?_) (fun hb52 => ?_)
            · skip
              refine KT.skip rfl rfl ?_
              refine KT.skip rfl rfl ?_
              refine KT.skip rfl rfl ?_
              refine KT.skip rfl rfl ?_
              refine KT.skip rfl rfl ?_
              refine KT.skip rfl rfl ?_
              refine KT.step rfl rfl (K.pick rfl (fun _ => rfl) (fun h => by cases h)) ?_
              refine KT.step rfl rfl (K.move rfl) ?_
              refine KT.skip rfl rfl ?_
              refine KT.skip rfl rfl ?_
              refine KT.skip rfl rfl ?_
              refine KT.skip rfl rfl ?_
              refine KT.skip rfl rfl ?_
              refine KT.skip rfl rfl ?_
              refine KT.step rfl rfl (K.pick rfl (fun _ => rfl) (fun h => by cases h)) ?_
              refine KT.step rfl rfl (K.move rfl) ?_
              refine KT.skip rfl rfl ?_
              refine KT.skip rfl rfl ?_
              refine KT.skip rfl rfl ?_
              refine KT.skip rfl rfl ?_
              refine KT.skip rfl rfl ?_
              refine KT.skip rfl rfl ?_
              refine KT.step rfl rfl (K.pick rfl (fun _ => rfl) (fun h => by cases h)) ?_
              refine KT.nil ?_
              refine thenK_n ?_
              refine KC.cond rfl (fun hc75 => ?_) (fun hc75 => ?_)
              · skip
                refine KC.seq ?_
                refine KC.region ?_
                refine KT.step rfl rfl (K.assign rfl) ?_
                refine KT.nil ?_
                refine thenK_n ?_
                refine KC.ret ?_
                refine blockK_r ?_
                refine thenK_r ?_
                refine thenK_r ?_
                refine blockK_r ?_
                refine thenK_r ?_
                have hbad : rightB c I E = false := Bool.eq_false_iff.2 fun h => by
                  obtain ⟨⟨h1, h2, h3⟩, h4, h5⟩ := rightB_iff.1 h
                  obtain ⟨k1, k2, k3, k4⟩ := okEd_iff.1 (h5 p.2 hil)
                  rw [Int.toNat_natCast] at k3 k4
                  rw [in_iff.2 (by omega)] at hb52; cases hb52
                exact ⟨.inl rfl, _, rfl, fin_b hbad⟩
              · cases hc75
            · skip
              refine KT.step rfl rfl (K.fieldAddrO rfl Try.fld122_1 Try.size3) ?_
              refine KT.step rfl rfl (K.loadO rfl (List.getElem?_concat_length ..) (by simp) rfl Try.agg3) ?_
              refine KT.step rfl rfl (K.move rfl) ?_
              refine KT.step rfl rfl (K.sub rfl rfl (wrap_id (by omega))) ?_
              refine KT.step rfl rfl (K.call3 rfl rfl rfl plainTry_71 (in71 _ _ _)) ?_
              refine KT.step rfl rfl (K.not rfl) ?_
              refine KT.step rfl rfl (K.pick rfl (fun h => by cases h) (fun _ => rfl)) ?_
              refine KT.step rfl rfl (K.move rfl) ?_
              refine KT.bcase (fun hb60 => ?_) (fun hb60 => ?_)
              · skip
                refine KT.skip rfl rfl ?_
                refine KT.skip rfl rfl ?_
                refine KT.skip rfl rfl ?_
                refine KT.skip rfl rfl ?_
                refine KT.skip rfl rfl ?_
                refine KT.skip rfl rfl ?_
                refine KT.step rfl rfl (K.pick rfl (fun _ => rfl) (fun h => by cases h)) ?_
                refine KT.step rfl rfl (K.move rfl) ?_
                refine KT.skip rfl rfl ?_
                refine KT.skip rfl rfl ?_
                refine KT.skip rfl rfl ?_
                refine KT.skip rfl rfl ?_
                refine KT.skip rfl rfl ?_
                refine KT.skip rfl rfl ?_
                refine KT.step rfl rfl (K.pick rfl (fun _ => rfl) (fun h => by cases h)) ?_
                refine KT.nil ?_
                refine thenK_n ?_
                refine KC.cond rfl (fun hc75 => ?_) (fun hc75 => ?_)
                · skip
                  refine KC.seq ?_
                  refine KC.region ?_
                  refine KT.step rfl rfl (K.assign rfl) ?_
                  refine KT.nil ?_
                  refine thenK_n ?_
                  refine KC.ret ?_
                  refine blockK_r ?_
                  refine thenK_r ?_
                  refine thenK_r ?_
                  refine blockK_r ?_
                  refine thenK_r ?_
                  have hbad : rightB c I E = false := Bool.eq_false_iff.2 fun h => by
                    obtain ⟨⟨h1, h2, h3⟩, h4, h5⟩ := rightB_iff.1 h
                    obtain ⟨k1, k2, k3, k4⟩ := okEd_iff.1 (h5 p.2 hil)
                    rw [Int.toNat_natCast] at k3 k4
                    rw [in_iff.2 (by omega)] at hb60; cases hb60
                  exact ⟨.inl rfl, _, rfl, fin_b hbad⟩
                · cases hc75
              · skip
                refine KT.step rfl rfl (K.fieldAddrO rfl Try.fld122_2 Try.size107) ?_
                refine KT.step rfl rfl (K.loadO rfl (List.getElem?_concat_length ..) (by simp) rfl Try.agg107) ?_
                refine KT.step rfl rfl (K.fieldAddrO rfl Try.fld62_0 Try.size3) ?_
                refine KT.step rfl rfl (K.loadO rfl (get_left y0) (by simp) rfl Try.agg3) ?_
                refine KT.step rfl rfl (K.call2 rfl rfl plainTry_99 (validGuards99 hgd (hEr _ (List.getElem_mem hil)))) ?_
                refine KT.step rfl rfl (K.not rfl) ?_
                refine KT.step rfl rfl (K.pick rfl (fun h => by cases h) (fun _ => rfl)) ?_
                refine KT.step rfl rfl (K.move rfl) ?_
                refine KT.bcase (fun hb68 => ?_) (fun hb68 => ?_)
                · skip
                  refine KT.skip rfl rfl ?_
                  refine KT.skip rfl rfl ?_
                  refine KT.skip rfl rfl ?_
                  refine KT.skip rfl rfl ?_
                  refine KT.skip rfl rfl ?_
                  refine KT.skip rfl rfl ?_
                  refine KT.step rfl rfl (K.pick rfl (fun _ => rfl) (fun h => by cases h)) ?_
                  refine KT.nil ?_
                  refine thenK_n ?_
                  refine KC.cond rfl (fun hc75 => ?_) (fun hc75 => ?_)
                  · skip
                    refine KC.seq ?_
                    refine KC.region ?_
                    refine KT.step rfl rfl (K.assign rfl) ?_
                    refine KT.nil ?_
                    refine thenK_n ?_
                    refine KC.ret ?_
                    refine blockK_r ?_
                    refine thenK_r ?_
                    refine thenK_r ?_
                    refine blockK_r ?_
                    refine thenK_r ?_
                    have hbad : rightB c I E = false := Bool.eq_false_iff.2 fun h => by
                      obtain ⟨⟨h1, h2, h3⟩, h4, h5⟩ := rightB_iff.1 h
                      obtain ⟨k1, k2, k3, k4⟩ := okEd_iff.1 (h5 p.2 hil)
                      rw [Int.toNat_natCast] at k3 k4
                      rw [k3] at hb68; cases hb68
                    exact ⟨.inl rfl, _, rfl, fin_b hbad⟩
                  · cases hc75
                · skip
                  refine KT.step rfl rfl (K.fieldAddrO rfl Try.fld122_3 Try.size3) ?_
                  refine KT.step rfl rfl (K.loadO rfl (List.getElem?_concat_length ..) (by simp) rfl Try.agg3) ?_
                  refine KT.step rfl rfl (K.fieldAddrO rfl Try.fld62_0 Try.size3) ?_
                  refine KT.step rfl rfl (K.loadO rfl (get_left y0) (by simp) rfl Try.agg3) ?_
                  refine KT.step rfl rfl (K.call2 rfl rfl plainTry_66 (isSetC _ (by omega))) ?_
                  refine KT.step rfl rfl (K.not rfl) ?_
                  refine KT.step rfl rfl (K.pick rfl (fun h => by cases h) (fun _ => rfl)) ?_
                  refine KT.nil ?_
                  refine thenK_n ?_
                  refine KC.cond rfl (fun hc75 => ?_) (fun hc75 => ?_)
                  · skip
                    refine KC.seq ?_
                    refine KC.region ?_
                    refine KT.step rfl rfl (K.assign rfl) ?_
                    refine KT.nil ?_
                    refine thenK_n ?_
                    refine KC.ret ?_
                    refine blockK_r ?_
                    refine thenK_r ?_
                    refine thenK_r ?_
                    refine blockK_r ?_
                    refine thenK_r ?_
                    have hbad : rightB c I E = false := Bool.eq_false_iff.2 fun h => by
                      obtain ⟨⟨h1, h2, h3⟩, h4, h5⟩ := rightB_iff.1 h
                      obtain ⟨k1, k2, k3, k4⟩ := okEd_iff.1 (h5 p.2 hil)
                      rw [Int.toNat_natCast] at k3 k4
                      rw [k4] at hc75; cases hc75
                    exact ⟨.inl rfl, _, rfl, fin_b hbad⟩
                  · skip
                    refine KC.skip ?_
                    refine blockK_n ?_
                    refine thenK_n ?_
                    refine KC.region ?_
                    refine KT.step rfl rfl (K.add rfl rfl (wrap_id (by omega))) ?_
                    refine KT.step rfl rfl (K.move rfl) ?_
                    refine KT.nil ?_
                    refine thenK_n ?_
                    have k1 := in_iff.1 (show (decide ((0 : Int) ≤ E[p.2].1) && decide (E[p.2].1 ≤ ((I.length : Nat) : Int) - 1)) = true by simpa using hb52)
                    have k2 := in_iff.1 (show (decide ((0 : Int) ≤ E[p.2].2.1) && decide (E[p.2].2.1 ≤ ((I.length : Nat) : Int) - 1)) = true by simpa using hb60)
                    refine ⟨(_, p.2 + 1), ⟨get_left y0, by simp only; omega, fun q h hq => ?_⟩, by simp only; omega, rfl, by simp [Go.Vm.look, extK]⟩
                    by_cases e : q = p.2
                    · subst e
                      exact okEd_iff.2 ⟨by omega, by omega, by simpa using hb68, by simpa using hc75⟩
                    · exact hE2 q h (by simp only at hq; omega)
          · skip
            replace hc43 := of_decide_eq_false hc43
            refine KC.exit ?_
            refine thenK_x ?_
            refine thenK_x ?_
            refine blockK_e ?_
            refine thenK_n ?_
            refine KC.seq ?_
            refine KC.region ?_
            refine KT.step rfl rfl (K.assign rfl) ?_
            refine KT.nil ?_
            refine thenK_n ?_
            refine KC.ret ?_
            have hyes : rightB c I E = true := rightB_iff.2 ⟨by omega, fun q h => hI2 q h (by omega), fun q h => hE2 q h (by omega)⟩
            exact ⟨.inl rfl, _, rfl, fin_b hyes⟩
end Go.Proofs.Ytjfpeiioddfjcaa

