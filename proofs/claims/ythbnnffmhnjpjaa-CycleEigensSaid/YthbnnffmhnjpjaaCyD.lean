import Derived.Test.YthbnnffmhnjpjaaCyC
/-
  Times: the reference: products and powers.
-/
namespace Go.Proofs.Ythbnnffmhnjpjaa
open Go.Vm Go.Cy
theorem plainTry_50 : plainFn Try.prog 50 = true := by kernel_rfl
theorem plainTry_38 : plainFn Try.prog 38 = true := by kernel_rfl
theorem plainTry_75 : plainFn Try.prog 75 = true := by kernel_rfl
theorem plainTry_51 : plainFn Try.prog 51 = true := by kernel_rfl
theorem bytes33 : bytesT Try.prog 33 ≤ 65536 := of_decide_eq_true (by kernel_rfl)
theorem cells33 : (zeroT Try.prog 33).map (·.cells.size) = some 1 := by kernel_rfl
theorem rowS_mix {n : Nat} {g : Nat → Nat → Int} {i : Nat} {old : Nat → XV} : mixL n (rowF g i) old n = rowS n g i := by rw [mixL_full]; rfl
theorem okX_neg {L x : Int} (h1 : x ≠ Nv) : okX L x = !(decide (x < -L) || decide (L < x)) := by
  unfold okX
  rw [decide_eq_false h1, Bool.false_or, Bool.not_or]
  congr 1 <;> rw [← decide_not] <;> exact decide_eq_decide.2 (by omega)
set_option maxRecDepth 10000 in
theorem matrix50 {d : DV} {m : List (List Int)} {L : Int} (hd : Mat d m) (hl : m.length ≤ 9223372036854775807) (hr : ∀ r ∈ m, r.length ≤ 9223372036854775807) (hL : 0 ≤ L ∧ L ≤ 1000000000000) : DeepCall Try.prog 50 [d, DI L] (DB (validB L m)) := by
  refine deepCall_K 5 Try.func50 rfl (Nat.le_of_ble_eq_true rfl) fun M W0 => ?_
  refine KC.seq ?_
  refine KC.region ?_
  refine KT.step rfl rfl (K.assign rfl) ?_
  refine KT.nil ?_
  refine thenK_n ?_
  refine KC.seq ?_
  refine KC.seq ?_
  refine KC.region ?_
  refine KT.step rfl rfl (K.move rfl) ?_
  refine KT.step rfl rfl (K.len rfl hd Try.underlying22) ?_
  refine KT.step rfl rfl (K.move rfl) ?_
  refine KT.nil ?_
  refine thenK_n ?_
  refine KC.block ?_
  refine KC.loop (fun _ : Nat => []) (fun i => [(0, .d d), (1, .d (DI L)), (9, .d d), (10, .d (DI (m.length : Nat))), (11, .d (DI (i : Nat)))]) (fun i => i ≤ m.length ∧ (m.take i).all (okRow m.length L) = true) (fun i => m.length - i) 0 ⟨Nat.zero_le _, rfl⟩ rfl (by simp [Go.Vm.look, extK, enterK]) ?_
  intro i hi
  obtain ⟨hi, hall⟩ := hi
  refine KC.seq ?_
  refine KC.region ?_
  refine KT.step rfl rfl (K.lss rfl rfl) ?_
  refine KT.nil ?_
  refine thenK_n ?_
  refine KC.seq ?_
  refine KC.cond rfl (fun hc12 => ?_) (fun hc12 => ?_)
  · skip
    replace hc12 := of_decide_eq_true hc12
    refine KC.skip ?_
    refine thenK_n ?_
    refine KC.seq ?_
    refine KC.block ?_
    refine KC.seq ?_
    refine KC.region ?_
    refine KT.idx rfl rfl rfl (by assumption) rfl (by omega) Try.underlying22 Try.size33 fun c13 cs13 hq13 => ?_
    refine KT.step rfl rfl (K.load rfl Try.agg33) ?_
    refine KT.step rfl rfl (K.assign rfl) ?_
    refine KT.nil ?_
    refine thenK_n ?_
    refine KC.seq ?_
    refine KC.seq ?_
    refine KC.region ?_
    refine KT.step rfl rfl (K.move rfl) ?_
    refine KT.step rfl rfl (K.len rfl hq13 Try.underlying33) ?_
    refine KT.step rfl rfl (K.move rfl) ?_
    refine KT.step rfl rfl (K.len rfl hd Try.underlying22) ?_
    refine KT.step rfl rfl (K.neq rfl rfl) ?_
    refine KT.nil ?_
    refine thenK_n ?_
    refine KC.cond rfl (fun hc19 => ?_) (fun hc19 => ?_)
    · skip
      replace hc19 := of_decide_eq_true hc19
      refine KC.seq ?_
      refine KC.region ?_
      refine KT.step rfl rfl (K.assign rfl) ?_
      refine KT.nil ?_
      refine thenK_n ?_
      refine KC.ret ?_
      refine thenK_r ?_
      refine blockK_r ?_
      refine thenK_r ?_
      refine thenK_r ?_
      refine blockK_r ?_
      refine thenK_r ?_
      refine ⟨.inl rfl, _, rfl, fin_b ?_⟩
      unfold validB
      rw [all_false (show i < m.length by omega) (show okRow m.length L m[i] = false from by unfold okRow; rw [decide_eq_false (by omega)]; rfl), Bool.and_false]
    · skip
      replace hc19 := of_decide_eq_false hc19
      refine KC.skip ?_
      refine thenK_n ?_
      refine KC.seq ?_
      refine KC.region ?_
      refine KT.step rfl rfl (K.move rfl) ?_
      refine KT.step rfl rfl (K.len rfl hq13 Try.underlying33) ?_
      refine KT.step rfl rfl (K.move rfl) ?_
      refine KT.nil ?_
      refine thenK_n ?_
      refine KC.block ?_
      have hrl := hr _ (List.getElem_mem (show i < m.length by omega))
      refine KC.loop (fun _ : Nat => []) (fun j => [(0, .d d), (1, .d (DI L)), (9, .d d), (10, .d (DI (m.length : Nat))), (11, .d (DI (i : Nat))), (20, .d c13), (21, .d (DI (m[i].length : Nat))), (22, .d (DI (j : Nat)))]) (fun j => j ≤ m[i].length ∧ (m[i].take j).all (okX L) = true) (fun j => m[i].length - j) 0 ⟨Nat.zero_le _, rfl⟩ rfl (by simp [Go.Vm.look, extK, enterK]) ?_
      intro j hj
      obtain ⟨hj, hall2⟩ := hj
      refine KC.seq ?_
      refine KC.region ?_
      refine KT.step rfl rfl (K.lss rfl rfl) ?_
      refine KT.nil ?_
      refine thenK_n ?_
      refine KC.seq ?_
      refine KC.cond rfl (fun hc23 => ?_) (fun hc23 => ?_)
      · skip
        replace hc23 := of_decide_eq_true hc23
        refine KC.skip ?_
        refine thenK_n ?_
        refine KC.seq ?_
        refine KC.block ?_
        refine KC.seq ?_
        refine KC.region ?_
        refine KT.idxI rfl rfl rfl (by assumption) rfl (by omega) Try.underlying33 Try.size3 fun cs24 => ?_
        refine KT.step rfl rfl (K.load rfl Try.agg3) ?_
        refine KT.step rfl rfl (K.assign rfl) ?_
        refine KT.nil ?_
        refine thenK_n ?_
        refine KC.seq ?_
        refine KC.region ?_
        refine KT.step rfl rfl (K.move rfl) ?_
        refine KT.step rfl rfl (K.neq rfl rfl) ?_
        refine KT.step rfl rfl (K.move rfl) ?_
        refine KT.bcase (fun hb28 => ?_) (fun hb28 => ?_)
        · skip
          replace hb28 := of_decide_eq_true hb28
          refine KT.step rfl rfl (K.move rfl) ?_
          refine KT.step rfl rfl (K.move rfl) ?_
          refine KT.step rfl rfl (K.unI rfl (show IntKind.i64.wrap (0 - L) = -L from by rw [Int.zero_sub]; exact wrap_id (by omega))) ?_
          refine KT.step rfl rfl (K.lss rfl rfl) ?_
          refine KT.step rfl rfl (K.move rfl) ?_
          refine KT.bcase (fun hb33 => ?_) (fun hb33 => ?_)
          · skip
            replace hb33 := of_decide_eq_true hb33
            refine KT.skip rfl rfl ?_
            refine KT.skip rfl rfl ?_
            refine KT.skip rfl rfl ?_
            refine KT.step rfl rfl (K.pick rfl (fun _ => rfl) (fun h => by cases h)) ?_
            refine KT.step rfl rfl (K.pick rfl (fun _ => rfl) (fun h => by cases h)) ?_
            refine KT.nil ?_
            refine thenK_n ?_
            refine KC.cond rfl (fun hc38 => ?_) (fun hc38 => ?_)
            · skip
              refine KC.seq ?_
              refine KC.region ?_
              refine KT.step rfl rfl (K.assign rfl) ?_
              refine KT.nil ?_
              refine thenK_n ?_
              refine KC.ret ?_
              refine blockK_r ?_
              refine thenK_r ?_
              refine thenK_r ?_
              refine blockK_r ?_
              refine blockK_r ?_
              refine thenK_r ?_
              refine thenK_r ?_
              refine blockK_r ?_
              refine thenK_r ?_
              refine ⟨.inl rfl, _, rfl, fin_b ?_⟩
              unfold validB
              rw [all_false (show i < m.length by omega) (show okRow m.length L m[i] = false from by
                unfold okRow
                rw [all_false (show j < m[i].length by omega) (show okX L m[i][j] = false from by
                  rw [okX_neg (show m[i][j] ≠ Nv from hb28), decide_eq_true (show m[i][j] < -L from hb33), Bool.true_or]; rfl), Bool.and_false]), Bool.and_false]
            · cases hc38
          · skip
            replace hb33 := of_decide_eq_false hb33
            refine KT.step rfl rfl (K.move rfl) ?_
            refine KT.step rfl rfl (K.move rfl) ?_
            refine KT.step rfl rfl (K.gtr rfl rfl) ?_
            refine KT.step rfl rfl (K.pick rfl (fun h => by cases h) (fun _ => rfl)) ?_
            refine KT.step rfl rfl (K.pick rfl (fun _ => rfl) (fun h => by cases h)) ?_
            refine KT.nil ?_
            refine thenK_n ?_
            refine KC.cond rfl (fun hc38 => ?_) (fun hc38 => ?_)
            · skip
              replace hc38 := of_decide_eq_true hc38
              refine KC.seq ?_
              refine KC.region ?_
              refine KT.step rfl rfl (K.assign rfl) ?_
              refine KT.nil ?_
              refine thenK_n ?_
              refine KC.ret ?_
              refine blockK_r ?_
              refine thenK_r ?_
              refine thenK_r ?_
              refine blockK_r ?_
              refine blockK_r ?_
              refine thenK_r ?_
              refine thenK_r ?_
              refine blockK_r ?_
              refine thenK_r ?_
              refine ⟨.inl rfl, _, rfl, fin_b ?_⟩
              unfold validB
              rw [all_false (show i < m.length by omega) (show okRow m.length L m[i] = false from by
                unfold okRow
                rw [all_false (show j < m[i].length by omega) (show okX L m[i][j] = false from by
                  rw [okX_neg (show m[i][j] ≠ Nv from hb28), decide_eq_true (show L < m[i][j] from hc38), Bool.or_true]; rfl), Bool.and_false]), Bool.and_false]
            · skip
              replace hc38 := of_decide_eq_false hc38
              refine KC.skip ?_
              refine blockK_n ?_
              refine thenK_n ?_
              refine KC.region ?_
              refine KT.step rfl rfl (K.add rfl rfl (wrap_id (by omega))) ?_
              refine KT.step rfl rfl (K.move rfl) ?_
              refine KT.nil ?_
              refine thenK_n ?_
              refine ⟨j + 1, ⟨by omega, ?_⟩, by omega, rfl, by simp [Go.Vm.look, extK]⟩
              rw [all_take _ (show j < m[i].length by omega), hall2, Bool.true_and]
              rw [okX_neg (show m[i][j] ≠ Nv from hb28), decide_eq_false (show ¬ m[i][j] < -L from hb33), decide_eq_false (show ¬ L < m[i][j] from hc38)]; rfl
        · skip
          replace hb28 := of_decide_eq_false hb28
          refine KT.skip rfl rfl ?_
          refine KT.skip rfl rfl ?_
          refine KT.skip rfl rfl ?_
          refine KT.skip rfl rfl ?_
          refine KT.skip rfl rfl ?_
          refine KT.skip rfl rfl ?_
          refine KT.skip rfl rfl ?_
          refine KT.skip rfl rfl ?_
          refine KT.skip rfl rfl ?_
          refine KT.step rfl rfl (K.pick rfl (fun h => by cases h) (fun _ => rfl)) ?_
          refine KT.nil ?_
          refine thenK_n ?_
          refine KC.cond rfl (fun hc38 => ?_) (fun hc38 => ?_)
          · cases hc38
          · skip
            refine KC.skip ?_
            refine blockK_n ?_
            refine thenK_n ?_
            refine KC.region ?_
            refine KT.step rfl rfl (K.add rfl rfl (wrap_id (by omega))) ?_
            refine KT.step rfl rfl (K.move rfl) ?_
            refine KT.nil ?_
            refine thenK_n ?_
            refine ⟨j + 1, ⟨by omega, ?_⟩, by omega, rfl, by simp [Go.Vm.look, extK]⟩
            rw [all_take _ (show j < m[i].length by omega), hall2, Bool.true_and]
            unfold okX
            rw [decide_eq_true (show m[i][j] = Nv from Classical.not_not.1 hb28)]; rfl
      · skip
        replace hc23 := of_decide_eq_false hc23
        refine KC.exit ?_
        refine thenK_x ?_
        refine thenK_x ?_
        refine blockK_e ?_
        refine blockK_n ?_
        refine thenK_n ?_
        refine KC.region ?_
        refine KT.step rfl rfl (K.add rfl rfl (wrap_id (by omega))) ?_
        refine KT.step rfl rfl (K.move rfl) ?_
        refine KT.nil ?_
        refine thenK_n ?_
        refine ⟨i + 1, ⟨by omega, ?_⟩, by omega, rfl, by simp [Go.Vm.look, extK]⟩
        rw [all_take _ (show i < m.length by omega), hall, Bool.true_and]
        unfold okRow
        rw [decide_eq_true (by omega), Bool.true_and]
        exact all_end (by omega) hall2
  · skip
    replace hc12 := of_decide_eq_false hc12
    refine KC.exit ?_
    refine thenK_x ?_
    refine thenK_x ?_
    refine blockK_e ?_
    refine thenK_n ?_
    refine KC.seq ?_
    refine KC.region ?_
    refine KT.step rfl rfl (K.move rfl) ?_
    refine KT.step rfl rfl (K.len rfl hd Try.underlying22) ?_
    refine KT.step rfl rfl (K.geq rfl rfl) ?_
    refine KT.step rfl rfl (K.move rfl) ?_
    refine KT.bcase (fun hb44 => ?_) (fun hb44 => ?_)
    · skip
      replace hb44 := of_decide_eq_true hb44
      refine KT.step rfl rfl (K.move rfl) ?_
      refine KT.step rfl rfl (K.len rfl hd Try.underlying22) ?_
      refine KT.step rfl rfl (K.leq rfl rfl) ?_
      refine KT.step rfl rfl (K.pick rfl (fun _ => rfl) (fun h => by cases h)) ?_
      refine KT.step rfl rfl (K.assign rfl) ?_
      refine KT.nil ?_
      refine thenK_n ?_
      refine KC.ret ?_
      refine ⟨.inl rfl, _, rfl, fin_b ?_⟩
      unfold validB
      rw [all_end (by omega) hall, Bool.and_true]
      rw [decide_eq_true (show 1 ≤ m.length by omega), Bool.true_and]
      exact decide_eq_decide.2 (by omega)
    · skip
      replace hb44 := of_decide_eq_false hb44
      refine KT.skip rfl rfl ?_
      refine KT.skip rfl rfl ?_
      refine KT.skip rfl rfl ?_
      refine KT.step rfl rfl (K.pick rfl (fun h => by cases h) (fun _ => rfl)) ?_
      refine KT.step rfl rfl (K.assign rfl) ?_
      refine KT.nil ?_
      refine thenK_n ?_
      refine KC.ret ?_
      refine ⟨.inl rfl, _, rfl, fin_b ?_⟩
      unfold validB
      rw [all_end (by omega) hall, Bool.and_true]
      rw [decide_eq_false (show ¬ 1 ≤ m.length by omega)]; rfl
set_option maxRecDepth 10000 in
theorem small38 {d : DV} {m : List (List Int)} (hd : Mat d m) (hl : m.length ≤ 9223372036854775807) (hr : ∀ r ∈ m, r.length ≤ 9223372036854775807) : DeepCall Try.prog 38 [d] (DB (validB 1000 m)) := by
  refine deepCall_K 5 Try.func38 rfl (Nat.le_of_ble_eq_true rfl) fun M W0 => ?_
  refine KC.seq ?_
  refine KC.region ?_
  refine KT.step rfl rfl (K.assign rfl) ?_
  refine KT.nil ?_
  refine thenK_n ?_
  refine KC.seq ?_
  refine KC.region ?_
  refine KT.step rfl rfl (K.move rfl) ?_
  refine KT.step rfl rfl (K.call2 rfl rfl plainTry_50 (matrix50 hd hl hr (by omega))) ?_
  refine KT.step rfl rfl (K.assign rfl) ?_
  refine KT.nil ?_
  refine thenK_n ?_
  refine KC.ret ?_
  exact ⟨.inl rfl, _, rfl, fin_d rfl⟩

theorem oneI_eq {n i j : Nat} (hi : i < n) (h : i = j) : oneI n i j = 0 := if_pos ⟨h, hi⟩
theorem oneI_ne {n i j : Nat} (h : i ≠ j) : oneI n i j = Nv := if_neg fun e => h e.1
theorem unit_skip {n i j : Nat} (hi : i < n) (hj : j < n) (h : i = j) : mixL n (rowF (oneI n) i) (fun _ => .d (.lit (.int .i64 0))) j = mixL n (rowF (oneI n) i) (fun _ => .d (.lit (.int .i64 0))) (j + 1) := by
  rw [← mixL_done hj]
  congr 1; funext q
  split
  · rename_i e; subst e; show _ = XV.d (DI (oneI n i _)); rw [oneI_eq hi h]
  · rfl
end Go.Proofs.Ythbnnffmhnjpjaa

