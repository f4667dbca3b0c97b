import Derived.Test.YthbnnffmhnjpjaaCyC
/-
  Times: the reference: products and powers.
-/
namespace Go.Proofs.Ythbnnffmhnjpjaa
open Go.Vm Go.Cy
theorem plainTry_50 : plainFn Try.prog 50 = true := by kernel_rfl
theorem plainTry_38 : plainFn Try.prog 38 = true := by kernel_rfl
theorem plainTry_75 : plainFn Try.prog 75 = true := by kernel_rfl
theorem plainTry_51 : plainFn Try.prog 51 = true := by kernel_rfl
theorem plainTry_54 : plainFn Try.prog 54 = true := by kernel_rfl

theorem bytes33 : bytesT Try.prog 33 ≤ 65536 := of_decide_eq_true (by kernel_rfl)
theorem cells33 : (zeroT Try.prog 33).map (·.cells.size) = some 1 := by kernel_rfl
theorem rowS_mix {n : Nat} {g : Nat → Nat → Int} {i : Nat} {old : Nat → XV} : mixL n (rowF g i) old n = rowS n g i := by rw [mixL_full]; rfl
theorem okX_neg {L x : Int} (h1 : x ≠ Nv) : okX L x = !(decide (x < -L) || decide (L < x)) := by
  unfold okX
  rw [decide_eq_false h1, Bool.false_or, Bool.not_or]
  congr 1 <;> rw [← decide_not] <;> exact decide_eq_decide.2 (by omega)
set_option maxRecDepth 10000 in
theorem matrix50 {d : DV} {m : List (List Int)} {L : Int} (hd : Mat d m) (hl : m.length ≤ 9223372036854775807) (hr : ∀ r ∈ m, r.length ≤ 9223372036854775807) (hL : 0 ≤ L ∧ L ≤ 1000000000000) : DeepCall Try.prog 50 [d, DI L] (DB (validB L m)) := by
  refine deepCall_K 5 Try.func50 rfl (Nat.le_of_ble_eq_true rfl) fun M W0 => ?_
  refine KC.seq ?_
  refine KC.region ?_
  refine KT.step rfl rfl (K.assign rfl) ?_
  refine KT.nil ?_
  refine thenK_n ?_
  refine KC.seq ?_
  refine KC.seq ?_
  refine KC.region ?_
  refine KT.step rfl rfl (K.move rfl) ?_
  refine KT.step rfl rfl (K.len rfl hd Try.underlying22) ?_
  refine KT.step rfl rfl (K.move rfl) ?_
  refine KT.nil ?_
  refine thenK_n ?_
  refine KC.block ?_
  refine KC.loop (fun _ : Nat => []) (fun i => [(0, .d d), (1, .d (DI L)), (9, .d d), (10, .d (DI (m.length : Nat))), (11, .d (DI (i : Nat)))]) (fun i => i ≤ m.length ∧ (m.take i).all (okRow m.length L) = true) (fun i => m.length - i) 0 ⟨Nat.zero_le _, rfl⟩ rfl (by simp [Go.Vm.look, extK, enterK]) ?_
  intro i hi
  obtain ⟨hi, hall⟩ := hi
  refine KC.seq ?_
  refine KC.region ?_
  refine KT.step rfl rfl (K.lss rfl rfl) ?_
  refine KT.nil ?_
  refine thenK_n ?_
  refine KC.seq ?_
  refine KC.cond rfl (fun hc12 => ?_) (fun hc12 => ?_)
  · skip
    replace hc12 := of_decide_eq_true hc12
    refine KC.skip ?_
    refine thenK_n ?_
    refine KC.seq ?_
    refine KC.block ?_
    refine KC.seq ?_
    refine KC.region ?_
    refine KT.idx rfl rfl rfl (by assumption) rfl (by omega) Try.underlying22 Try.size33 fun c13 cs13 hq13 => ?_
    refine KT.step rfl rfl (K.load rfl Try.agg33) ?_
    refine KT.step rfl rfl (K.assign rfl) ?_
    refine KT.nil ?_
    refine thenK_n ?_
    refine KC.seq ?_
    refine KC.seq ?_
    refine KC.region ?_
    refine KT.step rfl rfl (K.move rfl) ?_
    refine KT.step rfl rfl (K.len rfl hq13 Try.underlying33) ?_
    refine KT.step rfl rfl (K.move rfl) ?_
    refine KT.step rfl rfl (K.len rfl hd Try.underlying22) ?_
    refine KT.step rfl rfl (K.neq rfl rfl) ?_
    refine KT.nil ?_
    refine thenK_n ?_
    refine KC.cond rfl (fun hc19 => ?_) (fun hc19 => ?_)
    · skip
      replace hc19 := of_decide_eq_true hc19
      refine KC.seq ?_
      refine KC.region ?_
      refine KT.step rfl rfl (K.assign rfl) ?_
      refine KT.nil ?_
      refine thenK_n ?_
      refine KC.ret ?_
      refine thenK_r ?_
      refine blockK_r ?_
      refine thenK_r ?_
      refine thenK_r ?_
      refine blockK_r ?_
      refine thenK_r ?_
      refine ⟨.inl rfl, _, rfl, fin_b ?_⟩
      unfold validB
      rw [all_false (show i < m.length by omega) (show okRow m.length L m[i] = false from by unfold okRow; rw [decide_eq_false (by omega)]; rfl), Bool.and_false]
    · skip
      replace hc19 := of_decide_eq_false hc19
      refine KC.skip ?_
      refine thenK_n ?_
      refine KC.seq ?_
      refine KC.region ?_
      refine KT.step rfl rfl (K.move rfl) ?_
      refine KT.step rfl rfl (K.len rfl hq13 Try.underlying33) ?_
      refine KT.step rfl rfl (K.move rfl) ?_
      refine KT.nil ?_
      refine thenK_n ?_
      refine KC.block ?_
      have hrl := hr _ (List.getElem_mem (show i < m.length by omega))
      refine KC.loop (fun _ : Nat => []) (fun j => [(0, .d d), (1, .d (DI L)), (9, .d d), (10, .d (DI (m.length : Nat))), (11, .d (DI (i : Nat))), (20, .d c13), (21, .d (DI (m[i].length : Nat))), (22, .d (DI (j : Nat)))]) (fun j => j ≤ m[i].length ∧ (m[i].take j).all (okX L) = true) (fun j => m[i].length - j) 0 ⟨Nat.zero_le _, rfl⟩ rfl (by simp [Go.Vm.look, extK, enterK]) ?_
      intro j hj
      obtain ⟨hj, hall2⟩ := hj
      refine KC.seq ?_
      refine KC.region ?_
      refine KT.step rfl rfl (K.lss rfl rfl) ?_
      refine KT.nil ?_
      refine thenK_n ?_
      refine KC.seq ?_
      refine KC.cond rfl (fun hc23 => ?_) (fun hc23 => ?_)
      · skip
        replace hc23 := of_decide_eq_true hc23
        refine KC.skip ?_
        refine thenK_n ?_
        refine KC.seq ?_
        refine KC.block ?_
        refine KC.seq ?_
        refine KC.region ?_
        refine KT.idxI rfl rfl rfl (by assumption) rfl (by omega) Try.underlying33 Try.size3 fun cs24 => ?_
        refine KT.step rfl rfl (K.load rfl Try.agg3) ?_
        refine KT.step rfl rfl (K.assign rfl) ?_
        refine KT.nil ?_
        refine thenK_n ?_
        refine KC.seq ?_
        refine KC.region ?_
        refine KT.step rfl rfl (K.move rfl) ?_
        refine KT.step rfl rfl (K.neq rfl rfl) ?_
        refine KT.step rfl rfl (K.move rfl) ?_
        refine KT.bcase (fun hb28 => ?_) (fun hb28 => ?_)
        · skip
          replace hb28 := of_decide_eq_true hb28
          refine KT.step rfl rfl (K.move rfl) ?_
          refine KT.step rfl rfl (K.move rfl) ?_
          refine KT.step rfl rfl (K.unI rfl (show IntKind.i64.wrap (0 - L) = -L from by rw [Int.zero_sub]; exact wrap_id (by omega))) ?_
          refine KT.step rfl rfl (K.lss rfl rfl) ?_
          refine KT.step rfl rfl (K.move rfl) ?_
          refine KT.bcase (fun hb33 => ?_) (fun hb33 => ?_)
          · skip
            replace hb33 := of_decide_eq_true hb33
            refine KT.skip rfl rfl ?_
            refine KT.skip rfl rfl ?_
            refine KT.skip rfl rfl ?_
            refine KT.step rfl rfl (K.pick rfl (fun _ => rfl) (fun h => by cases h)) ?_
            refine KT.step rfl rfl (K.pick rfl (fun _ => rfl) (fun h => by cases h)) ?_
            refine KT.nil ?_
            refine thenK_n ?_
            refine KC.cond rfl (fun hc38 => ?_) (fun hc38 => ?_)
            · skip
              refine KC.seq ?_
              refine KC.region ?_
              refine KT.step rfl rfl (K.assign rfl) ?_
              refine KT.nil ?_
              refine thenK_n ?_
              refine KC.ret ?_
              refine blockK_r ?_
              refine thenK_r ?_
              refine thenK_r ?_
              refine blockK_r ?_
              refine blockK_r ?_
              refine thenK_r ?_
              refine thenK_r ?_
              refine blockK_r ?_
              refine thenK_r ?_
              refine ⟨.inl rfl, _, rfl, fin_b ?_⟩
              unfold validB
              rw [all_false (show i < m.length by omega) (show okRow m.length L m[i] = false from by
                unfold okRow
                rw [all_false (show j < m[i].length by omega) (show okX L m[i][j] = false from by
                  rw [okX_neg (show m[i][j] ≠ Nv from hb28), decide_eq_true (show m[i][j] < -L from hb33), Bool.true_or]; rfl), Bool.and_false]), Bool.and_false]
            · cases hc38
          · skip
            replace hb33 := of_decide_eq_false hb33
            refine KT.step rfl rfl (K.move rfl) ?_
            refine KT.step rfl rfl (K.move rfl) ?_
            refine KT.step rfl rfl (K.gtr rfl rfl) ?_
            refine KT.step rfl rfl (K.pick rfl (fun h => by cases h) (fun _ => rfl)) ?_
            refine KT.step rfl rfl (K.pick rfl (fun _ => rfl) (fun h => by cases h)) ?_
            refine KT.nil ?_
            refine thenK_n ?_
            refine KC.cond rfl (fun hc38 => ?_) (fun hc38 => ?_)
            · skip
              replace hc38 := of_decide_eq_true hc38
              refine KC.seq ?_
              refine KC.region ?_
              refine KT.step rfl rfl (K.assign rfl) ?_
              refine KT.nil ?_
              refine thenK_n ?_
              refine KC.ret ?_
              refine blockK_r ?_
              refine thenK_r ?_
              refine thenK_r ?_
              refine blockK_r ?_
              refine blockK_r ?_
              refine thenK_r ?_
              refine thenK_r ?_
              refine blockK_r ?_
              refine thenK_r ?_
              refine ⟨.inl rfl, _, rfl, fin_b ?_⟩
              unfold validB
              rw [all_false (show i < m.length by omega) (show okRow m.length L m[i] = false from by
                unfold okRow
                rw [all_false (show j < m[i].length by omega) (show okX L m[i][j] = false from by
                  rw [okX_neg (show m[i][j] ≠ Nv from hb28), decide_eq_true (show L < m[i][j] from hc38), Bool.or_true]; rfl), Bool.and_false]), Bool.and_false]
            · skip
              replace hc38 := of_decide_eq_false hc38
              refine KC.skip ?_
              refine blockK_n ?_
              refine thenK_n ?_
              refine KC.region ?_
              refine KT.step rfl rfl (K.add rfl rfl (wrap_id (by omega))) ?_
              refine KT.step rfl rfl (K.move rfl) ?_
              refine KT.nil ?_
              refine thenK_n ?_
              refine ⟨j + 1, ⟨by omega, ?_⟩, by omega, rfl, by simp [Go.Vm.look, extK]⟩
              rw [all_take _ (show j < m[i].length by omega), hall2, Bool.true_and]
              rw [okX_neg (show m[i][j] ≠ Nv from hb28), decide_eq_false (show ¬ m[i][j] < -L from hb33), decide_eq_false (show ¬ L < m[i][j] from hc38)]; rfl
        · skip
          replace hb28 := of_decide_eq_false hb28
          refine KT.skip rfl rfl ?_
          refine KT.skip rfl rfl ?_
          refine KT.skip rfl rfl ?_
          refine KT.skip rfl rfl ?_
          refine KT.skip rfl rfl ?_
          refine KT.skip rfl rfl ?_
          refine KT.skip rfl rfl ?_
          refine KT.skip rfl rfl ?_
          refine KT.skip rfl rfl ?_
          refine KT.step rfl rfl (K.pick rfl (fun h => by cases h) (fun _ => rfl)) ?_
          refine KT.nil ?_
          refine thenK_n ?_
          refine KC.cond rfl (fun hc38 => ?_) (fun hc38 => ?_)
          · cases hc38
          · skip
            refine KC.skip ?_
            refine blockK_n ?_
            refine thenK_n ?_
            refine KC.region ?_
            refine KT.step rfl rfl (K.add rfl rfl (wrap_id (by omega))) ?_
            refine KT.step rfl rfl (K.move rfl) ?_
            refine KT.nil ?_
            refine thenK_n ?_
            refine ⟨j + 1, ⟨by omega, ?_⟩, by omega, rfl, by simp [Go.Vm.look, extK]⟩
            rw [all_take _ (show j < m[i].length by omega), hall2, Bool.true_and]
            unfold okX
            rw [decide_eq_true (show m[i][j] = Nv from Classical.not_not.1 hb28)]; rfl
      · skip
        replace hc23 := of_decide_eq_false hc23
        refine KC.exit ?_
        refine thenK_x ?_
        refine thenK_x ?_
        refine blockK_e ?_
        refine blockK_n ?_
        refine thenK_n ?_
        refine KC.region ?_
        refine KT.step rfl rfl (K.add rfl rfl (wrap_id (by omega))) ?_
        refine KT.step rfl rfl (K.move rfl) ?_
        refine KT.nil ?_
        refine thenK_n ?_
        refine ⟨i + 1, ⟨by omega, ?_⟩, by omega, rfl, by simp [Go.Vm.look, extK]⟩
        rw [all_take _ (show i < m.length by omega), hall, Bool.true_and]
        unfold okRow
        rw [decide_eq_true (by omega), Bool.true_and]
        exact all_end (by omega) hall2
  · skip
    replace hc12 := of_decide_eq_false hc12
    refine KC.exit ?_
    refine thenK_x ?_
    refine thenK_x ?_
    refine blockK_e ?_
    refine thenK_n ?_
    refine KC.seq ?_
    refine KC.region ?_
    refine KT.step rfl rfl (K.move rfl) ?_
    refine KT.step rfl rfl (K.len rfl hd Try.underlying22) ?_
    refine KT.step rfl rfl (K.geq rfl rfl) ?_
    refine KT.step rfl rfl (K.move rfl) ?_
    refine KT.bcase (fun hb44 => ?_) (fun hb44 => ?_)
    · skip
      replace hb44 := of_decide_eq_true hb44
      refine KT.step rfl rfl (K.move rfl) ?_
      refine KT.step rfl rfl (K.len rfl hd Try.underlying22) ?_
      refine KT.step rfl rfl (K.leq rfl rfl) ?_
      refine KT.step rfl rfl (K.pick rfl (fun _ => rfl) (fun h => by cases h)) ?_
      refine KT.step rfl rfl (K.assign rfl) ?_
      refine KT.nil ?_
      refine thenK_n ?_
      refine KC.ret ?_
      refine ⟨.inl rfl, _, rfl, fin_b ?_⟩
      unfold validB
      rw [all_end (by omega) hall, Bool.and_true]
      rw [decide_eq_true (show 1 ≤ m.length by omega), Bool.true_and]
      exact decide_eq_decide.2 (by omega)
    · skip
      replace hb44 := of_decide_eq_false hb44
      refine KT.skip rfl rfl ?_
      refine KT.skip rfl rfl ?_
      refine KT.skip rfl rfl ?_
      refine KT.step rfl rfl (K.pick rfl (fun h => by cases h) (fun _ => rfl)) ?_
      refine KT.step rfl rfl (K.assign rfl) ?_
      refine KT.nil ?_
      refine thenK_n ?_
      refine KC.ret ?_
      refine ⟨.inl rfl, _, rfl, fin_b ?_⟩
      unfold validB
      rw [all_end (by omega) hall, Bool.and_true]
      rw [decide_eq_false (show ¬ 1 ≤ m.length by omega)]; rfl
set_option maxRecDepth 10000 in
theorem small38 {d : DV} {m : List (List Int)} (hd : Mat d m) (hl : m.length ≤ 9223372036854775807) (hr : ∀ r ∈ m, r.length ≤ 9223372036854775807) : DeepCall Try.prog 38 [d] (DB (validB 1000 m)) := by
  refine deepCall_K 5 Try.func38 rfl (Nat.le_of_ble_eq_true rfl) fun M W0 => ?_
  refine KC.seq ?_
  refine KC.region ?_
  refine KT.step rfl rfl (K.assign rfl) ?_
  refine KT.nil ?_
  refine thenK_n ?_
  refine KC.seq ?_
  refine KC.region ?_
  refine KT.step rfl rfl (K.move rfl) ?_
  refine KT.step rfl rfl (K.call2 rfl rfl plainTry_50 (matrix50 hd hl hr (by omega))) ?_
  refine KT.step rfl rfl (K.assign rfl) ?_
  refine KT.nil ?_
  refine thenK_n ?_
  refine KC.ret ?_
  exact ⟨.inl rfl, _, rfl, fin_d rfl⟩

theorem oneI_eq {n i j : Nat} (hi : i < n) (h : i = j) : oneI n i j = 0 := if_pos ⟨h, hi⟩
theorem oneI_ne {n i j : Nat} (h : i ≠ j) : oneI n i j = Nv := if_neg fun e => h e.1
theorem unit_skip {n i j : Nat} (hi : i < n) (hj : j < n) (h : i = j) : mixL n (rowF (oneI n) i) (fun _ => .d (.lit (.int .i64 0))) j = mixL n (rowF (oneI n) i) (fun _ => .d (.lit (.int .i64 0))) (j + 1) := by
  rw [← mixL_done hj]
  congr 1; funext q
  split
  · rename_i e; subst e; show _ = XV.d (DI (oneI n i _)); rw [oneI_eq hi h]
  · rfl
set_option maxRecDepth 10000 in
theorem unit75 {n : Nat} (h0 : 0 < n) (hn : n ≤ 1000) : DeepCall Try.prog 75 [DI (n : Nat)] (genS n (oneI n) n) := by
  refine deepCall_K 5 Try.func75 rfl (Nat.le_of_ble_eq_true rfl) fun M W0 => ?_
  refine KC.seq ?_
  refine KC.region ?_
  refine KT.step rfl rfl (K.assign rfl) ?_
  refine KT.nil ?_
  refine thenK_n ?_
  refine KC.seq ?_
  refine KC.region ?_
  refine KT.step rfl rfl (K.assign rfl) ?_
  refine KT.nil ?_
  refine thenK_n ?_
  refine KC.seq ?_
  refine KC.seq ?_
  refine KC.region ?_
  refine KT.step rfl rfl (K.move rfl) ?_
  refine KT.step rfl rfl (K.move rfl) ?_
  refine KT.nil ?_
  refine thenK_n ?_
  refine KC.block ?_
  refine KC.loop (fun p : List VObj × XV × List Nat => p.1) (fun p => [(0, .d (DI (n : Nat))), (3, p.2.1), (7, .d (DI (n : Nat))), (8, .d (DI (p.2.2.length : Nat)))]) (fun p => p.2.2.length ≤ n ∧ RowsI n (oneI n) p.1 p.2.1 p.2.2) (fun p => n - p.2.2.length) ([], .d Dnil, []) ⟨Nat.zero_le _, .zero⟩ rfl (by simp [Go.Vm.look, extK, enterK]) ?_
  intro p hp
  obtain ⟨σ0, x0, ids⟩ := p
  obtain ⟨hi, rows⟩ := hp
  simp only at hi rows ⊢
  refine KC.seq ?_
  refine KC.region ?_
  refine KT.step rfl rfl (K.lss rfl rfl) ?_
  refine KT.nil ?_
  refine thenK_n ?_
  refine KC.seq ?_
  refine KC.cond rfl (fun hc9 => ?_) (fun hc9 => ?_)
  · skip
    replace hc9 := of_decide_eq_true hc9
    have hin : ids.length < n := by omega
    refine KC.skip ?_
    refine thenK_n ?_
    refine KC.seq ?_
    refine KC.block ?_
    refine KC.seq ?_
    refine KC.region ?_
    refine KT.step rfl rfl (K.move rfl) ?_
    refine KT.step rfl rfl (K.assign rfl) ?_
    refine KT.nil ?_
    refine thenK_n ?_
    refine KC.seq ?_
    refine KC.region ?_
    refine KT.step rfl rfl (K.move rfl) ?_
    refine KT.step rfl rfl (K.make rfl rfl (Nat.le_refl _) (by omega) Try.underlying33 Try.one3) ?_
    rw [mixL_rep (n := n) (f := rowF (oneI n) ids.length)]
    refine KT.step rfl rfl (K.assign rfl) ?_
    refine KT.nil ?_
    refine thenK_n ?_
    refine KC.seq ?_
    refine KC.seq ?_
    refine KC.region ?_
    refine KT.step rfl rfl (K.move rfl) ?_
    refine KT.step rfl rfl (K.lenO rfl Try.underlying33) ?_
    refine KT.step rfl rfl (K.move rfl) ?_
    refine KT.nil ?_
    refine thenK_n ?_
    refine KC.block ?_
    refine KC.loop (fun j : Nat => σ0 ++ [⟨mixL n (rowF (oneI n) ids.length) (fun _ => .d (.lit (.int .i64 0))) j, 0⟩]) (fun j => [(0, .d (DI (n : Nat))), (3, x0), (7, .d (DI (n : Nat))), (8, .d (DI (ids.length : Nat))), (4, .d (DI (ids.length : Nat))), (5, .osl σ0.length 0 n 1 n true), (14, .d (DI (n : Nat))), (15, .d (DI (j : Nat)))]) (fun j => j ≤ n) (fun j => n - j) 0 (Nat.zero_le _) rfl (by simp [Go.Vm.look, extK, enterK]) ?_
    intro j hj
    refine KC.seq ?_
    refine KC.region ?_
    refine KT.step rfl rfl (K.lss rfl rfl) ?_
    refine KT.nil ?_
    refine thenK_n ?_
    refine KC.seq ?_
    refine KC.cond rfl (fun hc16 => ?_) (fun hc16 => ?_)
    · skip
      replace hc16 := of_decide_eq_true hc16
      refine KC.skip ?_
      refine thenK_n ?_
      refine KC.seq ?_
      refine KC.block ?_
      refine KC.seq ?_
      refine KC.region ?_
      refine KT.step rfl rfl (K.move rfl) ?_
      refine KT.step rfl rfl (K.assign rfl) ?_
      refine KT.nil ?_
      refine thenK_n ?_
      refine KC.seq ?_
      refine KC.region ?_
      refine KT.step rfl rfl (K.move rfl) ?_
      refine KT.step rfl rfl (K.move rfl) ?_
      refine KT.step rfl rfl (K.neq rfl rfl) ?_
      refine KT.nil ?_
      refine thenK_n ?_
      refine KC.cond rfl (fun hc20 => ?_) (fun hc20 => ?_)
      · skip
        replace hc20 := of_decide_eq_true hc20
        refine KC.region ?_
        refine KT.step rfl rfl (K.move rfl) ?_
        refine KT.step rfl rfl (K.move rfl) ?_
        refine KT.step rfl rfl (K.idxO rfl rfl (by omega) Try.underlying33 Try.size3) ?_
        refine KT.step rfl rfl (K.storeO rfl rfl (List.getElem?_concat_length ..) (by rw [mixL_len]; omega) rfl rfl Try.size3) ?_
        rw [set_last, mixL_put (show j < n by omega)]
        refine KT.nil ?_
        refine blockK_n ?_
        refine thenK_n ?_
        refine KC.region ?_
        refine KT.step rfl rfl (K.add rfl rfl (wrap_id (by omega))) ?_
        refine KT.step rfl rfl (K.move rfl) ?_
        refine KT.nil ?_
        refine thenK_n ?_
        refine ⟨j + 1, by omega, by omega, ?_, by simp [Go.Vm.look, extK]⟩
        rw [← mixL_done (show j < n by omega)]
        congr 4; funext q; split
        · rename_i e; subst e; show _ = XV.d (DI (oneI n ids.length _)); rw [oneI_ne (by omega)]; rfl
        · rfl
      · skip
        replace hc20 := of_decide_eq_false hc20
        refine KC.skip ?_
        refine blockK_n ?_
        refine thenK_n ?_
        refine KC.region ?_
        refine KT.step rfl rfl (K.add rfl rfl (wrap_id (by omega))) ?_
        refine KT.step rfl rfl (K.move rfl) ?_
        refine KT.nil ?_
        refine thenK_n ?_
        refine ⟨j + 1, by omega, by omega, ?_, by simp [Go.Vm.look, extK]⟩
        rw [unit_skip hin (by omega) (by omega)]
    · skip
      replace hc16 := of_decide_eq_false hc16
      refine KC.exit ?_
      refine thenK_x ?_
      refine thenK_x ?_
      refine blockK_e ?_
      refine thenK_n ?_
      refine KC.region ?_
      refine KT.step rfl rfl (K.move rfl) ?_
      refine KT.step rfl rfl (K.move rfl) ?_
      rw [show j = n by omega, rowS_mix]
      refine KT.step rfl rfl (K.build1' (v := oslI n σ0.length) rfl rfl Try.underlying22 Try.one33) ?_
      refine KT.appK (k := 1) (vs := [oslI n σ0.length]) rfl rfl rfl rfl ((rows.own.pushed _).pushed _) (by simp) rfl rfl (by simp <;> omega) Try.underlying22 Try.size33 bytes33 cells33 (by omega) fun σ1 x1 ho1 k1 w1' => ?_
      have hrow1 : σ1[σ0.length]? = some ⟨rowS n (oneI n) ids.length, 0⟩ := by
        rw [k1 _ (fun e => by have := rows.own.lt e; omega) (by simp), List.getElem?_append_left (by simp), List.getElem?_append_right (Nat.le_refl _)]
        simp
      refine KT.step rfl rfl (K.assign rfl) ?_
      refine KT.nil ?_
      refine blockK_n ?_
      refine thenK_n ?_
      refine KC.region ?_
      refine KT.step rfl rfl (K.add rfl rfl (wrap_id (by omega))) ?_
      refine KT.step rfl rfl (K.move rfl) ?_
      refine KT.nil ?_
      refine thenK_n ?_
      refine ⟨(σ1, x1, ids ++ [σ0.length]), ⟨by simp; omega, rows.step ho1 k1 w1' hrow1 (fun _ _ => rfl)⟩, by simp; omega, rfl, by simp [Go.Vm.look, extK]⟩
  · skip
    replace hc9 := of_decide_eq_false hc9
    have hin : ids.length = n := by omega
    refine KC.exit ?_
    refine thenK_x ?_
    refine thenK_x ?_
    refine blockK_e ?_
    refine thenK_n ?_
    refine KC.seq ?_
    refine KC.region ?_
    refine KT.step rfl rfl (K.move rfl) ?_
    refine KT.step rfl rfl (K.assign rfl) ?_
    refine KT.nil ?_
    refine thenK_n ?_
    refine KC.ret ?_
    refine ⟨.inl rfl, _, rfl, ?_⟩
    rw [rows.fin (by omega), hin]
set_option maxRecDepth 10000 in
theorem rprod51 {d e : DV} {n : Nat} {a b : Nat → Nat → Int} (hd : Mat d (genM n n a)) (he : Mat e (genM n n b)) (h0 : 0 < n) (hn : n ≤ 1000) (ha : GoodM 1000000000000 a) (hb : GoodM 1000000000000 b) : DeepCall Try.prog 51 [d, e] (genS n (prodI n a b) n) := by
  refine deepCall_K 5 Try.func51 rfl (Nat.le_of_ble_eq_true rfl) fun M W0 => ?_
  refine KC.seq ?_
  refine KC.region ?_
  refine KT.step rfl rfl (K.assign rfl) ?_
  refine KT.nil ?_
  refine thenK_n ?_
  refine KC.seq ?_
  refine KC.region ?_
  refine KT.step rfl rfl (K.assign rfl) ?_
  refine KT.nil ?_
  refine thenK_n ?_
  refine KC.seq ?_
  refine KC.seq ?_
  refine KC.region ?_
  refine KT.step rfl rfl (K.move rfl) ?_
  refine KT.step rfl rfl (K.len rfl hd Try.underlying22) ?_
  rw [genM_len]
  refine KT.step rfl rfl (K.move rfl) ?_
  refine KT.nil ?_
  refine thenK_n ?_
  refine KC.block ?_
  refine KC.loop (fun p : List VObj × XV × List Nat => p.1) (fun p => [(0, .d d), (1, .d e), (5, p.2.1), (11, .d (DI (n : Nat))), (12, .d (DI (p.2.2.length : Nat)))]) (fun p => p.2.2.length ≤ n ∧ RowsI n (prodI n a b) p.1 p.2.1 p.2.2) (fun p => n - p.2.2.length) ([], .d Dnil, []) ⟨Nat.zero_le _, .zero⟩ rfl (by simp [Go.Vm.look, extK, enterK]) ?_
  intro p hp
  obtain ⟨σ0, x0, ids⟩ := p
  obtain ⟨hi, rows⟩ := hp
  simp only at hi rows ⊢
  refine KC.seq ?_
  refine KC.region ?_
  refine KT.step rfl rfl (K.lss rfl rfl) ?_
  refine KT.nil ?_
  refine thenK_n ?_
  refine KC.seq ?_
  refine KC.cond rfl (fun hc13 => ?_) (fun hc13 => ?_)
  · skip
    replace hc13 := of_decide_eq_true hc13
    have hin : ids.length < n := by omega
    refine KC.skip ?_
    refine thenK_n ?_
    refine KC.seq ?_
    refine KC.block ?_
    refine KC.seq ?_
    refine KC.region ?_
    refine KT.step rfl rfl (K.move rfl) ?_
    refine KT.step rfl rfl (K.assign rfl) ?_
    refine KT.nil ?_
    refine thenK_n ?_
    refine KC.seq ?_
    refine KC.region ?_
    refine KT.step rfl rfl (K.move rfl) ?_
    refine KT.step rfl rfl (K.len rfl hd Try.underlying22) ?_
    rw [genM_len]
    refine KT.step rfl rfl (K.make rfl rfl (Nat.le_refl _) (by omega) Try.underlying33 Try.one3) ?_
    rw [mixL_rep (n := n) (f := rowF (prodI n a b) ids.length)]
    refine KT.step rfl rfl (K.assign rfl) ?_
    refine KT.nil ?_
    refine thenK_n ?_
    refine KC.seq ?_
    refine KC.seq ?_
    refine KC.region ?_
    refine KT.step rfl rfl (K.move rfl) ?_
    refine KT.step rfl rfl (K.lenO rfl Try.underlying33) ?_
    refine KT.step rfl rfl (K.move rfl) ?_
    refine KT.nil ?_
    refine thenK_n ?_
    refine KC.block ?_
    refine KC.loop (fun j : Nat => σ0 ++ [⟨mixL n (rowF (prodI n a b) ids.length) (fun _ => .d (.lit (.int .i64 0))) j, 0⟩]) (fun j => [(0, .d d), (1, .d e), (5, x0), (11, .d (DI (n : Nat))), (12, .d (DI (ids.length : Nat))), (6, .d (DI (ids.length : Nat))), (7, .osl σ0.length 0 n 1 n true), (19, .d (DI (n : Nat))), (20, .d (DI (j : Nat)))]) (fun j => j ≤ n) (fun j => n - j) 0 (Nat.zero_le _) rfl (by simp [Go.Vm.look, extK, enterK]) ?_
    intro j hj
    refine KC.seq ?_
    refine KC.region ?_
    refine KT.step rfl rfl (K.lss rfl rfl) ?_
    refine KT.nil ?_
    refine thenK_n ?_
    refine KC.seq ?_
    refine KC.cond rfl (fun hc21 => ?_) (fun hc21 => ?_)
    · skip
      replace hc21 := of_decide_eq_true hc21
      refine KC.skip ?_
      refine thenK_n ?_
      refine KC.seq ?_
      refine KC.block ?_
      refine KC.seq ?_
      refine KC.region ?_
      refine KT.step rfl rfl (K.move rfl) ?_
      refine KT.step rfl rfl (K.assign rfl) ?_
      refine KT.nil ?_
      refine thenK_n ?_
      refine KC.seq ?_
      refine KC.region ?_
      refine KT.step rfl rfl (K.move rfl) ?_
      refine KT.step rfl rfl (K.move rfl) ?_
      refine KT.step rfl rfl (K.idxO rfl rfl (by omega) Try.underlying33 Try.size3) ?_
      refine KT.step rfl rfl (K.storeO rfl rfl (List.getElem?_concat_length ..) (by rw [mixL_len]; omega) rfl rfl Try.size3) ?_
      rw [set_last, mixL_put (show j < n by omega)]
      refine KT.nil ?_
      refine thenK_n ?_
      refine KC.seq ?_
      refine KC.region ?_
      refine KT.step rfl rfl (K.move rfl) ?_
      refine KT.step rfl rfl (K.len rfl hd Try.underlying22) ?_
      rw [genM_len]
      refine KT.step rfl rfl (K.move rfl) ?_
      refine KT.nil ?_
      refine thenK_n ?_
      refine KC.block ?_
      refine KC.loop (fun k : Nat => σ0 ++ [⟨mixL n (rowF (prodI n a b) ids.length) (fun q => if q = j then (.d (DI (greR k fun q => aft (a ids.length q) (b q j)))) else (.d (.lit (.int .i64 0)))) j, 0⟩]) (fun k => [(0, .d d), (1, .d e), (5, x0), (11, .d (DI (n : Nat))), (12, .d (DI (ids.length : Nat))), (6, .d (DI (ids.length : Nat))), (7, .osl σ0.length 0 n 1 n true), (19, .d (DI (n : Nat))), (20, .d (DI (j : Nat))), (8, .d (DI (j : Nat))), (27, .d (DI (n : Nat))), (28, .d (DI (k : Nat)))]) (fun k => k ≤ n) (fun k => n - k) 0 (Nat.zero_le _) rfl (by simp [Go.Vm.look, extK, enterK]) ?_
      intro k hk
      refine KC.seq ?_
      refine KC.region ?_
      refine KT.step rfl rfl (K.lss rfl rfl) ?_
      refine KT.nil ?_
      refine thenK_n ?_
      refine KC.seq ?_
      refine KC.cond rfl (fun hc29 => ?_) (fun hc29 => ?_)
      · skip
        replace hc29 := of_decide_eq_true hc29
        refine KC.skip ?_
        refine thenK_n ?_
        refine KC.seq ?_
        refine KC.block ?_
        refine KC.seq ?_
        refine KC.region ?_
        refine KT.step rfl rfl (K.move rfl) ?_
        refine KT.step rfl rfl (K.assign rfl) ?_
        refine KT.nil ?_
        refine thenK_n ?_
        refine KC.seq ?_
        refine KC.region ?_
        refine KT.step rfl rfl (K.move rfl) ?_
        refine KT.step rfl rfl (K.move rfl) ?_
        refine KT.idx rfl rfl rfl (by assumption) rfl (by rw [genM_len]; omega) Try.underlying22 Try.size33 fun c33 cs33 hq33 => ?_
        rw [genM_row] at hq33
        refine KT.step rfl rfl (K.load rfl Try.agg33) ?_
        refine KT.step rfl rfl (K.move rfl) ?_
        refine KT.idxI rfl rfl rfl (by assumption) rfl (by simp; omega) Try.underlying33 Try.size3 fun cs36 => ?_
        rw [get_range]
        refine KT.step rfl rfl (K.load rfl Try.agg3) ?_
        refine KT.step rfl rfl (K.neq rfl rfl) ?_
        refine KT.step rfl rfl (K.move rfl) ?_
        refine KT.bcase (fun hb39 => ?_) (fun hb39 => ?_)
        · skip
          replace hb39 := of_decide_eq_true hb39
          refine KT.step rfl rfl (K.move rfl) ?_
          refine KT.step rfl rfl (K.move rfl) ?_
          refine KT.idx rfl rfl rfl (by assumption) rfl (by rw [genM_len]; omega) Try.underlying22 Try.size33 fun c42 cs42 hq42 => ?_
          rw [genM_row] at hq42
          refine KT.step rfl rfl (K.load rfl Try.agg33) ?_
          refine KT.step rfl rfl (K.move rfl) ?_
          refine KT.idxI rfl rfl rfl (by assumption) rfl (by simp; omega) Try.underlying33 Try.size3 fun cs45 => ?_
          rw [get_range]
          refine KT.step rfl rfl (K.load rfl Try.agg3) ?_
          refine KT.step rfl rfl (K.neq rfl rfl) ?_
          refine KT.step rfl rfl (K.pick rfl (fun _ => rfl) (fun h => by cases h)) ?_
          refine KT.nil ?_
          refine thenK_n ?_
          refine KC.cond rfl (fun hc48 => ?_) (fun hc48 => ?_)
          · skip
            replace hc48 := of_decide_eq_true hc48
            refine KC.draw Try.mixed ?_
            refine KT.step rfl rfl (K.move rfl) ?_
            refine KT.step rfl rfl (K.move rfl) ?_
            refine KT.step rfl rfl (K.move rfl) ?_
            refine KT.step rfl rfl (K.move rfl) ?_
            refine KT.step rfl rfl (K.idxO rfl rfl (by omega) Try.underlying33 Try.size3) ?_
            refine KT.step rfl rfl (K.loadO rfl (List.getElem?_concat_length ..) (by simp) (mixL_get (by omega)) Try.agg3) ?_
            refine KT.step rfl rfl (K.move rfl) ?_
            refine KT.step rfl rfl (K.move rfl) ?_
            refine KT.idx rfl rfl rfl (by assumption) rfl (by rw [genM_len]; omega) Try.underlying22 Try.size33 fun c57 cs57 hq57 => ?_
            rw [genM_row] at hq57
            refine KT.step rfl rfl (K.load rfl Try.agg33) ?_
            refine KT.step rfl rfl (K.move rfl) ?_
            refine KT.idxI rfl rfl rfl (by assumption) rfl (by simp; omega) Try.underlying33 Try.size3 fun cs60 => ?_
            rw [get_range]
            refine KT.step rfl rfl (K.load rfl Try.agg3) ?_
            refine KT.step rfl rfl (K.move rfl) ?_
            refine KT.step rfl rfl (K.move rfl) ?_
            refine KT.idx rfl rfl rfl (by assumption) rfl (by rw [genM_len]; omega) Try.underlying22 Try.size33 fun c64 cs64 hq64 => ?_
            rw [genM_row] at hq64
            refine KT.step rfl rfl (K.load rfl Try.agg33) ?_
            refine KT.step rfl rfl (K.move rfl) ?_
            refine KT.idxI rfl rfl rfl (by assumption) rfl (by simp; omega) Try.underlying33 Try.size3 fun cs67 => ?_
            rw [get_range]
            refine KT.step rfl rfl (K.load rfl Try.agg3) ?_
            refine KT.step rfl rfl (K.add rfl rfl (wrap_id (by have := good_bd (ha ids.length k) (Int.le_refl _); have := good_bd (hb k j) (Int.le_refl _); omega))) ?_
            refine KT.step rfl rfl (K.max2 rfl rfl) ?_
            refine KT.step rfl rfl (K.idxO rfl rfl (by omega) Try.underlying33 Try.size3) ?_
            refine KT.step rfl rfl (K.storeO rfl rfl (List.getElem?_concat_length ..) (by rw [mixL_len]; omega) rfl rfl Try.size3) ?_
            rw [set_last, mixL_put2 (show j < n by omega)]
            refine KT.nil ?_
            refine ⟨by kernel_rfl, ?_⟩
            refine blockK_n ?_
            refine thenK_n ?_
            refine KC.region ?_
            refine KT.step rfl rfl (K.add rfl rfl (wrap_id (by omega))) ?_
            refine KT.step rfl rfl (K.move rfl) ?_
            refine KT.nil ?_
            refine thenK_n ?_
            refine ⟨k + 1, by omega, by omega, ?_, by simp [Go.Vm.look, extK]⟩
            rw [greR_succ, show aft (a ids.length k) (b k j) = a ids.length k + b k j from if_neg (by rintro (h | h); exact hb39 h; exact hc48 h)]
          · skip
            replace hc48 := of_decide_eq_false hc48
            refine KC.skip ?_
            refine blockK_n ?_
            refine thenK_n ?_
            refine KC.region ?_
            refine KT.step rfl rfl (K.add rfl rfl (wrap_id (by omega))) ?_
            refine KT.step rfl rfl (K.move rfl) ?_
            refine KT.nil ?_
            refine thenK_n ?_
            refine ⟨k + 1, by omega, by omega, ?_, by simp [Go.Vm.look, extK]⟩
            rw [greR_nv (show aft (a ids.length k) (b k j) = Nv from if_pos (.inr (Classical.not_not.1 hc48)))]
        · skip
          replace hb39 := of_decide_eq_false hb39
          refine KT.skip rfl rfl ?_
          refine KT.skip rfl rfl ?_
          refine KT.skip rfl rfl ?_
          refine KT.skip rfl rfl ?_
          refine KT.skip rfl rfl ?_
          refine KT.skip rfl rfl ?_
          refine KT.skip rfl rfl ?_
          refine KT.skip rfl rfl ?_
          refine KT.step rfl rfl (K.pick rfl (fun h => by cases h) (fun _ => rfl)) ?_
          refine KT.nil ?_
          refine thenK_n ?_
          refine KC.cond rfl (fun hc48 => ?_) (fun hc48 => ?_)
          · cases hc48
          · skip
            refine KC.skip ?_
            refine blockK_n ?_
            refine thenK_n ?_
            refine KC.region ?_
            refine KT.step rfl rfl (K.add rfl rfl (wrap_id (by omega))) ?_
            refine KT.step rfl rfl (K.move rfl) ?_
            refine KT.nil ?_
            refine thenK_n ?_
            refine ⟨k + 1, by omega, by omega, ?_, by simp [Go.Vm.look, extK]⟩
            rw [greR_nv (show aft (a ids.length k) (b k j) = Nv from if_pos (.inl (Classical.not_not.1 hb39)))]
      · skip
        replace hc29 := of_decide_eq_false hc29
        refine KC.exit ?_
        refine thenK_x ?_
        refine thenK_x ?_
        refine blockK_e ?_
        refine blockK_n ?_
        refine thenK_n ?_
        refine KC.region ?_
        refine KT.step rfl rfl (K.add rfl rfl (wrap_id (by omega))) ?_
        refine KT.step rfl rfl (K.move rfl) ?_
        refine KT.nil ?_
        refine thenK_n ?_
        refine ⟨j + 1, by omega, by omega, ?_, by simp [Go.Vm.look, extK]⟩
        rw [← mixL_done (show j < n by omega)]
        congr 4; funext q; split
        · rename_i e; subst e; show _ = XV.d (DI (prodI n a b ids.length _)); rw [prodI_greR, show k = n by omega]
        · rfl
    · skip
      replace hc21 := of_decide_eq_false hc21
      refine KC.exit ?_
      refine thenK_x ?_
      refine thenK_x ?_
      refine blockK_e ?_
      refine thenK_n ?_
      refine KC.region ?_
      refine KT.step rfl rfl (K.move rfl) ?_
      refine KT.step rfl rfl (K.move rfl) ?_
      rw [show j = n by omega, rowS_mix]
      refine KT.step rfl rfl (K.build1' (v := oslI n σ0.length) rfl rfl Try.underlying22 Try.one33) ?_
      refine KT.appK (k := 1) (vs := [oslI n σ0.length]) rfl rfl rfl rfl ((rows.own.pushed _).pushed _) (by simp) rfl rfl (by simp <;> omega) Try.underlying22 Try.size33 bytes33 cells33 (by omega) fun σ1 x1 ho1 k1 w1' => ?_
      have hrow1 : σ1[σ0.length]? = some ⟨rowS n (prodI n a b) ids.length, 0⟩ := by
        rw [k1 _ (fun e => by have := rows.own.lt e; omega) (by simp), List.getElem?_append_left (by simp), List.getElem?_append_right (Nat.le_refl _)]
        simp
      refine KT.step rfl rfl (K.assign rfl) ?_
      refine KT.nil ?_
      refine blockK_n ?_
      refine thenK_n ?_
      refine KC.region ?_
      refine KT.step rfl rfl (K.add rfl rfl (wrap_id (by omega))) ?_
      refine KT.step rfl rfl (K.move rfl) ?_
      refine KT.nil ?_
      refine thenK_n ?_
      refine ⟨(σ1, x1, ids ++ [σ0.length]), ⟨by simp; omega, rows.step ho1 k1 w1' hrow1 (fun _ _ => rfl)⟩, by simp; omega, rfl, by simp [Go.Vm.look, extK]⟩
  · skip
    replace hc13 := of_decide_eq_false hc13
    have hin : ids.length = n := by omega
    refine KC.exit ?_
    refine thenK_x ?_
    refine thenK_x ?_
    refine blockK_e ?_
    refine thenK_n ?_
    refine KC.seq ?_
    refine KC.region ?_
    refine KT.step rfl rfl (K.move rfl) ?_
    refine KT.step rfl rfl (K.assign rfl) ?_
    refine KT.nil ?_
    refine thenK_n ?_
    refine KC.ret ?_
    refine ⟨.inl rfl, _, rfl, ?_⟩
    rw [rows.fin (by omega), hin]
set_option maxRecDepth 10000 in
theorem rpow54 {d : DV} {n k : Nat} {a : Nat → Nat → Int} {b : Int} (hd : Mat d (genM n n a)) (h0 : 0 < n) (hn : n ≤ 1000) (ha : GoodM b a) (hb : 0 ≤ b) (hbb : b ≤ 1000000000000) (hk : k ≤ 1000000) (hkb : (k : Int) * b ≤ 1000000000000) : DeepCall Try.prog 54 [d, DI (k : Nat)] (genS n (pwI n a k) n) := by
  refine deepCall_K 5 Try.func54 rfl (Nat.le_of_ble_eq_true rfl) fun M W0 => ?_
  refine KC.seq ?_
  refine KC.region ?_
  refine KT.step rfl rfl (K.assign rfl) ?_
  refine KT.nil ?_
  refine thenK_n ?_
  refine KC.seq ?_
  refine KC.region ?_
  refine KT.step rfl rfl (K.move rfl) ?_
  refine KT.step rfl rfl (K.len rfl hd Try.underlying22) ?_
  rw [genM_len]
  refine KT.step rfl rfl (K.call1 rfl plainTry_75 (unit75 h0 hn)) ?_
  refine KT.step rfl rfl (K.assign rfl) ?_
  refine KT.nil ?_
  refine thenK_n ?_
  refine KC.seq ?_
  refine KC.seq ?_
  refine KC.region ?_
  refine KT.step rfl rfl (K.move rfl) ?_
  refine KT.step rfl rfl (K.move rfl) ?_
  refine KT.nil ?_
  refine thenK_n ?_
  refine KC.block ?_
  refine KC.loop (fun _ : Nat => []) (fun q => [(0, .d d), (5, .d (genS n (pwI n a q) n)), (9, .d (DI (k : Nat))), (10, .d (DI (q : Nat)))]) (fun q => q ≤ k) (fun q => k - q) 0 (Nat.zero_le _) rfl (by simp [Go.Vm.look, extK, enterK, pwI]) ?_
  intro q hq
  refine KC.seq ?_
  refine KC.region ?_
  refine KT.step rfl rfl (K.lss rfl rfl) ?_
  refine KT.nil ?_
  refine thenK_n ?_
  refine KC.seq ?_
  refine KC.cond rfl (fun hc11 => ?_) (fun hc11 => ?_)
  · skip
    replace hc11 := of_decide_eq_true hc11
    refine KC.skip ?_
    refine thenK_n ?_
    refine KC.seq ?_
    refine KC.block ?_
    refine KC.region ?_
    have hqb : (q : Int) * b ≤ (k : Int) * b := Int.mul_le_mul_of_nonneg_right (by omega) hb
    have hgq : GoodM 1000000000000 (pwI n a q) := fun i j => (pw_good ha hb q i j).mono (by omega)
    refine KT.step rfl rfl (K.move rfl) ?_
    refine KT.step rfl rfl (K.move rfl) ?_
    refine KT.step rfl rfl (K.call2 rfl rfl plainTry_51 (rprod51 genS_mat hd h0 hn hgq (fun i j => (ha i j).mono hbb))) ?_
    refine KT.step rfl rfl (K.assign rfl) ?_
    refine KT.nil ?_
    refine blockK_n ?_
    refine thenK_n ?_
    refine KC.region ?_
    refine KT.step rfl rfl (K.add rfl rfl (wrap_id (by omega))) ?_
    refine KT.step rfl rfl (K.move rfl) ?_
    refine KT.nil ?_
    refine thenK_n ?_
    refine ⟨q + 1, by omega, by omega, rfl, by simp [Go.Vm.look, extK, pwI]⟩
  · skip
    replace hc11 := of_decide_eq_false hc11
    refine KC.exit ?_
    refine thenK_x ?_
    refine thenK_x ?_
    refine blockK_e ?_
    refine thenK_n ?_
    refine KC.seq ?_
    refine KC.region ?_
    refine KT.step rfl rfl (K.move rfl) ?_
    refine KT.step rfl rfl (K.assign rfl) ?_
    refine KT.nil ?_
    refine thenK_n ?_
    refine KC.ret ?_
    exact ⟨.inl rfl, _, rfl, fin_d (by rw [show q = k by omega])⟩
end Go.Proofs.Ythbnnffmhnjpjaa

