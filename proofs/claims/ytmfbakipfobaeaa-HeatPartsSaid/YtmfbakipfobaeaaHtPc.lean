import Derived.Test.YtmfbakipfobaeaaHtPb
import Derived.Test.YtmfbakipfobaeaaHtPq
import Derived.Test.YtmfbakipfobaeaaVmOr
/-
  Heat: the division of loads.
-/
namespace Go.Proofs.Ytmfbakipfobaeaa
open Go.Vm Go.Ht
theorem plainTry_58 : plainFn Try.prog 58 = true := by kernel_rfl
theorem plainTry_59 : plainFn Try.prog 59 = true := by kernel_rfl
theorem plainTry_76 : plainFn Try.prog 76 = true := by kernel_rfl
theorem build92_o (a b m : Nat) : opBuild Try.prog 92 [(0, .osl a 0 m 1 m true), (1, .osl b 0 m 1 m true)] = some (.agg [.osl a 0 m 1 m true, .osl b 0 m 1 m true]) := by kernel_rfl
set_option maxHeartbeats 4000000 in
set_option maxRecDepth 10000 in
theorem divided58 {d0 d1 : DV} {hot cold : List Int} (hh : Ints d0 hot) (hc : Ints d1 cold) (hhl : hot.length ≤ 9223372036854775807) (hcl : cold.length ≤ 9223372036854775807) (hok : okM hot cold = true) : DeepCall Try.prog 58 [d0, d1] (divV (zL hot cold)) := by
  obtain ⟨n1, n2, n3, n4, b1, b2, hsum⟩ := okM_iff.1 hok
  obtain ⟨cap, rfl⟩ : ∃ cap, d0 = .sl (ints hot) hot.length cap := by
    rcases ints_form hh with ⟨_, e⟩ | h
    · rw [e] at n1; simp at n1
    · exact h
  have hzl := zL_len hot cold
  have hzb : ∀ x ∈ zL hot cold, -1000 ≤ x ∧ x ≤ 1000 := fun x hx => by
    unfold zL at hx
    rcases List.mem_append.1 hx with h | h
    · have := b1 x h; omega
    · obtain ⟨y, hy, rfl⟩ := List.mem_map.1 h
      have := b2 y hy; omega
  have hM : 2 ^ (zL hot cold).length ≤ 4096 := Nat.pow_le_pow_right (n := 2) (by decide) (show (zL hot cold).length ≤ 12 by omega)
  have hM1 : 1 ≤ 2 ^ (zL hot cold).length := Nat.two_pow_pos _
  refine deepCall_K 7 Try.func58 rfl (Nat.le_of_ble_eq_true rfl) fun M W0 => ?_
  refine KC.seq ?_
  refine KC.region ?_
  refine KT.step rfl rfl (K.alloc Try.zero92) ?_
  refine KT.nil ?_
  refine thenK_n ?_
  refine KC.seq ?_
  refine KC.region ?_
  refine KT.step rfl rfl (K.move rfl) ?_
  refine KT.step rfl rfl (K.callG (τ := [⟨[], 0⟩, ⟨xs hot, 0⟩]) rfl plainTry_42 (clone42_own (by omega) (by omega))) ?_
  refine KT.step rfl rfl (K.assign rfl) ?_
  refine KT.nil ?_
  refine thenK_n ?_
  refine KC.seq ?_
  refine KC.seq ?_
  refine KC.region ?_
  refine KT.step rfl rfl (K.move rfl) ?_
  refine KT.step rfl rfl (K.len rfl hc Try.underlying23) ?_
  refine KT.step rfl rfl (K.move rfl) ?_
  refine KT.nil ?_
  refine thenK_n ?_
  refine KC.block ?_
  refine KC.loop (fun p : List VObj × XV × Nat => p.1) (fun p => [(4, .optr 0 0), (5, p.2.1), (17, .d d1), (18, .d (DI (cold.length : Nat))), (19, .d (DI (p.2.2 : Nat)))]) (fun p => p.2.2 ≤ cold.length ∧ p.1[0]? = some ⟨[.d Dnil, .d Dnil], 0⟩ ∧ OwnK 1 p.1 p.2.1 (xs (hot ++ (cold.take p.2.2).map fun x => 0 - x)) ∧ (∀ j, idX p.2.1 = some j → 1 ≤ j)) (fun p => cold.length - p.2.2) (_, .osl 2 0 hot.length 1 hot.length false, 0) ⟨Nat.zero_le _, rfl, (by rw [List.take_zero, List.map_nil, List.append_nil]; exact .sl rfl (by rw [xs_len, Nat.mul_one])), fun j hj => by cases hj; decide⟩ rfl (by simp [Go.Vm.look, extK, enterK]) ?_
  intro p hp
  obtain ⟨σ0, x, j⟩ := p
  obtain ⟨hj, y0, o, dj⟩ := hp
  simp only at hj y0 o dj ⊢
  refine KC.seq ?_
  refine KC.region ?_
  refine KT.step rfl rfl (K.lss rfl rfl) ?_
  refine KT.nil ?_
  refine thenK_n ?_
  refine KC.seq ?_
  refine KC.cond rfl (fun hc20 => ?_) (fun hc20 => ?_)
  · skip
    replace hc20 := of_decide_eq_true hc20
    have hjl : j < cold.length := by omega
    refine KC.skip ?_
    refine thenK_n ?_
    refine KC.seq ?_
    refine KC.block ?_
    refine KC.seq ?_
    refine KC.region ?_
    refine KT.idxI (m := j) rfl rfl rfl hc rfl hjl Try.underlying23 Try.size3 fun cs21 => ?_
    refine KT.step rfl rfl (K.load rfl Try.agg3) ?_
    refine KT.step rfl rfl (K.assign rfl) ?_
    refine KT.nil ?_
    refine thenK_n ?_
    refine KC.region ?_
    refine KT.step rfl rfl (K.move rfl) ?_
    refine KT.step rfl rfl (K.move rfl) ?_
    refine KT.step rfl rfl (K.unI rfl (wrap_id (by have := b2 _ (List.getElem_mem hjl); omega))) ?_
    refine KT.step rfl rfl (K.build1' rfl rfl Try.underlying23 Try.one3) ?_
    refine KT.appM (k := 1) (q := 1) rfl rfl rfl rfl (o.pushed _) (List.getElem?_concat_length ..) rfl (by decide) (by decide) rfl (by rw [xs_len]; simp; omega) Try.underlying23 Try.size3 (of_decide_eq_true (by kernel_rfl)) (by kernel_rfl) (by decide) fun σ1 x1 o1 k1 w1 => ?_
    obtain ⟨j1, w2, w3⟩ := w1
    simp only [List.length_append, List.length_cons, List.length_nil] at w3
    have z0 := (k1 0 (fun h => by have := dj 0 h; omega) (by rw [List.length_append]; simp)).trans (get_left y0)
    refine KT.step rfl rfl (K.assign rfl) ?_
    refine KT.nil ?_
    refine blockK_n ?_
    refine thenK_n ?_
    refine KC.region ?_
    refine KT.step rfl rfl (K.add rfl rfl (wrap_id (by omega))) ?_
    refine KT.step rfl rfl (K.move rfl) ?_
    refine KT.nil ?_
    refine thenK_n ?_
    refine ⟨(σ1, x1, j + 1), ⟨by simp only; omega, z0, ?_, fun i hi => ?_⟩, by simp only; omega, rfl, by simp [Go.Vm.look, extK]⟩
    · simp only
      rw [List.take_succ_eq_append_getElem hjl, List.map_append, ← List.append_assoc, xs_app]; exact o1
    · simp only at hi; rw [w2] at hi; cases hi; omega
  · skip
    replace hc20 := of_decide_eq_false hc20
    refine KC.exit ?_
    refine thenK_x ?_
    refine thenK_x ?_
    refine blockK_e ?_
    refine thenK_n ?_
    refine KC.seq ?_
    obtain rfl : j = cold.length := by omega
    rw [List.take_length] at o
    have hne : zL hot cold ≠ [] := fun e => by have := congrArg List.length e; rw [hzl, List.length_nil] at this; omega
    obtain ⟨id, rfl, hsx⟩ := own_xs (zs := zL hot cold) o hne
    have hid : 1 ≤ id := dj id rfl
    refine KC.ghost [id] 5 (t := 5) rfl (deep_xs hsx (by simp) rfl) ?_
    replace y0 := (freezeIds_not (ids := [id]) (by simp; omega)).trans y0
    generalize freezeIds σ0 [id] = A at y0 ⊢
    refine KC.region ?_
    refine KT.step rfl rfl (K.move rfl) ?_
    refine KT.step rfl rfl (K.len rfl ints_ok Try.underlying23) ?_
    refine KT.step rfl rfl (K.shl rfl rfl (by omega) (shlI (by omega))) ?_
    refine KT.step rfl rfl (K.assign rfl) ?_
    refine KT.nil ?_
    refine thenK_n ?_
    refine KC.seq ?_
    refine KC.ordersM Try.mixed (m := 7) rfl (T' := fun e τ k => e = .normal ∧ ∃ p q r, Thr A τ (2 ^ (zL hot cold).length) p q r ∧ ∀ e ∈ ([(4, .optr 0 0), (5, .d (.sl (ints (zL hot cold)) (zL hot cold).length none)), (8, .d (DI ((2 ^ (zL hot cold).length : Nat)))), (9, .optr r 0)] : Kn), Go.Vm.look k e.1 = some e.2) ?_ ?_
    · skip
      refine KA.next (i0 := 0) (r := [2, 5]) (by kernel_rfl) ?_
      refine KAll.cons' ?_ (KAll.cons' ?_ (KAll.cons' ?_ KAll.nil'))
      · refine KO.op rfl rfl rfl (K.move rfl) ?_
        refine KA.next (i0 := 1) (r := [2, 5]) (by kernel_rfl) ?_
        refine KAll.cons' ?_ (KAll.cons' ?_ (KAll.cons' ?_ KAll.nil'))
        · refine KO.op rfl rfl rfl (K.make (m := 2 ^ (zL hot cold).length) rfl rfl (Nat.le_refl _) (by omega) Try.underlying23 Try.one3) ?_
          refine KA.next (i0 := 2) (r := [5]) (by kernel_rfl) ?_
          refine KAll.cons' ?_ (KAll.cons' ?_ KAll.nil')
          · refine KO.op rfl rfl rfl (K.move rfl) ?_
            refine KA.next (i0 := 3) (r := [5]) (by kernel_rfl) ?_
            refine KAll.cons' ?_ (KAll.cons' ?_ KAll.nil')
            · refine KO.op rfl rfl rfl (K.make (m := 2 ^ (zL hot cold).length) rfl rfl (Nat.le_refl _) (by omega) Try.underlying23 Try.one3) ?_
              refine KA.next (i0 := 4) (r := [5]) (by kernel_rfl) ?_
              refine KAll.cons' ?_ (KAll.cons' ?_ KAll.nil')
              · refine KO.op rfl rfl rfl (K.buildS rfl (build92_o _ _ _)) ?_
                refine KA.next (i0 := 5) (r := []) (by kernel_rfl) ?_
                refine KAll.cons' ?_ KAll.nil'
                · refine KO.op rfl rfl rfl (K.alloc Try.zero92) ?_
                  refine KA.next (i0 := 6) (r := []) (by kernel_rfl) ?_
                  refine KAll.cons' ?_ KAll.nil'
                  · refine KO.op rfl rfl rfl (K.storeN rfl rfl (ap3_at (i := 2) (by simp) rfl) (by simp [Value.cells, cellsX]) rfl Try.size92) ?_
                    exact KA.done (by kernel_rfl) ⟨rfl, A.length + 0, A.length + 1, A.length + 2, thr_new (a := 0) (b := 1) (c := 2) rfl rfl rfl (by simp) (by decide) (by decide) (by decide) (by decide) (by decide) (by decide) rfl rfl (by simp [cellsX, splice, Value.cells]), by simp [Go.Vm.look, extK]⟩
              · refine KO.op rfl rfl rfl (K.alloc Try.zero92) ?_
                refine KA.next (i0 := 4) (r := []) (by kernel_rfl) ?_
                refine KAll.cons' ?_ KAll.nil'
                · refine KO.op rfl rfl rfl (K.buildS rfl (build92_o _ _ _)) ?_
                  refine KA.next (i0 := 6) (r := []) (by kernel_rfl) ?_
                  refine KAll.cons' ?_ KAll.nil'
                  · refine KO.op rfl rfl rfl (K.storeN rfl rfl (ap3_at (i := 2) (by simp) rfl) (by simp [Value.cells, cellsX]) rfl Try.size92) ?_
                    exact KA.done (by kernel_rfl) ⟨rfl, A.length + 0, A.length + 1, A.length + 2, thr_new (a := 0) (b := 1) (c := 2) rfl rfl rfl (by simp) (by decide) (by decide) (by decide) (by decide) (by decide) (by decide) rfl rfl (by simp [cellsX, splice, Value.cells]), by simp [Go.Vm.look, extK]⟩
            · refine KO.op rfl rfl rfl (K.alloc Try.zero92) ?_
              refine KA.next (i0 := 3) (r := []) (by kernel_rfl) ?_
              refine KAll.cons' ?_ KAll.nil'
              · refine KO.op rfl rfl rfl (K.make (m := 2 ^ (zL hot cold).length) rfl rfl (Nat.le_refl _) (by omega) Try.underlying23 Try.one3) ?_
                refine KA.next (i0 := 4) (r := []) (by kernel_rfl) ?_
                refine KAll.cons' ?_ KAll.nil'
                · refine KO.op rfl rfl rfl (K.buildS rfl (build92_o _ _ _)) ?_
                  refine KA.next (i0 := 6) (r := []) (by kernel_rfl) ?_
                  refine KAll.cons' ?_ KAll.nil'
                  · refine KO.op rfl rfl rfl (K.storeN rfl rfl (ap3_at (i := 1) (by simp) rfl) (by simp [Value.cells, cellsX]) rfl Try.size92) ?_
                    exact KA.done (by kernel_rfl) ⟨rfl, A.length + 0, A.length + 2, A.length + 1, thr_new (a := 0) (b := 2) (c := 1) rfl rfl rfl (by simp) (by decide) (by decide) (by decide) (by decide) (by decide) (by decide) rfl rfl (by simp [cellsX, splice, Value.cells]), by simp [Go.Vm.look, extK]⟩
          · refine KO.op rfl rfl rfl (K.alloc Try.zero92) ?_
            refine KA.next (i0 := 2) (r := []) (by kernel_rfl) ?_
            refine KAll.cons' ?_ KAll.nil'
            · refine KO.op rfl rfl rfl (K.move rfl) ?_
              refine KA.next (i0 := 3) (r := []) (by kernel_rfl) ?_
              refine KAll.cons' ?_ KAll.nil'
              · refine KO.op rfl rfl rfl (K.make (m := 2 ^ (zL hot cold).length) rfl rfl (Nat.le_refl _) (by omega) Try.underlying23 Try.one3) ?_
                refine KA.next (i0 := 4) (r := []) (by kernel_rfl) ?_
                refine KAll.cons' ?_ KAll.nil'
                · refine KO.op rfl rfl rfl (K.buildS rfl (build92_o _ _ _)) ?_
                  refine KA.next (i0 := 6) (r := []) (by kernel_rfl) ?_
                  refine KAll.cons' ?_ KAll.nil'
                  · refine KO.op rfl rfl rfl (K.storeN rfl rfl (ap3_at (i := 1) (by simp) rfl) (by simp [Value.cells, cellsX]) rfl Try.size92) ?_
                    exact KA.done (by kernel_rfl) ⟨rfl, A.length + 0, A.length + 2, A.length + 1, thr_new (a := 0) (b := 2) (c := 1) rfl rfl rfl (by simp) (by decide) (by decide) (by decide) (by decide) (by decide) (by decide) rfl rfl (by simp [cellsX, splice, Value.cells]), by simp [Go.Vm.look, extK]⟩
        · refine KO.op rfl rfl rfl (K.move rfl) ?_
          refine KA.next (i0 := 1) (r := [3, 5]) (by kernel_rfl) ?_
          refine KAll.cons' ?_ (KAll.cons' ?_ (KAll.cons' ?_ KAll.nil'))
          · refine KO.op rfl rfl rfl (K.make (m := 2 ^ (zL hot cold).length) rfl rfl (Nat.le_refl _) (by omega) Try.underlying23 Try.one3) ?_
            refine KA.next (i0 := 3) (r := [5]) (by kernel_rfl) ?_
            refine KAll.cons' ?_ (KAll.cons' ?_ KAll.nil')
            · refine KO.op rfl rfl rfl (K.make (m := 2 ^ (zL hot cold).length) rfl rfl (Nat.le_refl _) (by omega) Try.underlying23 Try.one3) ?_
              refine KA.next (i0 := 4) (r := [5]) (by kernel_rfl) ?_
              refine KAll.cons' ?_ (KAll.cons' ?_ KAll.nil')
              · refine KO.op rfl rfl rfl (K.buildS rfl (build92_o _ _ _)) ?_
                refine KA.next (i0 := 5) (r := []) (by kernel_rfl) ?_
                refine KAll.cons' ?_ KAll.nil'
                · refine KO.op rfl rfl rfl (K.alloc Try.zero92) ?_
                  refine KA.next (i0 := 6) (r := []) (by kernel_rfl) ?_
                  refine KAll.cons' ?_ KAll.nil'
                  · refine KO.op rfl rfl rfl (K.storeN rfl rfl (ap3_at (i := 2) (by simp) rfl) (by simp [Value.cells, cellsX]) rfl Try.size92) ?_
                    exact KA.done (by kernel_rfl) ⟨rfl, A.length + 0, A.length + 1, A.length + 2, thr_new (a := 0) (b := 1) (c := 2) rfl rfl rfl (by simp) (by decide) (by decide) (by decide) (by decide) (by decide) (by decide) rfl rfl (by simp [cellsX, splice, Value.cells]), by simp [Go.Vm.look, extK]⟩
              · refine KO.op rfl rfl rfl (K.alloc Try.zero92) ?_
                refine KA.next (i0 := 4) (r := []) (by kernel_rfl) ?_
                refine KAll.cons' ?_ KAll.nil'
                · refine KO.op rfl rfl rfl (K.buildS rfl (build92_o _ _ _)) ?_
                  refine KA.next (i0 := 6) (r := []) (by kernel_rfl) ?_
                  refine KAll.cons' ?_ KAll.nil'
                  · refine KO.op rfl rfl rfl (K.storeN rfl rfl (ap3_at (i := 2) (by simp) rfl) (by simp [Value.cells, cellsX]) rfl Try.size92) ?_
                    exact KA.done (by kernel_rfl) ⟨rfl, A.length + 0, A.length + 1, A.length + 2, thr_new (a := 0) (b := 1) (c := 2) rfl rfl rfl (by simp) (by decide) (by decide) (by decide) (by decide) (by decide) (by decide) rfl rfl (by simp [cellsX, splice, Value.cells]), by simp [Go.Vm.look, extK]⟩
            · refine KO.op rfl rfl rfl (K.alloc Try.zero92) ?_
              refine KA.next (i0 := 3) (r := []) (by kernel_rfl) ?_
              refine KAll.cons' ?_ KAll.nil'
              · refine KO.op rfl rfl rfl (K.make (m := 2 ^ (zL hot cold).length) rfl rfl (Nat.le_refl _) (by omega) Try.underlying23 Try.one3) ?_
                refine KA.next (i0 := 4) (r := []) (by kernel_rfl) ?_
                refine KAll.cons' ?_ KAll.nil'
                · refine KO.op rfl rfl rfl (K.buildS rfl (build92_o _ _ _)) ?_
                  refine KA.next (i0 := 6) (r := []) (by kernel_rfl) ?_
                  refine KAll.cons' ?_ KAll.nil'
                  · refine KO.op rfl rfl rfl (K.storeN rfl rfl (ap3_at (i := 1) (by simp) rfl) (by simp [Value.cells, cellsX]) rfl Try.size92) ?_
                    exact KA.done (by kernel_rfl) ⟨rfl, A.length + 0, A.length + 2, A.length + 1, thr_new (a := 0) (b := 2) (c := 1) rfl rfl rfl (by simp) (by decide) (by decide) (by decide) (by decide) (by decide) (by decide) rfl rfl (by simp [cellsX, splice, Value.cells]), by simp [Go.Vm.look, extK]⟩
          · refine KO.op rfl rfl rfl (K.make (m := 2 ^ (zL hot cold).length) rfl rfl (Nat.le_refl _) (by omega) Try.underlying23 Try.one3) ?_
            refine KA.next (i0 := 1) (r := [5]) (by kernel_rfl) ?_
            refine KAll.cons' ?_ (KAll.cons' ?_ KAll.nil')
            · refine KO.op rfl rfl rfl (K.make (m := 2 ^ (zL hot cold).length) rfl rfl (Nat.le_refl _) (by omega) Try.underlying23 Try.one3) ?_
              refine KA.next (i0 := 4) (r := [5]) (by kernel_rfl) ?_
              refine KAll.cons' ?_ (KAll.cons' ?_ KAll.nil')
              · refine KO.op rfl rfl rfl (K.buildS rfl (build92_o _ _ _)) ?_
                refine KA.next (i0 := 5) (r := []) (by kernel_rfl) ?_
                refine KAll.cons' ?_ KAll.nil'
                · refine KO.op rfl rfl rfl (K.alloc Try.zero92) ?_
                  refine KA.next (i0 := 6) (r := []) (by kernel_rfl) ?_
                  refine KAll.cons' ?_ KAll.nil'
                  · refine KO.op rfl rfl rfl (K.storeN rfl rfl (ap3_at (i := 2) (by simp) rfl) (by simp [Value.cells, cellsX]) rfl Try.size92) ?_
                    exact KA.done (by kernel_rfl) ⟨rfl, A.length + 1, A.length + 0, A.length + 2, thr_new (a := 1) (b := 0) (c := 2) rfl rfl rfl (by simp) (by decide) (by decide) (by decide) (by decide) (by decide) (by decide) rfl rfl (by simp [cellsX, splice, Value.cells]), by simp [Go.Vm.look, extK]⟩
              · refine KO.op rfl rfl rfl (K.alloc Try.zero92) ?_
                refine KA.next (i0 := 4) (r := []) (by kernel_rfl) ?_
                refine KAll.cons' ?_ KAll.nil'
                · refine KO.op rfl rfl rfl (K.buildS rfl (build92_o _ _ _)) ?_
                  refine KA.next (i0 := 6) (r := []) (by kernel_rfl) ?_
                  refine KAll.cons' ?_ KAll.nil'
                  · refine KO.op rfl rfl rfl (K.storeN rfl rfl (ap3_at (i := 2) (by simp) rfl) (by simp [Value.cells, cellsX]) rfl Try.size92) ?_
                    exact KA.done (by kernel_rfl) ⟨rfl, A.length + 1, A.length + 0, A.length + 2, thr_new (a := 1) (b := 0) (c := 2) rfl rfl rfl (by simp) (by decide) (by decide) (by decide) (by decide) (by decide) (by decide) rfl rfl (by simp [cellsX, splice, Value.cells]), by simp [Go.Vm.look, extK]⟩
            · refine KO.op rfl rfl rfl (K.alloc Try.zero92) ?_
              refine KA.next (i0 := 1) (r := []) (by kernel_rfl) ?_
              refine KAll.cons' ?_ KAll.nil'
              · refine KO.op rfl rfl rfl (K.make (m := 2 ^ (zL hot cold).length) rfl rfl (Nat.le_refl _) (by omega) Try.underlying23 Try.one3) ?_
                refine KA.next (i0 := 4) (r := []) (by kernel_rfl) ?_
                refine KAll.cons' ?_ KAll.nil'
                · refine KO.op rfl rfl rfl (K.buildS rfl (build92_o _ _ _)) ?_
                  refine KA.next (i0 := 6) (r := []) (by kernel_rfl) ?_
                  refine KAll.cons' ?_ KAll.nil'
                  · refine KO.op rfl rfl rfl (K.storeN rfl rfl (ap3_at (i := 1) (by simp) rfl) (by simp [Value.cells, cellsX]) rfl Try.size92) ?_
                    exact KA.done (by kernel_rfl) ⟨rfl, A.length + 2, A.length + 0, A.length + 1, thr_new (a := 2) (b := 0) (c := 1) rfl rfl rfl (by simp) (by decide) (by decide) (by decide) (by decide) (by decide) (by decide) rfl rfl (by simp [cellsX, splice, Value.cells]), by simp [Go.Vm.look, extK]⟩
          · refine KO.op rfl rfl rfl (K.alloc Try.zero92) ?_
            refine KA.next (i0 := 1) (r := [3]) (by kernel_rfl) ?_
            refine KAll.cons' ?_ (KAll.cons' ?_ KAll.nil')
            · refine KO.op rfl rfl rfl (K.make (m := 2 ^ (zL hot cold).length) rfl rfl (Nat.le_refl _) (by omega) Try.underlying23 Try.one3) ?_
              refine KA.next (i0 := 3) (r := []) (by kernel_rfl) ?_
              refine KAll.cons' ?_ KAll.nil'
              · refine KO.op rfl rfl rfl (K.make (m := 2 ^ (zL hot cold).length) rfl rfl (Nat.le_refl _) (by omega) Try.underlying23 Try.one3) ?_
                refine KA.next (i0 := 4) (r := []) (by kernel_rfl) ?_
                refine KAll.cons' ?_ KAll.nil'
                · refine KO.op rfl rfl rfl (K.buildS rfl (build92_o _ _ _)) ?_
                  refine KA.next (i0 := 6) (r := []) (by kernel_rfl) ?_
                  refine KAll.cons' ?_ KAll.nil'
                  · refine KO.op rfl rfl rfl (K.storeN rfl rfl (ap3_at (i := 0) (by simp) rfl) (by simp [Value.cells, cellsX]) rfl Try.size92) ?_
                    exact KA.done (by kernel_rfl) ⟨rfl, A.length + 1, A.length + 2, A.length + 0, thr_new (a := 1) (b := 2) (c := 0) rfl rfl rfl (by simp) (by decide) (by decide) (by decide) (by decide) (by decide) (by decide) rfl rfl (by simp [cellsX, splice, Value.cells]), by simp [Go.Vm.look, extK]⟩
            · refine KO.op rfl rfl rfl (K.make (m := 2 ^ (zL hot cold).length) rfl rfl (Nat.le_refl _) (by omega) Try.underlying23 Try.one3) ?_
              refine KA.next (i0 := 1) (r := []) (by kernel_rfl) ?_
              refine KAll.cons' ?_ KAll.nil'
              · refine KO.op rfl rfl rfl (K.make (m := 2 ^ (zL hot cold).length) rfl rfl (Nat.le_refl _) (by omega) Try.underlying23 Try.one3) ?_
                refine KA.next (i0 := 4) (r := []) (by kernel_rfl) ?_
                refine KAll.cons' ?_ KAll.nil'
                · refine KO.op rfl rfl rfl (K.buildS rfl (build92_o _ _ _)) ?_
                  refine KA.next (i0 := 6) (r := []) (by kernel_rfl) ?_
                  refine KAll.cons' ?_ KAll.nil'
                  · refine KO.op rfl rfl rfl (K.storeN rfl rfl (ap3_at (i := 0) (by simp) rfl) (by simp [Value.cells, cellsX]) rfl Try.size92) ?_
                    exact KA.done (by kernel_rfl) ⟨rfl, A.length + 2, A.length + 1, A.length + 0, thr_new (a := 2) (b := 1) (c := 0) rfl rfl rfl (by simp) (by decide) (by decide) (by decide) (by decide) (by decide) (by decide) rfl rfl (by simp [cellsX, splice, Value.cells]), by simp [Go.Vm.look, extK]⟩
        · refine KO.op rfl rfl rfl (K.alloc Try.zero92) ?_
          refine KA.next (i0 := 1) (r := [2]) (by kernel_rfl) ?_
          refine KAll.cons' ?_ (KAll.cons' ?_ KAll.nil')
          · refine KO.op rfl rfl rfl (K.make (m := 2 ^ (zL hot cold).length) rfl rfl (Nat.le_refl _) (by omega) Try.underlying23 Try.one3) ?_
            refine KA.next (i0 := 2) (r := []) (by kernel_rfl) ?_
            refine KAll.cons' ?_ KAll.nil'
            · refine KO.op rfl rfl rfl (K.move rfl) ?_
              refine KA.next (i0 := 3) (r := []) (by kernel_rfl) ?_
              refine KAll.cons' ?_ KAll.nil'
              · refine KO.op rfl rfl rfl (K.make (m := 2 ^ (zL hot cold).length) rfl rfl (Nat.le_refl _) (by omega) Try.underlying23 Try.one3) ?_
                refine KA.next (i0 := 4) (r := []) (by kernel_rfl) ?_
                refine KAll.cons' ?_ KAll.nil'
                · refine KO.op rfl rfl rfl (K.buildS rfl (build92_o _ _ _)) ?_
                  refine KA.next (i0 := 6) (r := []) (by kernel_rfl) ?_
                  refine KAll.cons' ?_ KAll.nil'
                  · refine KO.op rfl rfl rfl (K.storeN rfl rfl (ap3_at (i := 0) (by simp) rfl) (by simp [Value.cells, cellsX]) rfl Try.size92) ?_
                    exact KA.done (by kernel_rfl) ⟨rfl, A.length + 1, A.length + 2, A.length + 0, thr_new (a := 1) (b := 2) (c := 0) rfl rfl rfl (by simp) (by decide) (by decide) (by decide) (by decide) (by decide) (by decide) rfl rfl (by simp [cellsX, splice, Value.cells]), by simp [Go.Vm.look, extK]⟩
          · refine KO.op rfl rfl rfl (K.move rfl) ?_
            refine KA.next (i0 := 1) (r := [3]) (by kernel_rfl) ?_
            refine KAll.cons' ?_ (KAll.cons' ?_ KAll.nil')
            · refine KO.op rfl rfl rfl (K.make (m := 2 ^ (zL hot cold).length) rfl rfl (Nat.le_refl _) (by omega) Try.underlying23 Try.one3) ?_
              refine KA.next (i0 := 3) (r := []) (by kernel_rfl) ?_
              refine KAll.cons' ?_ KAll.nil'
              · refine KO.op rfl rfl rfl (K.make (m := 2 ^ (zL hot cold).length) rfl rfl (Nat.le_refl _) (by omega) Try.underlying23 Try.one3) ?_
                refine KA.next (i0 := 4) (r := []) (by kernel_rfl) ?_
                refine KAll.cons' ?_ KAll.nil'
                · refine KO.op rfl rfl rfl (K.buildS rfl (build92_o _ _ _)) ?_
                  refine KA.next (i0 := 6) (r := []) (by kernel_rfl) ?_
                  refine KAll.cons' ?_ KAll.nil'
                  · refine KO.op rfl rfl rfl (K.storeN rfl rfl (ap3_at (i := 0) (by simp) rfl) (by simp [Value.cells, cellsX]) rfl Try.size92) ?_
                    exact KA.done (by kernel_rfl) ⟨rfl, A.length + 1, A.length + 2, A.length + 0, thr_new (a := 1) (b := 2) (c := 0) rfl rfl rfl (by simp) (by decide) (by decide) (by decide) (by decide) (by decide) (by decide) rfl rfl (by simp [cellsX, splice, Value.cells]), by simp [Go.Vm.look, extK]⟩
            · refine KO.op rfl rfl rfl (K.make (m := 2 ^ (zL hot cold).length) rfl rfl (Nat.le_refl _) (by omega) Try.underlying23 Try.one3) ?_
              refine KA.next (i0 := 1) (r := []) (by kernel_rfl) ?_
              refine KAll.cons' ?_ KAll.nil'
              · refine KO.op rfl rfl rfl (K.make (m := 2 ^ (zL hot cold).length) rfl rfl (Nat.le_refl _) (by omega) Try.underlying23 Try.one3) ?_
                refine KA.next (i0 := 4) (r := []) (by kernel_rfl) ?_
                refine KAll.cons' ?_ KAll.nil'
                · refine KO.op rfl rfl rfl (K.buildS rfl (build92_o _ _ _)) ?_
                  refine KA.next (i0 := 6) (r := []) (by kernel_rfl) ?_
                  refine KAll.cons' ?_ KAll.nil'
                  · refine KO.op rfl rfl rfl (K.storeN rfl rfl (ap3_at (i := 0) (by simp) rfl) (by simp [Value.cells, cellsX]) rfl Try.size92) ?_
                    exact KA.done (by kernel_rfl) ⟨rfl, A.length + 2, A.length + 1, A.length + 0, thr_new (a := 2) (b := 1) (c := 0) rfl rfl rfl (by simp) (by decide) (by decide) (by decide) (by decide) (by decide) (by decide) rfl rfl (by simp [cellsX, splice, Value.cells]), by simp [Go.Vm.look, extK]⟩
      · refine KO.op rfl rfl rfl (K.move rfl) ?_
        refine KA.next (i0 := 0) (r := [3, 5]) (by kernel_rfl) ?_
        refine KAll.cons' ?_ (KAll.cons' ?_ (KAll.cons' ?_ KAll.nil'))
        · refine KO.op rfl rfl rfl (K.move rfl) ?_
          refine KA.next (i0 := 1) (r := [3, 5]) (by kernel_rfl) ?_
          refine KAll.cons' ?_ (KAll.cons' ?_ (KAll.cons' ?_ KAll.nil'))
          · refine KO.op rfl rfl rfl (K.make (m := 2 ^ (zL hot cold).length) rfl rfl (Nat.le_refl _) (by omega) Try.underlying23 Try.one3) ?_
            refine KA.next (i0 := 3) (r := [5]) (by kernel_rfl) ?_
            refine KAll.cons' ?_ (KAll.cons' ?_ KAll.nil')
            · refine KO.op rfl rfl rfl (K.make (m := 2 ^ (zL hot cold).length) rfl rfl (Nat.le_refl _) (by omega) Try.underlying23 Try.one3) ?_
              refine KA.next (i0 := 4) (r := [5]) (by kernel_rfl) ?_
              refine KAll.cons' ?_ (KAll.cons' ?_ KAll.nil')
              · refine KO.op rfl rfl rfl (K.buildS rfl (build92_o _ _ _)) ?_
                refine KA.next (i0 := 5) (r := []) (by kernel_rfl) ?_
                refine KAll.cons' ?_ KAll.nil'
                · refine KO.op rfl rfl rfl (K.alloc Try.zero92) ?_
                  refine KA.next (i0 := 6) (r := []) (by kernel_rfl) ?_
                  refine KAll.cons' ?_ KAll.nil'
                  · refine KO.op rfl rfl rfl (K.storeN rfl rfl (ap3_at (i := 2) (by simp) rfl) (by simp [Value.cells, cellsX]) rfl Try.size92) ?_
                    exact KA.done (by kernel_rfl) ⟨rfl, A.length + 0, A.length + 1, A.length + 2, thr_new (a := 0) (b := 1) (c := 2) rfl rfl rfl (by simp) (by decide) (by decide) (by decide) (by decide) (by decide) (by decide) rfl rfl (by simp [cellsX, splice, Value.cells]), by simp [Go.Vm.look, extK]⟩
              · refine KO.op rfl rfl rfl (K.alloc Try.zero92) ?_
                refine KA.next (i0 := 4) (r := []) (by kernel_rfl) ?_
                refine KAll.cons' ?_ KAll.nil'
                · refine KO.op rfl rfl rfl (K.buildS rfl (build92_o _ _ _)) ?_
                  refine KA.next (i0 := 6) (r := []) (by kernel_rfl) ?_
                  refine KAll.cons' ?_ KAll.nil'
                  · refine KO.op rfl rfl rfl (K.storeN rfl rfl (ap3_at (i := 2) (by simp) rfl) (by simp [Value.cells, cellsX]) rfl Try.size92) ?_
                    exact KA.done (by kernel_rfl) ⟨rfl, A.length + 0, A.length + 1, A.length + 2, thr_new (a := 0) (b := 1) (c := 2) rfl rfl rfl (by simp) (by decide) (by decide) (by decide) (by decide) (by decide) (by decide) rfl rfl (by simp [cellsX, splice, Value.cells]), by simp [Go.Vm.look, extK]⟩
            · refine KO.op rfl rfl rfl (K.alloc Try.zero92) ?_
              refine KA.next (i0 := 3) (r := []) (by kernel_rfl) ?_
              refine KAll.cons' ?_ KAll.nil'
              · refine KO.op rfl rfl rfl (K.make (m := 2 ^ (zL hot cold).length) rfl rfl (Nat.le_refl _) (by omega) Try.underlying23 Try.one3) ?_
                refine KA.next (i0 := 4) (r := []) (by kernel_rfl) ?_
                refine KAll.cons' ?_ KAll.nil'
                · refine KO.op rfl rfl rfl (K.buildS rfl (build92_o _ _ _)) ?_
                  refine KA.next (i0 := 6) (r := []) (by kernel_rfl) ?_
                  refine KAll.cons' ?_ KAll.nil'
                  · refine KO.op rfl rfl rfl (K.storeN rfl rfl (ap3_at (i := 1) (by simp) rfl) (by simp [Value.cells, cellsX]) rfl Try.size92) ?_
                    exact KA.done (by kernel_rfl) ⟨rfl, A.length + 0, A.length + 2, A.length + 1, thr_new (a := 0) (b := 2) (c := 1) rfl rfl rfl (by simp) (by decide) (by decide) (by decide) (by decide) (by decide) (by decide) rfl rfl (by simp [cellsX, splice, Value.cells]), by simp [Go.Vm.look, extK]⟩
          · refine KO.op rfl rfl rfl (K.make (m := 2 ^ (zL hot cold).length) rfl rfl (Nat.le_refl _) (by omega) Try.underlying23 Try.one3) ?_
            refine KA.next (i0 := 1) (r := [5]) (by kernel_rfl) ?_
            refine KAll.cons' ?_ (KAll.cons' ?_ KAll.nil')
            · refine KO.op rfl rfl rfl (K.make (m := 2 ^ (zL hot cold).length) rfl rfl (Nat.le_refl _) (by omega) Try.underlying23 Try.one3) ?_
              refine KA.next (i0 := 4) (r := [5]) (by kernel_rfl) ?_
              refine KAll.cons' ?_ (KAll.cons' ?_ KAll.nil')
              · refine KO.op rfl rfl rfl (K.buildS rfl (build92_o _ _ _)) ?_
                refine KA.next (i0 := 5) (r := []) (by kernel_rfl) ?_
                refine KAll.cons' ?_ KAll.nil'
                · refine KO.op rfl rfl rfl (K.alloc Try.zero92) ?_
                  refine KA.next (i0 := 6) (r := []) (by kernel_rfl) ?_
                  refine KAll.cons' ?_ KAll.nil'
                  · refine KO.op rfl rfl rfl (K.storeN rfl rfl (ap3_at (i := 2) (by simp) rfl) (by simp [Value.cells, cellsX]) rfl Try.size92) ?_
                    exact KA.done (by kernel_rfl) ⟨rfl, A.length + 1, A.length + 0, A.length + 2, thr_new (a := 1) (b := 0) (c := 2) rfl rfl rfl (by simp) (by decide) (by decide) (by decide) (by decide) (by decide) (by decide) rfl rfl (by simp [cellsX, splice, Value.cells]), by simp [Go.Vm.look, extK]⟩
              · refine KO.op rfl rfl rfl (K.alloc Try.zero92) ?_
                refine KA.next (i0 := 4) (r := []) (by kernel_rfl) ?_
                refine KAll.cons' ?_ KAll.nil'
                · refine KO.op rfl rfl rfl (K.buildS rfl (build92_o _ _ _)) ?_
                  refine KA.next (i0 := 6) (r := []) (by kernel_rfl) ?_
                  refine KAll.cons' ?_ KAll.nil'
                  · refine KO.op rfl rfl rfl (K.storeN rfl rfl (ap3_at (i := 2) (by simp) rfl) (by simp [Value.cells, cellsX]) rfl Try.size92) ?_
                    exact KA.done (by kernel_rfl) ⟨rfl, A.length + 1, A.length + 0, A.length + 2, thr_new (a := 1) (b := 0) (c := 2) rfl rfl rfl (by simp) (by decide) (by decide) (by decide) (by decide) (by decide) (by decide) rfl rfl (by simp [cellsX, splice, Value.cells]), by simp [Go.Vm.look, extK]⟩
            · refine KO.op rfl rfl rfl (K.alloc Try.zero92) ?_
              refine KA.next (i0 := 1) (r := []) (by kernel_rfl) ?_
              refine KAll.cons' ?_ KAll.nil'
              · refine KO.op rfl rfl rfl (K.make (m := 2 ^ (zL hot cold).length) rfl rfl (Nat.le_refl _) (by omega) Try.underlying23 Try.one3) ?_
                refine KA.next (i0 := 4) (r := []) (by kernel_rfl) ?_
                refine KAll.cons' ?_ KAll.nil'
                · refine KO.op rfl rfl rfl (K.buildS rfl (build92_o _ _ _)) ?_
                  refine KA.next (i0 := 6) (r := []) (by kernel_rfl) ?_
                  refine KAll.cons' ?_ KAll.nil'
                  · refine KO.op rfl rfl rfl (K.storeN rfl rfl (ap3_at (i := 1) (by simp) rfl) (by simp [Value.cells, cellsX]) rfl Try.size92) ?_
                    exact KA.done (by kernel_rfl) ⟨rfl, A.length + 2, A.length + 0, A.length + 1, thr_new (a := 2) (b := 0) (c := 1) rfl rfl rfl (by simp) (by decide) (by decide) (by decide) (by decide) (by decide) (by decide) rfl rfl (by simp [cellsX, splice, Value.cells]), by simp [Go.Vm.look, extK]⟩
          · refine KO.op rfl rfl rfl (K.alloc Try.zero92) ?_
            refine KA.next (i0 := 1) (r := [3]) (by kernel_rfl) ?_
            refine KAll.cons' ?_ (KAll.cons' ?_ KAll.nil')
            · refine KO.op rfl rfl rfl (K.make (m := 2 ^ (zL hot cold).length) rfl rfl (Nat.le_refl _) (by omega) Try.underlying23 Try.one3) ?_
              refine KA.next (i0 := 3) (r := []) (by kernel_rfl) ?_
              refine KAll.cons' ?_ KAll.nil'
              · refine KO.op rfl rfl rfl (K.make (m := 2 ^ (zL hot cold).length) rfl rfl (Nat.le_refl _) (by omega) Try.underlying23 Try.one3) ?_
                refine KA.next (i0 := 4) (r := []) (by kernel_rfl) ?_
                refine KAll.cons' ?_ KAll.nil'
                · refine KO.op rfl rfl rfl (K.buildS rfl (build92_o _ _ _)) ?_
                  refine KA.next (i0 := 6) (r := []) (by kernel_rfl) ?_
                  refine KAll.cons' ?_ KAll.nil'
                  · refine KO.op rfl rfl rfl (K.storeN rfl rfl (ap3_at (i := 0) (by simp) rfl) (by simp [Value.cells, cellsX]) rfl Try.size92) ?_
                    exact KA.done (by kernel_rfl) ⟨rfl, A.length + 1, A.length + 2, A.length + 0, thr_new (a := 1) (b := 2) (c := 0) rfl rfl rfl (by simp) (by decide) (by decide) (by decide) (by decide) (by decide) (by decide) rfl rfl (by simp [cellsX, splice, Value.cells]), by simp [Go.Vm.look, extK]⟩
            · refine KO.op rfl rfl rfl (K.make (m := 2 ^ (zL hot cold).length) rfl rfl (Nat.le_refl _) (by omega) Try.underlying23 Try.one3) ?_
              refine KA.next (i0 := 1) (r := []) (by kernel_rfl) ?_
              refine KAll.cons' ?_ KAll.nil'
              · refine KO.op rfl rfl rfl (K.make (m := 2 ^ (zL hot cold).length) rfl rfl (Nat.le_refl _) (by omega) Try.underlying23 Try.one3) ?_
                refine KA.next (i0 := 4) (r := []) (by kernel_rfl) ?_
                refine KAll.cons' ?_ KAll.nil'
                · refine KO.op rfl rfl rfl (K.buildS rfl (build92_o _ _ _)) ?_
                  refine KA.next (i0 := 6) (r := []) (by kernel_rfl) ?_
                  refine KAll.cons' ?_ KAll.nil'
                  · refine KO.op rfl rfl rfl (K.storeN rfl rfl (ap3_at (i := 0) (by simp) rfl) (by simp [Value.cells, cellsX]) rfl Try.size92) ?_
                    exact KA.done (by kernel_rfl) ⟨rfl, A.length + 2, A.length + 1, A.length + 0, thr_new (a := 2) (b := 1) (c := 0) rfl rfl rfl (by simp) (by decide) (by decide) (by decide) (by decide) (by decide) (by decide) rfl rfl (by simp [cellsX, splice, Value.cells]), by simp [Go.Vm.look, extK]⟩
        · refine KO.op rfl rfl rfl (K.make (m := 2 ^ (zL hot cold).length) rfl rfl (Nat.le_refl _) (by omega) Try.underlying23 Try.one3) ?_
          refine KA.next (i0 := 0) (r := [5]) (by kernel_rfl) ?_
          refine KAll.cons' ?_ (KAll.cons' ?_ KAll.nil')
          · refine KO.op rfl rfl rfl (K.move rfl) ?_
            refine KA.next (i0 := 1) (r := [5]) (by kernel_rfl) ?_
            refine KAll.cons' ?_ (KAll.cons' ?_ KAll.nil')
            · refine KO.op rfl rfl rfl (K.make (m := 2 ^ (zL hot cold).length) rfl rfl (Nat.le_refl _) (by omega) Try.underlying23 Try.one3) ?_
              refine KA.next (i0 := 4) (r := [5]) (by kernel_rfl) ?_
              refine KAll.cons' ?_ (KAll.cons' ?_ KAll.nil')
              · refine KO.op rfl rfl rfl (K.buildS rfl (build92_o _ _ _)) ?_
                refine KA.next (i0 := 5) (r := []) (by kernel_rfl) ?_
                refine KAll.cons' ?_ KAll.nil'
                · refine KO.op rfl rfl rfl (K.alloc Try.zero92) ?_
                  refine KA.next (i0 := 6) (r := []) (by kernel_rfl) ?_
                  refine KAll.cons' ?_ KAll.nil'
                  · refine KO.op rfl rfl rfl (K.storeN rfl rfl (ap3_at (i := 2) (by simp) rfl) (by simp [Value.cells, cellsX]) rfl Try.size92) ?_
                    exact KA.done (by kernel_rfl) ⟨rfl, A.length + 1, A.length + 0, A.length + 2, thr_new (a := 1) (b := 0) (c := 2) rfl rfl rfl (by simp) (by decide) (by decide) (by decide) (by decide) (by decide) (by decide) rfl rfl (by simp [cellsX, splice, Value.cells]), by simp [Go.Vm.look, extK]⟩
              · refine KO.op rfl rfl rfl (K.alloc Try.zero92) ?_
                refine KA.next (i0 := 4) (r := []) (by kernel_rfl) ?_
                refine KAll.cons' ?_ KAll.nil'
                · refine KO.op rfl rfl rfl (K.buildS rfl (build92_o _ _ _)) ?_
                  refine KA.next (i0 := 6) (r := []) (by kernel_rfl) ?_
                  refine KAll.cons' ?_ KAll.nil'
                  · refine KO.op rfl rfl rfl (K.storeN rfl rfl (ap3_at (i := 2) (by simp) rfl) (by simp [Value.cells, cellsX]) rfl Try.size92) ?_
                    exact KA.done (by kernel_rfl) ⟨rfl, A.length + 1, A.length + 0, A.length + 2, thr_new (a := 1) (b := 0) (c := 2) rfl rfl rfl (by simp) (by decide) (by decide) (by decide) (by decide) (by decide) (by decide) rfl rfl (by simp [cellsX, splice, Value.cells]), by simp [Go.Vm.look, extK]⟩
            · refine KO.op rfl rfl rfl (K.alloc Try.zero92) ?_
              refine KA.next (i0 := 1) (r := []) (by kernel_rfl) ?_
              refine KAll.cons' ?_ KAll.nil'
              · refine KO.op rfl rfl rfl (K.make (m := 2 ^ (zL hot cold).length) rfl rfl (Nat.le_refl _) (by omega) Try.underlying23 Try.one3) ?_
                refine KA.next (i0 := 4) (r := []) (by kernel_rfl) ?_
                refine KAll.cons' ?_ KAll.nil'
                · refine KO.op rfl rfl rfl (K.buildS rfl (build92_o _ _ _)) ?_
                  refine KA.next (i0 := 6) (r := []) (by kernel_rfl) ?_
                  refine KAll.cons' ?_ KAll.nil'
                  · refine KO.op rfl rfl rfl (K.storeN rfl rfl (ap3_at (i := 1) (by simp) rfl) (by simp [Value.cells, cellsX]) rfl Try.size92) ?_
                    exact KA.done (by kernel_rfl) ⟨rfl, A.length + 2, A.length + 0, A.length + 1, thr_new (a := 2) (b := 0) (c := 1) rfl rfl rfl (by simp) (by decide) (by decide) (by decide) (by decide) (by decide) (by decide) rfl rfl (by simp [cellsX, splice, Value.cells]), by simp [Go.Vm.look, extK]⟩
          · refine KO.op rfl rfl rfl (K.alloc Try.zero92) ?_
            refine KA.next (i0 := 0) (r := []) (by kernel_rfl) ?_
            refine KAll.cons' ?_ KAll.nil'
            · refine KO.op rfl rfl rfl (K.move rfl) ?_
              refine KA.next (i0 := 1) (r := []) (by kernel_rfl) ?_
              refine KAll.cons' ?_ KAll.nil'
              · refine KO.op rfl rfl rfl (K.make (m := 2 ^ (zL hot cold).length) rfl rfl (Nat.le_refl _) (by omega) Try.underlying23 Try.one3) ?_
                refine KA.next (i0 := 4) (r := []) (by kernel_rfl) ?_
                refine KAll.cons' ?_ KAll.nil'
                · refine KO.op rfl rfl rfl (K.buildS rfl (build92_o _ _ _)) ?_
                  refine KA.next (i0 := 6) (r := []) (by kernel_rfl) ?_
                  refine KAll.cons' ?_ KAll.nil'
                  · refine KO.op rfl rfl rfl (K.storeN rfl rfl (ap3_at (i := 1) (by simp) rfl) (by simp [Value.cells, cellsX]) rfl Try.size92) ?_
                    exact KA.done (by kernel_rfl) ⟨rfl, A.length + 2, A.length + 0, A.length + 1, thr_new (a := 2) (b := 0) (c := 1) rfl rfl rfl (by simp) (by decide) (by decide) (by decide) (by decide) (by decide) (by decide) rfl rfl (by simp [cellsX, splice, Value.cells]), by simp [Go.Vm.look, extK]⟩
        · refine KO.op rfl rfl rfl (K.alloc Try.zero92) ?_
          refine KA.next (i0 := 0) (r := [3]) (by kernel_rfl) ?_
          refine KAll.cons' ?_ (KAll.cons' ?_ KAll.nil')
          · refine KO.op rfl rfl rfl (K.move rfl) ?_
            refine KA.next (i0 := 1) (r := [3]) (by kernel_rfl) ?_
            refine KAll.cons' ?_ (KAll.cons' ?_ KAll.nil')
            · refine KO.op rfl rfl rfl (K.make (m := 2 ^ (zL hot cold).length) rfl rfl (Nat.le_refl _) (by omega) Try.underlying23 Try.one3) ?_
              refine KA.next (i0 := 3) (r := []) (by kernel_rfl) ?_
              refine KAll.cons' ?_ KAll.nil'
              · refine KO.op rfl rfl rfl (K.make (m := 2 ^ (zL hot cold).length) rfl rfl (Nat.le_refl _) (by omega) Try.underlying23 Try.one3) ?_
                refine KA.next (i0 := 4) (r := []) (by kernel_rfl) ?_
                refine KAll.cons' ?_ KAll.nil'
                · refine KO.op rfl rfl rfl (K.buildS rfl (build92_o _ _ _)) ?_
                  refine KA.next (i0 := 6) (r := []) (by kernel_rfl) ?_
                  refine KAll.cons' ?_ KAll.nil'
                  · refine KO.op rfl rfl rfl (K.storeN rfl rfl (ap3_at (i := 0) (by simp) rfl) (by simp [Value.cells, cellsX]) rfl Try.size92) ?_
                    exact KA.done (by kernel_rfl) ⟨rfl, A.length + 1, A.length + 2, A.length + 0, thr_new (a := 1) (b := 2) (c := 0) rfl rfl rfl (by simp) (by decide) (by decide) (by decide) (by decide) (by decide) (by decide) rfl rfl (by simp [cellsX, splice, Value.cells]), by simp [Go.Vm.look, extK]⟩
            · refine KO.op rfl rfl rfl (K.make (m := 2 ^ (zL hot cold).length) rfl rfl (Nat.le_refl _) (by omega) Try.underlying23 Try.one3) ?_
              refine KA.next (i0 := 1) (r := []) (by kernel_rfl) ?_
              refine KAll.cons' ?_ KAll.nil'
              · refine KO.op rfl rfl rfl (K.make (m := 2 ^ (zL hot cold).length) rfl rfl (Nat.le_refl _) (by omega) Try.underlying23 Try.one3) ?_
                refine KA.next (i0 := 4) (r := []) (by kernel_rfl) ?_
                refine KAll.cons' ?_ KAll.nil'
                · refine KO.op rfl rfl rfl (K.buildS rfl (build92_o _ _ _)) ?_
                  refine KA.next (i0 := 6) (r := []) (by kernel_rfl) ?_
                  refine KAll.cons' ?_ KAll.nil'
                  · refine KO.op rfl rfl rfl (K.storeN rfl rfl (ap3_at (i := 0) (by simp) rfl) (by simp [Value.cells, cellsX]) rfl Try.size92) ?_
                    exact KA.done (by kernel_rfl) ⟨rfl, A.length + 2, A.length + 1, A.length + 0, thr_new (a := 2) (b := 1) (c := 0) rfl rfl rfl (by simp) (by decide) (by decide) (by decide) (by decide) (by decide) (by decide) rfl rfl (by simp [cellsX, splice, Value.cells]), by simp [Go.Vm.look, extK]⟩
          · refine KO.op rfl rfl rfl (K.make (m := 2 ^ (zL hot cold).length) rfl rfl (Nat.le_refl _) (by omega) Try.underlying23 Try.one3) ?_
            refine KA.next (i0 := 0) (r := []) (by kernel_rfl) ?_
            refine KAll.cons' ?_ KAll.nil'
            · refine KO.op rfl rfl rfl (K.move rfl) ?_
              refine KA.next (i0 := 1) (r := []) (by kernel_rfl) ?_
              refine KAll.cons' ?_ KAll.nil'
              · refine KO.op rfl rfl rfl (K.make (m := 2 ^ (zL hot cold).length) rfl rfl (Nat.le_refl _) (by omega) Try.underlying23 Try.one3) ?_
                refine KA.next (i0 := 4) (r := []) (by kernel_rfl) ?_
                refine KAll.cons' ?_ KAll.nil'
                · refine KO.op rfl rfl rfl (K.buildS rfl (build92_o _ _ _)) ?_
                  refine KA.next (i0 := 6) (r := []) (by kernel_rfl) ?_
                  refine KAll.cons' ?_ KAll.nil'
                  · refine KO.op rfl rfl rfl (K.storeN rfl rfl (ap3_at (i := 0) (by simp) rfl) (by simp [Value.cells, cellsX]) rfl Try.size92) ?_
                    exact KA.done (by kernel_rfl) ⟨rfl, A.length + 2, A.length + 1, A.length + 0, thr_new (a := 2) (b := 1) (c := 0) rfl rfl rfl (by simp) (by decide) (by decide) (by decide) (by decide) (by decide) (by decide) rfl rfl (by simp [cellsX, splice, Value.cells]), by simp [Go.Vm.look, extK]⟩
      · refine KO.op rfl rfl rfl (K.alloc Try.zero92) ?_
        refine KA.next (i0 := 0) (r := [2]) (by kernel_rfl) ?_
        refine KAll.cons' ?_ (KAll.cons' ?_ KAll.nil')
        · refine KO.op rfl rfl rfl (K.move rfl) ?_
          refine KA.next (i0 := 1) (r := [2]) (by kernel_rfl) ?_
          refine KAll.cons' ?_ (KAll.cons' ?_ KAll.nil')
          · refine KO.op rfl rfl rfl (K.make (m := 2 ^ (zL hot cold).length) rfl rfl (Nat.le_refl _) (by omega) Try.underlying23 Try.one3) ?_
            refine KA.next (i0 := 2) (r := []) (by kernel_rfl) ?_
            refine KAll.cons' ?_ KAll.nil'
            · refine KO.op rfl rfl rfl (K.move rfl) ?_
              refine KA.next (i0 := 3) (r := []) (by kernel_rfl) ?_
              refine KAll.cons' ?_ KAll.nil'
              · refine KO.op rfl rfl rfl (K.make (m := 2 ^ (zL hot cold).length) rfl rfl (Nat.le_refl _) (by omega) Try.underlying23 Try.one3) ?_
                refine KA.next (i0 := 4) (r := []) (by kernel_rfl) ?_
                refine KAll.cons' ?_ KAll.nil'
                · refine KO.op rfl rfl rfl (K.buildS rfl (build92_o _ _ _)) ?_
                  refine KA.next (i0 := 6) (r := []) (by kernel_rfl) ?_
                  refine KAll.cons' ?_ KAll.nil'
                  · refine KO.op rfl rfl rfl (K.storeN rfl rfl (ap3_at (i := 0) (by simp) rfl) (by simp [Value.cells, cellsX]) rfl Try.size92) ?_
                    exact KA.done (by kernel_rfl) ⟨rfl, A.length + 1, A.length + 2, A.length + 0, thr_new (a := 1) (b := 2) (c := 0) rfl rfl rfl (by simp) (by decide) (by decide) (by decide) (by decide) (by decide) (by decide) rfl rfl (by simp [cellsX, splice, Value.cells]), by simp [Go.Vm.look, extK]⟩
          · refine KO.op rfl rfl rfl (K.move rfl) ?_
            refine KA.next (i0 := 1) (r := [3]) (by kernel_rfl) ?_
            refine KAll.cons' ?_ (KAll.cons' ?_ KAll.nil')
            · refine KO.op rfl rfl rfl (K.make (m := 2 ^ (zL hot cold).length) rfl rfl (Nat.le_refl _) (by omega) Try.underlying23 Try.one3) ?_
              refine KA.next (i0 := 3) (r := []) (by kernel_rfl) ?_
              refine KAll.cons' ?_ KAll.nil'
              · refine KO.op rfl rfl rfl (K.make (m := 2 ^ (zL hot cold).length) rfl rfl (Nat.le_refl _) (by omega) Try.underlying23 Try.one3) ?_
                refine KA.next (i0 := 4) (r := []) (by kernel_rfl) ?_
                refine KAll.cons' ?_ KAll.nil'
                · refine KO.op rfl rfl rfl (K.buildS rfl (build92_o _ _ _)) ?_
                  refine KA.next (i0 := 6) (r := []) (by kernel_rfl) ?_
                  refine KAll.cons' ?_ KAll.nil'
                  · refine KO.op rfl rfl rfl (K.storeN rfl rfl (ap3_at (i := 0) (by simp) rfl) (by simp [Value.cells, cellsX]) rfl Try.size92) ?_
                    exact KA.done (by kernel_rfl) ⟨rfl, A.length + 1, A.length + 2, A.length + 0, thr_new (a := 1) (b := 2) (c := 0) rfl rfl rfl (by simp) (by decide) (by decide) (by decide) (by decide) (by decide) (by decide) rfl rfl (by simp [cellsX, splice, Value.cells]), by simp [Go.Vm.look, extK]⟩
            · refine KO.op rfl rfl rfl (K.make (m := 2 ^ (zL hot cold).length) rfl rfl (Nat.le_refl _) (by omega) Try.underlying23 Try.one3) ?_
              refine KA.next (i0 := 1) (r := []) (by kernel_rfl) ?_
              refine KAll.cons' ?_ KAll.nil'
              · refine KO.op rfl rfl rfl (K.make (m := 2 ^ (zL hot cold).length) rfl rfl (Nat.le_refl _) (by omega) Try.underlying23 Try.one3) ?_
                refine KA.next (i0 := 4) (r := []) (by kernel_rfl) ?_
                refine KAll.cons' ?_ KAll.nil'
                · refine KO.op rfl rfl rfl (K.buildS rfl (build92_o _ _ _)) ?_
                  refine KA.next (i0 := 6) (r := []) (by kernel_rfl) ?_
                  refine KAll.cons' ?_ KAll.nil'
                  · refine KO.op rfl rfl rfl (K.storeN rfl rfl (ap3_at (i := 0) (by simp) rfl) (by simp [Value.cells, cellsX]) rfl Try.size92) ?_
                    exact KA.done (by kernel_rfl) ⟨rfl, A.length + 2, A.length + 1, A.length + 0, thr_new (a := 2) (b := 1) (c := 0) rfl rfl rfl (by simp) (by decide) (by decide) (by decide) (by decide) (by decide) (by decide) rfl rfl (by simp [cellsX, splice, Value.cells]), by simp [Go.Vm.look, extK]⟩
        · refine KO.op rfl rfl rfl (K.move rfl) ?_
          refine KA.next (i0 := 0) (r := [3]) (by kernel_rfl) ?_
          refine KAll.cons' ?_ (KAll.cons' ?_ KAll.nil')
          · refine KO.op rfl rfl rfl (K.move rfl) ?_
            refine KA.next (i0 := 1) (r := [3]) (by kernel_rfl) ?_
            refine KAll.cons' ?_ (KAll.cons' ?_ KAll.nil')
            · refine KO.op rfl rfl rfl (K.make (m := 2 ^ (zL hot cold).length) rfl rfl (Nat.le_refl _) (by omega) Try.underlying23 Try.one3) ?_
              refine KA.next (i0 := 3) (r := []) (by kernel_rfl) ?_
              refine KAll.cons' ?_ KAll.nil'
              · refine KO.op rfl rfl rfl (K.make (m := 2 ^ (zL hot cold).length) rfl rfl (Nat.le_refl _) (by omega) Try.underlying23 Try.one3) ?_
                refine KA.next (i0 := 4) (r := []) (by kernel_rfl) ?_
                refine KAll.cons' ?_ KAll.nil'
                · refine KO.op rfl rfl rfl (K.buildS rfl (build92_o _ _ _)) ?_
                  refine KA.next (i0 := 6) (r := []) (by kernel_rfl) ?_
                  refine KAll.cons' ?_ KAll.nil'
                  · refine KO.op rfl rfl rfl (K.storeN rfl rfl (ap3_at (i := 0) (by simp) rfl) (by simp [Value.cells, cellsX]) rfl Try.size92) ?_
                    exact KA.done (by kernel_rfl) ⟨rfl, A.length + 1, A.length + 2, A.length + 0, thr_new (a := 1) (b := 2) (c := 0) rfl rfl rfl (by simp) (by decide) (by decide) (by decide) (by decide) (by decide) (by decide) rfl rfl (by simp [cellsX, splice, Value.cells]), by simp [Go.Vm.look, extK]⟩
            · refine KO.op rfl rfl rfl (K.make (m := 2 ^ (zL hot cold).length) rfl rfl (Nat.le_refl _) (by omega) Try.underlying23 Try.one3) ?_
              refine KA.next (i0 := 1) (r := []) (by kernel_rfl) ?_
              refine KAll.cons' ?_ KAll.nil'
              · refine KO.op rfl rfl rfl (K.make (m := 2 ^ (zL hot cold).length) rfl rfl (Nat.le_refl _) (by omega) Try.underlying23 Try.one3) ?_
                refine KA.next (i0 := 4) (r := []) (by kernel_rfl) ?_
                refine KAll.cons' ?_ KAll.nil'
                · refine KO.op rfl rfl rfl (K.buildS rfl (build92_o _ _ _)) ?_
                  refine KA.next (i0 := 6) (r := []) (by kernel_rfl) ?_
                  refine KAll.cons' ?_ KAll.nil'
                  · refine KO.op rfl rfl rfl (K.storeN rfl rfl (ap3_at (i := 0) (by simp) rfl) (by simp [Value.cells, cellsX]) rfl Try.size92) ?_
                    exact KA.done (by kernel_rfl) ⟨rfl, A.length + 2, A.length + 1, A.length + 0, thr_new (a := 2) (b := 1) (c := 0) rfl rfl rfl (by simp) (by decide) (by decide) (by decide) (by decide) (by decide) (by decide) rfl rfl (by simp [cellsX, splice, Value.cells]), by simp [Go.Vm.look, extK]⟩
          · refine KO.op rfl rfl rfl (K.make (m := 2 ^ (zL hot cold).length) rfl rfl (Nat.le_refl _) (by omega) Try.underlying23 Try.one3) ?_
            refine KA.next (i0 := 0) (r := []) (by kernel_rfl) ?_
            refine KAll.cons' ?_ KAll.nil'
            · refine KO.op rfl rfl rfl (K.move rfl) ?_
              refine KA.next (i0 := 1) (r := []) (by kernel_rfl) ?_
              refine KAll.cons' ?_ KAll.nil'
              · refine KO.op rfl rfl rfl (K.make (m := 2 ^ (zL hot cold).length) rfl rfl (Nat.le_refl _) (by omega) Try.underlying23 Try.one3) ?_
                refine KA.next (i0 := 4) (r := []) (by kernel_rfl) ?_
                refine KAll.cons' ?_ KAll.nil'
                · refine KO.op rfl rfl rfl (K.buildS rfl (build92_o _ _ _)) ?_
                  refine KA.next (i0 := 6) (r := []) (by kernel_rfl) ?_
                  refine KAll.cons' ?_ KAll.nil'
                  · refine KO.op rfl rfl rfl (K.storeN rfl rfl (ap3_at (i := 0) (by simp) rfl) (by simp [Value.cells, cellsX]) rfl Try.size92) ?_
                    exact KA.done (by kernel_rfl) ⟨rfl, A.length + 2, A.length + 1, A.length + 0, thr_new (a := 2) (b := 1) (c := 0) rfl rfl rfl (by simp) (by decide) (by decide) (by decide) (by decide) (by decide) (by decide) rfl rfl (by simp [cellsX, splice, Value.cells]), by simp [Go.Vm.look, extK]⟩
    rintro e τ k ⟨rfl, p, q, r, ⟨hp, hq, hr, hpq, hpr, hqr, yP, yO, yD, hτ, v0⟩, hlk⟩
    have hA0 := lt_of_get y0
    replace y0 := (v0 0 hA0).trans y0
    have lp := lt_of_get yP
    have lq := lt_of_get yO
    have lr := lt_of_get yD
    refine thenK_n ?_
    refine KC.seq ?_
    refine KC.weaken ?_ hlk
    refine KC.region ?_
    refine KT.step rfl rfl (K.move rfl) ?_
    refine KT.step rfl rfl (K.make (m := 2 ^ (zL hot cold).length) rfl rfl (Nat.le_refl _) (by omega) Try.underlying23 Try.one3) ?_
    refine KT.step rfl rfl (K.assign rfl) ?_
    refine KT.nil ?_
    refine thenK_n ?_
    refine KC.seq ?_
    refine KC.seq ?_
    refine KC.region ?_
    refine KT.step rfl rfl (K.assign rfl) ?_
    refine KT.nil ?_
    refine thenK_n ?_
    refine KC.block ?_
    have yQ : (τ ++ [(⟨List.replicate (2 ^ (zL hot cold).length) (.d (.lit (.int .i64 0))), 0⟩ : VObj)])[τ.length]? = some ⟨xs (List.replicate (2 ^ (zL hot cold).length) 0), 0⟩ := by rw [← xs_rep]; exact List.getElem?_concat_length ..
    refine KC.loop (fun z : List VObj × List Int × List Int × List Int × Nat => z.1) (fun z => [(4, .optr 0 0), (5, .d (.sl (ints (zL hot cold)) (zL hot cold).length none)), (8, .d (DI ((2 ^ (zL hot cold).length : Nat)))), (9, .optr r 0), (10, .osl τ.length 0 (2 ^ (zL hot cold).length) 1 (2 ^ (zL hot cold).length) true), (11, .d (DI (z.2.2.2.2 : Nat)))]) (fun z => 1 ≤ z.2.2.2.2 ∧ z.2.2.2.2 ≤ 2 ^ (zL hot cold).length ∧ DvI (zL hot cold) (2 ^ (zL hot cold).length) z.2.2.2.2 z.2.1 z.2.2.1 z.2.2.2.1 ∧ z.1[0]? = some ⟨[.d Dnil, .d Dnil], 0⟩ ∧ z.1[p]? = some ⟨xs z.2.1, 0⟩ ∧ z.1[q]? = some ⟨xs z.2.2.1, 0⟩ ∧ z.1[r]? = some ⟨[.osl p 0 (2 ^ (zL hot cold).length) 1 (2 ^ (zL hot cold).length) true, .osl q 0 (2 ^ (zL hot cold).length) 1 (2 ^ (zL hot cold).length) true], 0⟩ ∧ z.1[τ.length]? = some ⟨xs z.2.2.2.1, 0⟩) (fun z => 2 ^ (zL hot cold).length - z.2.2.2.2) (_, List.replicate (2 ^ (zL hot cold).length) 0, List.replicate (2 ^ (zL hot cold).length) 0, List.replicate (2 ^ (zL hot cold).length) 0, 1) ⟨Nat.le_refl _, hM1, DvI.init hM1, get_left y0, get_left yP, get_left yO, get_left yD, yQ⟩ rfl (by simp [Go.Vm.look, extK]) ?_
    clear y0 yP yO yD yQ
    intro z hz
    obtain ⟨σ0, P, O, Q, s⟩ := z
    obtain ⟨hs1, hs, hI, y0, yP, yO, yD, yQ⟩ := hz
    simp only at hs1 hs hI y0 yP yO yD yQ ⊢
    have l1 := hI.1
    refine KC.seq ?_
    refine KC.seq ?_
    refine KC.region ?_
    refine KT.step rfl rfl (K.move rfl) ?_
    refine KT.step rfl rfl (K.move rfl) ?_
    refine KT.step rfl rfl (K.lss rfl rfl) ?_
    refine KT.nil ?_
    refine thenK_n ?_
    refine KC.cond rfl (fun hc41 => ?_) (fun hc41 => ?_)
    · skip
      replace hc41 := of_decide_eq_true hc41
      have hsM : s < 2 ^ (zL hot cold).length := by omega
      refine KC.skip ?_
      refine thenK_n ?_
      refine KC.seq ?_
      refine KC.block ?_
      refine KC.seq ?_
      refine KC.region ?_
      refine KT.step rfl rfl (K.fieldAddrO rfl Try.fld92_0 Try.size23) ?_
      refine KT.step rfl rfl (K.loadO rfl yD (by simp) rfl Try.agg23) ?_
      refine KT.step rfl rfl (K.move rfl) ?_
      refine KT.step rfl rfl (K.idxO (m := s) rfl rfl (by omega) Try.underlying23 Try.size3) ?_
      refine KT.storeG rfl rfl rfl rfl yP (by rw [xs_len]; omega) rfl rfl Try.size3 fun σ1 l1 u1 v1 => ?_
      replace y0 := (v1 0 (by omega)).trans y0
      replace yO := (v1 q (by omega)).trans yO
      replace yD := (v1 r (by omega)).trans yD
      replace yQ := (v1 τ.length (by omega)).trans yQ
      replace yP := u1.trans (congrArg (fun c => some (VObj.mk c 0)) xs_set)
      refine KT.nil ?_
      refine thenK_n ?_
      refine KC.seq ?_
      refine KC.seq ?_
      refine KC.region ?_
      refine KT.step rfl rfl (K.move rfl) ?_
      refine KT.step rfl rfl (K.len rfl ints_ok Try.underlying23) ?_
      refine KT.step rfl rfl (K.move rfl) ?_
      refine KT.nil ?_
      refine thenK_n ?_
      refine KC.block ?_
      refine KC.loop (fun z : List VObj × List Int × List Int × List Int × Nat => z.1) (fun z => [(4, .optr 0 0), (5, .d (.sl (ints (zL hot cold)) (zL hot cold).length none)), (8, .d (DI ((2 ^ (zL hot cold).length : Nat)))), (9, .optr r 0), (10, .osl τ.length 0 (2 ^ (zL hot cold).length) 1 (2 ^ (zL hot cold).length) true), (11, .d (DI (s : Nat))), (48, .d (.sl (ints (zL hot cold)) (zL hot cold).length none)), (49, .d (DI ((zL hot cold).length : Nat))), (50, .d (DI (z.2.2.2.2 : Nat)))]) (fun z => z.2.2.2.2 ≤ (zL hot cold).length ∧ DvJ (zL hot cold) (2 ^ (zL hot cold).length) s z.2.2.2.2 z.2.1 z.2.2.1 z.2.2.2.1 ∧ z.1[0]? = some ⟨[.d Dnil, .d Dnil], 0⟩ ∧ z.1[p]? = some ⟨xs z.2.1, 0⟩ ∧ z.1[q]? = some ⟨xs z.2.2.1, 0⟩ ∧ z.1[r]? = some ⟨[.osl p 0 (2 ^ (zL hot cold).length) 1 (2 ^ (zL hot cold).length) true, .osl q 0 (2 ^ (zL hot cold).length) 1 (2 ^ (zL hot cold).length) true], 0⟩ ∧ z.1[τ.length]? = some ⟨xs z.2.2.2.1, 0⟩) (fun z => (zL hot cold).length - z.2.2.2.2) (_, _, O, Q, 0) ⟨Nat.zero_le _, hI.start hsM, y0, yP, yO, yD, yQ⟩ rfl (by simp [Go.Vm.look, extK]) ?_
      clear y0 yP yO yD yQ
      intro z hz
      obtain ⟨σ2, P, O, Q, k⟩ := z
      obtain ⟨hk, hJ, y0, yP, yO, yD, yQ⟩ := hz
      simp only at hk hJ y0 yP yO yD yQ ⊢
      have l1 := hJ.1
      have l2 := hJ.2.1
      have l3 := hJ.2.2.1
      have hcl := clr_le s k
      refine KC.seq ?_
      refine KC.region ?_
      refine KT.step rfl rfl (K.lss rfl rfl) ?_
      refine KT.nil ?_
      refine thenK_n ?_
      refine KC.seq ?_
      refine KC.cond rfl (fun hc51 => ?_) (fun hc51 => ?_)
      · skip
        replace hc51 := of_decide_eq_true hc51
        have hkl : k < (zL hot cold).length := by omega
        have hzk : (zL hot cold)[k] = (zL hot cold).getD k 0 := by simp [hkl]
        have h2k : 2 ^ k ≤ 4096 := Nat.pow_le_pow_right (n := 2) (by decide) (show k ≤ 12 by omega)
        refine KC.skip ?_
        refine thenK_n ?_
        refine KC.seq ?_
        refine KC.block ?_
        refine KC.seq ?_
        refine KC.region ?_
        refine KT.step rfl rfl (K.move rfl) ?_
        refine KT.idxI (m := k) rfl rfl rfl ints_ok rfl hkl Try.underlying23 Try.size3 fun cs53 => ?_
        refine KT.step rfl rfl (K.load rfl Try.agg3) ?_
        refine KT.step rfl rfl (K.assign rfl) ?_
        refine KT.step rfl rfl (K.assign rfl) ?_
        refine KT.nil ?_
        refine thenK_n ?_
        refine KC.seq ?_
        refine KC.region ?_
        refine KT.step rfl rfl (K.move rfl) ?_
        refine KT.step rfl rfl (K.move rfl) ?_
        refine KT.step rfl rfl (K.shl rfl rfl (by omega) (shlI (by omega))) ?_
        refine KT.step rfl rfl (K.bandNot rfl rfl (show IntKind.i64.wrap (BitVec.ofInt IntKind.i64.bits ((s : Nat) : Int) &&& ~~~ BitVec.ofInt IntKind.i64.bits ((2 ^ k : Nat) : Int)).toNat = ((clr s k : Nat) : Int) from diffI (by omega) (by omega))) ?_
        refine KT.step rfl rfl (K.assign rfl) ?_
        refine KT.nil ?_
        refine thenK_n ?_
        refine KC.seq ?_
        refine KC.seq ?_
        refine KC.region ?_
        refine KT.step rfl rfl (K.move rfl) ?_
        refine KT.step rfl rfl (K.move rfl) ?_
        refine KT.step rfl rfl (K.eql rfl rfl) ?_
        refine KT.nil ?_
        refine thenK_n ?_
        refine KC.cond rfl (fun hc61 => ?_) (fun hc61 => ?_)
        · skip
          replace hc61 := of_decide_eq_true hc61
          have hb : s.testBit k = false := by
            rw [← Bool.not_eq_true]; intro h; have := clr_lt h; omega
          refine KC.exit ?_
          refine thenK_x ?_
          refine blockK_e ?_
          refine thenK_n ?_
          refine KC.region ?_
          refine KT.step rfl rfl (K.add rfl rfl (wrap_id (by omega))) ?_
          refine KT.step rfl rfl (K.move rfl) ?_
          refine KT.nil ?_
          refine thenK_n ?_
          refine ⟨(_, P, O, Q, k + 1), ⟨by simp only; omega, hJ.skip hb, y0, yP, yO, yD, yQ⟩, by simp only; omega, rfl, by simp [Go.Vm.look, extK]⟩
        · skip
          replace hc61 := of_decide_eq_false hc61
          have hb : s.testBit k = true := by
            rcases hbb : s.testBit k with _ | _
            · exact absurd (clr_same hbb) (by omega)
            · rfl
          have hcl2 := clr_lt hb
          have hqv := (hJ.2.2.2.1 _ hcl2).2.2
          have hqb := sumS_bd hzb (clr s k)
          rw [← hqv] at hqb
          have hzx := hzb _ (List.getElem_mem hkl)
          refine KC.skip ?_
          refine thenK_n ?_
          refine KC.seq ?_
          refine KC.region ?_
          refine KT.step rfl rfl (K.move rfl) ?_
          refine KT.step rfl rfl (K.move rfl) ?_
          refine KT.step rfl rfl (K.move rfl) ?_
          refine KT.step rfl rfl (K.move rfl) ?_
          refine KT.step rfl rfl (K.idxO (m := clr s k) rfl rfl (by omega) Try.underlying23 Try.size3) ?_
          refine KT.step rfl rfl (K.loadO rfl yQ (by simp) (xs_getD (by omega)) Try.agg3) ?_
          refine KT.step rfl rfl (K.move rfl) ?_
          refine KT.step rfl rfl (K.add rfl rfl (wrap_id (by omega))) ?_
          refine KT.step rfl rfl (K.idxO (m := s) rfl rfl (by omega) Try.underlying23 Try.size3) ?_
          refine KT.storeG rfl rfl rfl rfl yQ (by rw [xs_len]; omega) rfl rfl Try.size3 fun σ2 l2 u2 v2 => ?_
          replace y0 := (v2 0 (by omega)).trans y0
          replace yP := (v2 p (by omega)).trans yP
          replace yO := (v2 q (by omega)).trans yO
          replace yD := (v2 r (by omega)).trans yD
          replace yQ := u2.trans (congrArg (fun c => some (VObj.mk c 0)) xs_set)
          refine KT.nil ?_
          refine thenK_n ?_
          refine KC.seq ?_
          refine KC.draw Try.mixed ?_
          refine KT.step rfl rfl (K.fieldAddrO rfl Try.fld92_0 Try.size23) ?_
          refine KT.step rfl rfl (K.loadO rfl yD (by simp) rfl Try.agg23) ?_
          refine KT.step rfl rfl (K.move rfl) ?_
          refine KT.step rfl rfl (K.idxO (m := clr s k) rfl rfl (by omega) Try.underlying23 Try.size3) ?_
          refine KT.step rfl rfl (K.loadO rfl yP (by simp) (xs_getD (by omega)) Try.agg3) ?_
          refine KT.step rfl rfl (K.fieldAddrO rfl Try.fld92_0 Try.size23) ?_
          refine KT.step rfl rfl (K.loadO rfl yD (by simp) rfl Try.agg23) ?_
          refine KT.step rfl rfl (K.move rfl) ?_
          refine KT.step rfl rfl (K.idxO (m := s) rfl rfl (by omega) Try.underlying23 Try.size3) ?_
          refine KT.step rfl rfl (K.loadO rfl yP (by simp) (xs_getD (by omega)) Try.agg3) ?_
          refine KT.step rfl rfl (K.gtr rfl rfl) ?_
          refine KT.nil ?_
          refine ⟨by kernel_rfl, ?_⟩
          refine thenK_n ?_
          refine KC.cond rfl (fun hc81 => ?_) (fun hc81 => ?_)
          · skip
            replace hc81 := of_decide_eq_true hc81
            refine KC.drawZ (fun id => id = p) Try.mixed ?_
            refine KTZ.step rfl rfl (K.fieldAddrO rfl Try.fld92_0 Try.size23) ?_
            refine KTZ.step rfl rfl (K.loadO rfl yD (by simp) rfl Try.agg23) ?_
            refine KTZ.step rfl rfl (K.move rfl) ?_
            refine KTZ.step rfl rfl (K.fieldAddrO rfl Try.fld92_1 Try.size23) ?_
            refine KTZ.load rfl rfl rfl (by omega) (K.loadO rfl yD (by simp) rfl Try.agg23) ?_
            refine KTZ.step rfl rfl (K.move rfl) ?_
            refine KTZ.step rfl rfl (K.fieldAddrO rfl Try.fld92_0 Try.size23) ?_
            refine KTZ.step rfl rfl (K.loadO rfl yD (by simp) rfl Try.agg23) ?_
            refine KTZ.step rfl rfl (K.move rfl) ?_
            refine KTZ.step rfl rfl (K.idxO (m := clr s k) rfl rfl (by omega) Try.underlying23 Try.size3) ?_
            refine KTZ.step rfl rfl (K.loadO rfl yP (by simp) (xs_getD (by omega)) Try.agg3) ?_
            refine KTZ.step rfl rfl (K.move rfl) ?_
            refine KTZ.step rfl rfl (K.idxO (m := s) rfl rfl (by omega) Try.underlying23 Try.size3) ?_
            refine KTZ.storeG rfl rfl rfl rfl rfl yP (by rw [xs_len]; omega) rfl rfl Try.size3 fun σ3 l3 u3 v3 => ?_
            replace y0 := (v3 0 (by omega)).trans y0
            replace yO := (v3 q (by omega)).trans yO
            replace yD := (v3 r (by omega)).trans yD
            replace yQ := (v3 τ.length (by omega)).trans yQ
            replace yP := u3.trans (congrArg (fun c => some (VObj.mk c 0)) xs_set)
            refine KTZ.step rfl rfl (K.idxO (m := s) rfl rfl (by omega) Try.underlying23 Try.size3) ?_
            refine KTZ.storeL rfl rfl rfl rfl yO (by rw [xs_len]; omega) rfl rfl Try.size3 fun σ4 l4 u4 v4 => ?_
            replace y0 := (v4 0 (by omega)).trans y0
            replace yP := (v4 p (by omega)).trans yP
            replace yD := (v4 r (by omega)).trans yD
            replace yQ := (v4 τ.length (by omega)).trans yQ
            replace yO := u4.trans (congrArg (fun c => some (VObj.mk c 0)) xs_set)
            refine KTZ.nil ?_
            refine ⟨by kernel_rfl, ?_⟩
            refine blockK_n ?_
            refine thenK_n ?_
            refine KC.region ?_
            refine KT.step rfl rfl (K.add rfl rfl (wrap_id (by omega))) ?_
            refine KT.step rfl rfl (K.move rfl) ?_
            refine KT.nil ?_
            refine thenK_n ?_
            have hup := hJ.up hsM hkl hb hc81
            rw [← hzk] at hup
            exact ⟨(_, P.set s _, O.set s _, Q.set s _, k + 1), ⟨by simp only; omega, hup, y0, yP, yO, yD, yQ⟩, by simp only; omega, rfl, by simp [Go.Vm.look, extK]⟩
          · skip
            replace hc81 := of_decide_eq_false hc81
            refine KC.skip ?_
            refine blockK_n ?_
            refine thenK_n ?_
            refine KC.region ?_
            refine KT.step rfl rfl (K.add rfl rfl (wrap_id (by omega))) ?_
            refine KT.step rfl rfl (K.move rfl) ?_
            refine KT.nil ?_
            refine thenK_n ?_
            have hup := hJ.stay hsM hkl hb hc81
            rw [← hzk] at hup
            exact ⟨(_, P, O, Q.set s _, k + 1), ⟨by simp only; omega, hup, y0, yP, yO, yD, yQ⟩, by simp only; omega, rfl, by simp [Go.Vm.look, extK]⟩
      · skip
        replace hc51 := of_decide_eq_false hc51
        obtain rfl : k = (zL hot cold).length := by omega
        have hmx := mx_le (zL hot cold) s (zL hot cold).length
        rw [← hJ.2.2.2.2.2.1] at hmx
        refine KC.exit ?_
        refine thenK_x ?_
        refine thenK_x ?_
        refine blockK_e ?_
        refine thenK_n ?_
        refine KC.seq ?_
        refine KC.region ?_
        refine KT.step rfl rfl (K.move rfl) ?_
        refine KT.step rfl rfl (K.move rfl) ?_
        refine KT.step rfl rfl (K.idxO (m := s) rfl rfl (by omega) Try.underlying23 Try.size3) ?_
        refine KT.step rfl rfl (K.loadO rfl yQ (by simp) (xs_getD (by omega)) Try.agg3) ?_
        refine KT.step rfl rfl (K.eql rfl rfl) ?_
        refine KT.nil ?_
        refine thenK_n ?_
        refine KC.cond rfl (fun hc101 => ?_) (fun hc101 => ?_)
        · skip
          replace hc101 := of_decide_eq_true hc101
          refine KC.region ?_
          refine KT.step rfl rfl (K.fieldAddrO rfl Try.fld92_0 Try.size23) ?_
          refine KT.step rfl rfl (K.loadO rfl yD (by simp) rfl Try.agg23) ?_
          refine KT.step rfl rfl (K.move rfl) ?_
          refine KT.step rfl rfl (K.idxO (m := s) rfl rfl (by omega) Try.underlying23 Try.size3) ?_
          refine KT.step rfl rfl (K.loadO rfl yP (by simp) (xs_getD (by omega)) Try.agg3) ?_
          refine KT.step rfl rfl (K.add rfl rfl (wrap_id (by omega))) ?_
          refine KT.step rfl rfl (K.idxO (m := s) rfl rfl (by omega) Try.underlying23 Try.size3) ?_
          refine KT.storeG rfl rfl rfl rfl yP (by rw [xs_len]; omega) rfl rfl Try.size3 fun σ5 l5 u5 v5 => ?_
          replace y0 := (v5 0 (by omega)).trans y0
          replace yO := (v5 q (by omega)).trans yO
          replace yD := (v5 r (by omega)).trans yD
          replace yQ := (v5 τ.length (by omega)).trans yQ
          replace yP := u5.trans (congrArg (fun c => some (VObj.mk c 0)) xs_set)
          refine KT.nil ?_
          refine blockK_n ?_
          refine thenK_n ?_
          refine KC.region ?_
          refine KT.step rfl rfl (K.move rfl) ?_
          refine KT.step rfl rfl (K.add rfl rfl (wrap_id (by omega))) ?_
          refine KT.step rfl rfl (K.assign rfl) ?_
          refine KT.nil ?_
          refine thenK_n ?_
          refine ⟨(_, P.set s (P.getD s 0 + 1), O, Q, s + 1), ⟨by simp only; omega, by simp only; omega, hJ.one rfl (by omega) hsM hc101, y0, yP, yO, yD, yQ⟩, by simp only; omega, rfl, by simp [Go.Vm.look, extK]⟩
        · skip
          replace hc101 := of_decide_eq_false hc101
          refine KC.skip ?_
          refine blockK_n ?_
          refine thenK_n ?_
          refine KC.region ?_
          refine KT.step rfl rfl (K.move rfl) ?_
          refine KT.step rfl rfl (K.add rfl rfl (wrap_id (by omega))) ?_
          refine KT.step rfl rfl (K.assign rfl) ?_
          refine KT.nil ?_
          refine thenK_n ?_
          refine ⟨(_, P, O, Q, s + 1), ⟨by simp only; omega, by simp only; omega, hJ.none rfl (by omega) hsM hc101, y0, yP, yO, yD, yQ⟩, by simp only; omega, rfl, by simp [Go.Vm.look, extK]⟩
    · skip
      replace hc41 := of_decide_eq_false hc41
      refine KC.exit ?_
      refine thenK_x ?_
      refine thenK_x ?_
      refine blockK_e ?_
      refine thenK_n ?_
      refine KC.seq ?_
      refine KC.region ?_
      refine KT.step rfl rfl (K.loadOAgg (m := 2) rfl yD (by simp) Try.agg92 Try.size92 (by simp)) ?_
      obtain rfl : s = 2 ^ (zL hot cold).length := by omega
      obtain ⟨e1, e2⟩ := hI.fin rfl
      refine KT.storeH (cs := [.osl p 0 (2 ^ (zL hot cold).length) 1 (2 ^ (zL hot cold).length) true, .osl q 0 (2 ^ (zL hot cold).length) 1 (2 ^ (zL hot cold).length) true]) rfl rfl rfl rfl y0 rfl (by simp) rfl Try.size92 fun σ7 l7 u7 v7 => ?_
      have wa := (v7 p (by omega)).trans yP
      have wb := (v7 q (by omega)).trans yO
      replace u7 := u7.trans (congrArg (fun c => some (VObj.mk c 0)) (splice_all (by rfl)))
      refine KT.nil ?_
      refine thenK_n ?_
      refine KC.ret ?_
      refine ⟨.inl rfl, _, resK_c1 _ rfl rfl u7 (by decide) Try.agg92 Try.size92 rfl, ?_⟩
      rw [e1] at wa
      rw [e2] at wb
      exact div_fin (k := 4) wa wb tabP_len tabO_len
set_option maxRecDepth 10000 in
theorem most59 {z : List Int} (hz : z.length ≤ 12) : DeepCall Try.prog 59 [divV z] (DI (best z (fullS z.length))) := by
  have hM : 2 ^ z.length ≤ 4096 := Nat.pow_le_pow_right (n := 2) (by decide) (show z.length ≤ 12 by omega)
  have hM1 : 1 ≤ 2 ^ z.length := Nat.two_pow_pos _
  have hfu : fullS z.length = 2 ^ z.length - 1 := rfl
  refine deepCall_K 5 Try.func59 rfl (Nat.le_of_ble_eq_true rfl) fun M W0 => ?_
  refine KC.seq ?_
  refine KC.region ?_
  refine KT.step rfl rfl (K.box rfl) ?_
  refine KT.step rfl rfl (K.assign rfl) ?_
  refine KT.nil ?_
  refine thenK_n ?_
  refine KC.seq ?_
  refine KC.region ?_
  refine KT.step rfl rfl (K.fieldAddrO rfl Try.fld92_0 Try.size23) ?_
  refine KT.step rfl rfl (K.loadO rfl rfl (by simp) rfl Try.agg23) ?_
  refine KT.step rfl rfl (K.fieldAddrO rfl Try.fld92_0 Try.size23) ?_
  refine KT.step rfl rfl (K.loadO rfl rfl (by simp) rfl Try.agg23) ?_
  refine KT.step rfl rfl (K.len rfl tabP_ints Try.underlying23) ?_
  refine KT.step rfl rfl (K.sub rfl rfl (wrap_id (by have := tabP_len (z := z); omega))) ?_
  have hl := tabP_len (z := z)
  have hix : (((tabP z).length : Nat) : Int) - 1 = ((fullS z.length : Nat) : Int) := by omega
  rw [hix]
  refine KT.idxI (m := fullS z.length) rfl rfl rfl tabP_ints rfl (by omega) Try.underlying23 Try.size3 fun cs9 => ?_
  refine KT.step rfl rfl (K.load rfl Try.agg3) ?_
  refine KT.step rfl rfl (K.assign rfl) ?_
  refine KT.nil ?_
  refine thenK_n ?_
  refine KC.ret ?_
  have e := tabP_get (z := z) (S := fullS z.length) (by omega)
  exact ⟨.inl rfl, _, rfl, fin_d (congrArg DI e.symm)⟩
set_option maxRecDepth 10000 in
theorem order76 {z : List Int} (hz : z.length ≤ 12) : DeepCall Try.prog 76 [divV z] (intsV (zn (ordA z))) := by
  have hM : 2 ^ z.length ≤ 4096 := Nat.pow_le_pow_right (n := 2) (by decide) (show z.length ≤ 12 by omega)
  have hM1 : 1 ≤ 2 ^ z.length := Nat.two_pow_pos _
  have hfu : fullS z.length = 2 ^ z.length - 1 := rfl
  refine deepCall_K 5 Try.func76 rfl (Nat.le_of_ble_eq_true rfl) fun M W0 => ?_
  refine KC.seq ?_
  refine KC.region ?_
  refine KT.step rfl rfl (K.box rfl) ?_
  refine KT.step rfl rfl (K.assign rfl) ?_
  refine KT.nil ?_
  refine thenK_n ?_
  refine KC.seq ?_
  refine KC.region ?_
  refine KT.step rfl rfl (K.assign rfl) ?_
  refine KT.nil ?_
  refine thenK_n ?_
  refine KC.seq ?_
  refine KC.seq ?_
  refine KC.region ?_
  refine KT.step rfl rfl (K.fieldAddrO rfl Try.fld92_1 Try.size23) ?_
  refine KT.step rfl rfl (K.loadO rfl rfl (by simp) rfl Try.agg23) ?_
  refine KT.step rfl rfl (K.len rfl tabO_ints Try.underlying23) ?_
  refine KT.step rfl rfl (K.sub rfl rfl (show IntKind.i64.wrap ((((tabO z).length : Nat) : Int) - 1) = ((fullS z.length : Nat) : Int) from by have := tabO_len (z := z); rw [wrap_id (by omega)]; omega)) ?_
  refine KT.step rfl rfl (K.assign rfl) ?_
  refine KT.nil ?_
  refine thenK_n ?_
  refine KC.block ?_
  have hol := (ordA_ord z).len
  refine KC.loop (fun p : List VObj × XV × List Nat × Nat × Nat => p.1) (fun p => [(1, .optr 0 0), (3, p.2.1), (4, .d (DI (p.2.2.2.1 : Nat)))]) (fun p => p.2.2.2.1 < 2 ^ z.length ∧ p.2.2.2.1 ≤ p.2.2.2.2 ∧ p.2.2.1 ++ ordF z p.2.2.2.2 p.2.2.2.1 = ordA z ∧ p.1[0]? = some ⟨[.d (.sl (ints (tabP z)) (2 ^ z.length) (some (2 ^ z.length))), .d (.sl (ints (tabO z)) (2 ^ z.length) (some (2 ^ z.length)))], 0⟩ ∧ OwnK 1 p.1 p.2.1 (xs (zn p.2.2.1)) ∧ (∀ j, idX p.2.1 = some j → 1 ≤ j) ∧ (zn p.2.2.1 = [] → p.2.1 = .d Dnil)) (fun p => p.2.2.2.1) (_, .d Dnil, [], fullS z.length, fullS z.length) ⟨full_lt _, Nat.le_refl _, rfl, rfl, .nil, fun j hj => (by cases hj), fun _ => rfl⟩ rfl (by simp [Go.Vm.look, extK, enterK]) ?_
  intro p hp
  obtain ⟨σ0, x, pr, s, n⟩ := p
  obtain ⟨hsM, hsn, hpre, y0, o, dj, hn⟩ := hp
  simp only at hsM hsn hpre y0 o dj hn ⊢
  refine KC.seq ?_
  refine KC.seq ?_
  refine KC.region ?_
  refine KT.step rfl rfl (K.move rfl) ?_
  refine KT.step rfl rfl (K.gtr rfl rfl) ?_
  refine KT.nil ?_
  refine thenK_n ?_
  refine KC.cond rfl (fun hc11 => ?_) (fun hc11 => ?_)
  · skip
    replace hc11 := of_decide_eq_true hc11
    have hs0 : s ≠ 0 := by omega
    obtain ⟨hb, hi, _⟩ := out_step hsM hs0
    have hcl := clr_lt hb
    have h2k : 2 ^ outA z s ≤ 4096 := Nat.pow_le_pow_right (n := 2) (by decide) (show outA z s ≤ 12 by omega)
    obtain ⟨n, rfl⟩ : ∃ m, n = m + 1 := ⟨n - 1, by omega⟩
    rw [ordF, if_neg hs0] at hpre
    refine KC.skip ?_
    refine thenK_n ?_
    refine KC.block ?_
    refine KC.seq ?_
    refine KC.region ?_
    refine KT.step rfl rfl (K.fieldAddrO rfl Try.fld92_1 Try.size23) ?_
    refine KT.step rfl rfl (K.loadO rfl y0 (by simp) rfl Try.agg23) ?_
    refine KT.step rfl rfl (K.move rfl) ?_
    refine KT.idxI (m := s) rfl rfl rfl tabO_ints rfl (by rw [tabO_len]; omega) Try.underlying23 Try.size3 fun cs15 => ?_
    refine KT.step rfl rfl (K.load rfl Try.agg3) ?_
    rw [tabO_get]
    refine KT.step rfl rfl (K.assign rfl) ?_
    refine KT.nil ?_
    refine thenK_n ?_
    refine KC.seq ?_
    refine KC.region ?_
    refine KT.step rfl rfl (K.move rfl) ?_
    refine KT.step rfl rfl (K.move rfl) ?_
    refine KT.step rfl rfl (K.build1' rfl rfl Try.underlying23 Try.one3) ?_
    refine KT.appM (k := 1) (q := 1) rfl rfl rfl rfl (o.pushed _) (List.getElem?_concat_length ..) rfl (by decide) (by decide) rfl (by rw [xs_len, zn_len]; have := congrArg List.length hpre; rw [List.length_append, hol] at this; omega) Try.underlying23 Try.size3 (of_decide_eq_true (by kernel_rfl)) (by kernel_rfl) (by decide) fun σ1 x1 o1 k1 w1 => ?_
    obtain ⟨j1, w2, w3⟩ := w1
    simp only [List.length_append, List.length_cons, List.length_nil] at w3
    have z0 := (k1 0 (fun h => by have := dj 0 h; omega) (by rw [List.length_append]; simp)).trans (get_left y0)
    refine KT.step rfl rfl (K.assign rfl) ?_
    refine KT.nil ?_
    refine thenK_n ?_
    refine KC.region ?_
    refine KT.step rfl rfl (K.move rfl) ?_
    refine KT.step rfl rfl (K.move rfl) ?_
    refine KT.step rfl rfl (K.shl rfl rfl (by omega) (shlI (by omega))) ?_
    refine KT.step rfl rfl (K.bandNot rfl rfl (show IntKind.i64.wrap (BitVec.ofInt IntKind.i64.bits ((s : Nat) : Int) &&& ~~~ BitVec.ofInt IntKind.i64.bits ((2 ^ outA z s : Nat) : Int)).toNat = ((clr s (outA z s) : Nat) : Int) from diffI (by omega) (by omega))) ?_
    refine KT.step rfl rfl (K.assign rfl) ?_
    refine KT.nil ?_
    refine blockK_n ?_
    refine thenK_n ?_
    refine ⟨(σ1, x1, pr ++ [outA z s], clr s (outA z s), n), ⟨by simp only; omega, by simp only; omega, by simpa using hpre, z0, ?_, fun i hi => ?_, fun h => ?_⟩, by simp only; omega, rfl, by simp [Go.Vm.look, extK]⟩
    · simp only
      rw [zn_app, xs_app]; exact o1
    · simp only at hi; rw [w2] at hi; cases hi; omega
    · simp only at h; have := zn_nil h; simp at this
  · skip
    replace hc11 := of_decide_eq_false hc11
    obtain rfl : s = 0 := by omega
    have e0 : ordF z n 0 = [] := by cases n <;> simp [ordF]
    rw [e0, List.append_nil] at hpre
    subst hpre
    refine KC.exit ?_
    refine thenK_x ?_
    refine thenK_x ?_
    refine blockK_e ?_
    refine thenK_n ?_
    refine KC.seq ?_
    refine KC.region ?_
    refine KT.step rfl rfl (K.move rfl) ?_
    refine KT.step rfl rfl (K.assign rfl) ?_
    refine KT.nil ?_
    refine thenK_n ?_
    refine KC.ret ?_
    exact ⟨.inl rfl, _, rfl, own_ints o hn⟩
end Go.Proofs.Ytmfbakipfobaeaa

