import Derived.Test.YthbnnffmhnjpjaaCyRl
import Derived.Test.YthbnnffmhnjpjaaCyPa
import Derived.Test.YthbnnffmhnjpjaaCyEg
/-
  Times: the reference: star; the law CycleStars.
-/
namespace Go.Proofs.Ythbnnffmhnjpjaa
open Go.Vm Go.Cy Go.RowKit
theorem plainTry_67 : plainFn Try.prog 67 = true := by kernel_rfl
set_option maxRecDepth 10000 in
theorem unitI {M : Nat → Prop} {W0 : World} {σ : List VObj} {n : Nat} (h0 : 0 < n) (hn : n ≤ 1000) : InCall Try.prog M W0 75 σ [.d (DI (n : Nat))] (fun σ2 x2 => (∀ j, j < σ.length → σ2[j]? = σ[j]?) ∧ ∃ oid ids, x2 = .osl oid 0 n 1 n false ∧ WN n σ2 oid ids (oneI n) ∧ ∀ j, (j = oid ∨ j ∈ ids) → σ.length ≤ j) := by
  refine inCall_K Try.func75 rfl (Nat.le_of_ble_eq_true rfl) ?_
  refine KC.seq ?_
  refine KC.region ?_
  refine KT.step rfl rfl (K.assign rfl) ?_
  refine KT.nil ?_
  refine thenK_n ?_
  refine KC.seq ?_
  refine KC.region ?_
  refine KT.step rfl rfl (K.assign rfl) ?_
  refine KT.nil ?_
  refine thenK_n ?_
  refine KC.seq ?_
  refine KC.seq ?_
  refine KC.region ?_
  refine KT.step rfl rfl (K.move rfl) ?_
  refine KT.step rfl rfl (K.move rfl) ?_
  refine KT.nil ?_
  refine thenK_n ?_
  refine KC.block ?_
  refine KC.loop (fun p : List VObj × XV × List Nat => p.1) (fun p => [(0, .d (DI (n : Nat))), (3, p.2.1), (7, .d (DI (n : Nat))), (8, .d (DI (p.2.2.length : Nat)))]) (fun p => p.2.2.length ≤ n ∧ RowsI n (oneI n) p.1 p.2.1 p.2.2 ∧ (∀ k k' id : Nat, p.2.2[k]? = some id → p.2.2[k']? = some id → k = k') ∧ (∀ j, j < σ.length → p.1[j]? = σ[j]?) ∧ (∀ j, (j ∈ p.2.2 ∨ idX p.2.1 = some j) → σ.length ≤ j)) (fun p => n - p.2.2.length) (σ, .d Dnil, []) ⟨Nat.zero_le _, .zero, (fun k k' id h => by simp at h), (fun j hj => rfl), fun j hj => by rcases hj with hj | hj; simp at hj; cases hj⟩ rfl (by simp [Go.Vm.look, extK, enterK]) ?_
  intro p hp
  obtain ⟨σ0, x0, ids⟩ := p
  obtain ⟨hi, rows, nd, kp, lo⟩ := hp
  simp only at hi rows nd kp lo ⊢
  refine KC.seq ?_
  refine KC.region ?_
  refine KT.step rfl rfl (K.lss rfl rfl) ?_
  refine KT.nil ?_
  refine thenK_n ?_
  refine KC.seq ?_
  refine KC.cond rfl (fun hc9 => ?_) (fun hc9 => ?_)
  · skip
    replace hc9 := of_decide_eq_true hc9
    have hin : ids.length < n := by omega
    refine KC.skip ?_
    refine thenK_n ?_
    refine KC.seq ?_
    refine KC.block ?_
    refine KC.seq ?_
    refine KC.region ?_
    refine KT.step rfl rfl (K.move rfl) ?_
    refine KT.step rfl rfl (K.assign rfl) ?_
    refine KT.nil ?_
    refine thenK_n ?_
    refine KC.seq ?_
    refine KC.region ?_
    refine KT.step rfl rfl (K.move rfl) ?_
    refine KT.step rfl rfl (K.make rfl rfl (Nat.le_refl _) (by omega) Try.underlying33 Try.one3) ?_
    rw [mixL_rep (n := n) (f := rowF (oneI n) ids.length)]
    refine KT.step rfl rfl (K.assign rfl) ?_
    refine KT.nil ?_
    refine thenK_n ?_
    refine KC.seq ?_
    refine KC.seq ?_
    refine KC.region ?_
    refine KT.step rfl rfl (K.move rfl) ?_
    refine KT.step rfl rfl (K.lenO rfl Try.underlying33) ?_
    refine KT.step rfl rfl (K.move rfl) ?_
    refine KT.nil ?_
    refine thenK_n ?_
    refine KC.block ?_
    refine KC.loop (fun j : Nat => σ0 ++ [⟨mixL n (rowF (oneI n) ids.length) (fun _ => .d (.lit (.int .i64 0))) j, 0⟩]) (fun j => [(0, .d (DI (n : Nat))), (3, x0), (7, .d (DI (n : Nat))), (8, .d (DI (ids.length : Nat))), (4, .d (DI (ids.length : Nat))), (5, .osl σ0.length 0 n 1 n true), (14, .d (DI (n : Nat))), (15, .d (DI (j : Nat)))]) (fun j => j ≤ n) (fun j => n - j) 0 (Nat.zero_le _) rfl (by simp [Go.Vm.look, extK]) ?_
    intro j hj
    refine KC.seq ?_
    refine KC.region ?_
    refine KT.step rfl rfl (K.lss rfl rfl) ?_
    refine KT.nil ?_
    refine thenK_n ?_
    refine KC.seq ?_
    refine KC.cond rfl (fun hc16 => ?_) (fun hc16 => ?_)
    · skip
      replace hc16 := of_decide_eq_true hc16
      refine KC.skip ?_
      refine thenK_n ?_
      refine KC.seq ?_
      refine KC.block ?_
      refine KC.seq ?_
      refine KC.region ?_
      refine KT.step rfl rfl (K.move rfl) ?_
      refine KT.step rfl rfl (K.assign rfl) ?_
      refine KT.nil ?_
      refine thenK_n ?_
      refine KC.seq ?_
      refine KC.region ?_
      refine KT.step rfl rfl (K.move rfl) ?_
      refine KT.step rfl rfl (K.move rfl) ?_
      refine KT.step rfl rfl (K.neq rfl rfl) ?_
      refine KT.nil ?_
      refine thenK_n ?_
      refine KC.cond rfl (fun hc20 => ?_) (fun hc20 => ?_)
      · skip
        replace hc20 := of_decide_eq_true hc20
        refine KC.region ?_
        refine KT.step rfl rfl (K.move rfl) ?_
        refine KT.step rfl rfl (K.move rfl) ?_
        refine KT.step rfl rfl (K.idxO rfl rfl (by omega) Try.underlying33 Try.size3) ?_
        refine KT.step rfl rfl (K.storeO rfl rfl (List.getElem?_concat_length ..) (by rw [mixL_len]; omega) rfl rfl Try.size3) ?_
        rw [set_last, mixL_put (show j < n by omega)]
        refine KT.nil ?_
        refine blockK_n ?_
        refine thenK_n ?_
        refine KC.region ?_
        refine KT.step rfl rfl (K.add rfl rfl (wrap_id (by omega))) ?_
        refine KT.step rfl rfl (K.move rfl) ?_
        refine KT.nil ?_
        refine thenK_n ?_
        refine ⟨j + 1, by omega, by omega, ?_, by simp [Go.Vm.look, extK]⟩
        rw [← mixL_done (show j < n by omega)]
        congr 4; funext q; split
        · rename_i e; subst e; show _ = XV.d (DI (oneI n ids.length _)); rw [oneI_ne (by omega)]; rfl
        · rfl
      · skip
        replace hc20 := of_decide_eq_false hc20
        refine KC.skip ?_
        refine blockK_n ?_
        refine thenK_n ?_
        refine KC.region ?_
        refine KT.step rfl rfl (K.add rfl rfl (wrap_id (by omega))) ?_
        refine KT.step rfl rfl (K.move rfl) ?_
        refine KT.nil ?_
        refine thenK_n ?_
        refine ⟨j + 1, by omega, by omega, ?_, by simp [Go.Vm.look, extK]⟩
        rw [unit_skip hin (by omega) (by omega)]
    · skip
      replace hc16 := of_decide_eq_false hc16
      refine KC.exit ?_
      refine thenK_x ?_
      refine thenK_x ?_
      refine blockK_e ?_
      refine thenK_n ?_
      refine KC.region ?_
      refine KT.step rfl rfl (K.move rfl) ?_
      refine KT.step rfl rfl (K.move rfl) ?_
      rw [show j = n by omega, rowS_mix]
      refine KT.step rfl rfl (K.build1' (v := oslI n σ0.length) rfl rfl Try.underlying22 Try.one33) ?_
      refine KT.appK (k := 1) (vs := [oslI n σ0.length]) rfl rfl rfl rfl ((rows.own.pushed _).pushed _) (by simp) rfl rfl (by simp <;> omega) Try.underlying22 Try.size33 bytes33 cells33 (by omega) fun σ1 x1 ho1 k1 w1' => ?_
      have hrow1 : σ1[σ0.length]? = some ⟨rowS n (oneI n) ids.length, 0⟩ := by
        rw [k1 _ (fun e => by have := rows.own.lt e; omega) (by simp), List.getElem?_append_left (by simp), List.getElem?_append_right (Nat.le_refl _)]
        simp
      refine KT.step rfl rfl (K.assign rfl) ?_
      refine KT.nil ?_
      refine blockK_n ?_
      refine thenK_n ?_
      refine KC.region ?_
      refine KT.step rfl rfl (K.add rfl rfl (wrap_id (by omega))) ?_
      refine KT.step rfl rfl (K.move rfl) ?_
      refine KT.nil ?_
      refine thenK_n ?_
      have hlt : ∀ id ∈ ids, id < σ0.length := fun id hm => by
        obtain ⟨k, hk⟩ := List.mem_iff_getElem?.1 hm
        exact (List.getElem?_eq_some_iff.1 (rows.row k id hk)).1
      have hsl : σ.length ≤ σ0.length := by
        by_cases h : σ.length ≤ σ0.length
        · exact h
        · have := kp (σ.length - 1) (by omega)
          rw [List.getElem?_eq_none (by omega), List.getElem?_eq_getElem (by omega)] at this; cases this
      refine ⟨(σ1, x1, ids ++ [σ0.length]), ⟨by simp; omega, rows.step ho1 k1 w1' hrow1 (fun _ _ => rfl), nd_snocN nd fun hm => by have := hlt _ hm; omega, fun j hj => ?_, fun j hj => ?_⟩, by simp; omega, rfl, by simp [Go.Vm.look, extK]⟩
      · simp only
        rw [k1 j (fun e => by have := lo j (.inr e); omega) (by simp; omega), List.getElem?_append_left (by simp; omega), List.getElem?_append_left (by omega)]
        exact kp j hj
      · rcases hj with hj | hj
        · rcases List.mem_append.1 hj with hj | hj
          · exact lo j (.inl hj)
          · simp at hj; omega
        · obtain ⟨j1, e1, l1⟩ := w1'
          simp only at hj
          rw [e1] at hj; cases hj
          simp at l1; omega
  · skip
    replace hc9 := of_decide_eq_false hc9
    have hin : ids.length = n := by omega
    refine KC.exit ?_
    refine thenK_x ?_
    refine thenK_x ?_
    refine blockK_e ?_
    refine thenK_n ?_
    refine KC.seq ?_
    refine KC.region ?_
    refine KT.step rfl rfl (K.move rfl) ?_
    refine KT.step rfl rfl (K.assign rfl) ?_
    refine KT.nil ?_
    refine thenK_n ?_
    refine KC.ret ?_
    obtain ⟨oid, rfl, hW2⟩ := rows.wn (by omega) hin nd
    exact ⟨.inl rfl, _, rfl, kp, oid, ids, rfl, hW2, fun j hj => lo j (hj.elim (fun e => .inr (by rw [e]; rfl)) .inl)⟩
set_option maxHeartbeats 1000000 in
set_option maxRecDepth 10000 in
theorem rprodI {M : Nat → Prop} {W0 : World} {σ : List VObj} {aid : Nat} {aids : List Nat} {e : DV} {n : Nat} {a b : Nat → Nat → Int} (hA : WN n σ aid aids a) (he : Mat e (genM n n b)) (h0 : 0 < n) (hn : n ≤ 1000) (ha : GoodM 1000000000000 a) (hb : GoodM 1000000000000 b) : InCall Try.prog M W0 51 σ [.osl aid 0 n 1 n false, .d e] (fun σ2 x2 => (∀ j, j < σ.length → σ2[j]? = σ[j]?) ∧ ∃ oid ids, x2 = .osl oid 0 n 1 n false ∧ WN n σ2 oid ids (prodI n a b) ∧ ∀ j, (j = oid ∨ j ∈ ids) → σ.length ≤ j) := by
  refine inCall_K Try.func51 rfl (Nat.le_of_ble_eq_true rfl) ?_
  refine KC.seq ?_
  refine KC.region ?_
  refine KT.step rfl rfl (K.assign rfl) ?_
  refine KT.nil ?_
  refine thenK_n ?_
  refine KC.seq ?_
  refine KC.region ?_
  refine KT.step rfl rfl (K.assign rfl) ?_
  refine KT.nil ?_
  refine thenK_n ?_
  refine KC.seq ?_
  refine KC.seq ?_
  refine KC.region ?_
  refine KT.step rfl rfl (K.move rfl) ?_
  refine KT.step rfl rfl (K.lenO rfl Try.underlying22) ?_
  refine KT.step rfl rfl (K.move rfl) ?_
  refine KT.nil ?_
  refine thenK_n ?_
  refine KC.block ?_
  refine KC.loop (fun p : List VObj × XV × List Nat => p.1) (fun p => [(0, .osl aid 0 n 1 n false), (1, .d e), (5, p.2.1), (11, .d (DI (n : Nat))), (12, .d (DI (p.2.2.length : Nat)))]) (fun p => p.2.2.length ≤ n ∧ RowsI n (prodI n a b) p.1 p.2.1 p.2.2 ∧ (∀ k k' id : Nat, p.2.2[k]? = some id → p.2.2[k']? = some id → k = k') ∧ (∀ j, j < σ.length → p.1[j]? = σ[j]?) ∧ (∀ j, (j ∈ p.2.2 ∨ idX p.2.1 = some j) → σ.length ≤ j)) (fun p => n - p.2.2.length) (σ, .d Dnil, []) ⟨Nat.zero_le _, .zero, (fun k k' id h => by simp at h), (fun j hj => rfl), fun j hj => by rcases hj with hj | hj; simp at hj; cases hj⟩ rfl (by simp [Go.Vm.look, extK, enterK]) ?_
  intro p hp
  obtain ⟨σ0, x0, ids⟩ := p
  obtain ⟨hi, rows, nd, kp, lo⟩ := hp
  simp only at hi rows nd kp lo ⊢
  refine KC.seq ?_
  refine KC.region ?_
  refine KT.step rfl rfl (K.lss rfl rfl) ?_
  refine KT.nil ?_
  refine thenK_n ?_
  refine KC.seq ?_
  refine KC.cond rfl (fun hc13 => ?_) (fun hc13 => ?_)
  · skip
    replace hc13 := of_decide_eq_true hc13
    have hin : ids.length < n := by omega
    obtain ⟨rid, hrid, hcell, hrow⟩ := hA.id hin
    have o0 := (kp aid (hA.lt (.inl rfl))).trans hA.out
    have r0 := (kp rid (hA.lt (.inr (List.mem_of_getElem? hrid)))).trans hrow
    refine KC.skip ?_
    refine thenK_n ?_
    refine KC.seq ?_
    refine KC.block ?_
    refine KC.seq ?_
    refine KC.region ?_
    refine KT.step rfl rfl (K.move rfl) ?_
    refine KT.step rfl rfl (K.assign rfl) ?_
    refine KT.nil ?_
    refine thenK_n ?_
    refine KC.seq ?_
    refine KC.region ?_
    refine KT.step rfl rfl (K.move rfl) ?_
    refine KT.step rfl rfl (K.lenO rfl Try.underlying22) ?_
    refine KT.step rfl rfl (K.make rfl rfl (Nat.le_refl _) (by omega) Try.underlying33 Try.one3) ?_
    rw [mixL_rep (n := n) (f := rowF (prodI n a b) ids.length)]
    refine KT.step rfl rfl (K.assign rfl) ?_
    refine KT.nil ?_
    refine thenK_n ?_
    refine KC.seq ?_
    refine KC.seq ?_
    refine KC.region ?_
    refine KT.step rfl rfl (K.move rfl) ?_
    refine KT.step rfl rfl (K.lenO rfl Try.underlying33) ?_
    refine KT.step rfl rfl (K.move rfl) ?_
    refine KT.nil ?_
    refine thenK_n ?_
    refine KC.block ?_
    refine KC.loop (fun j : Nat => σ0 ++ [⟨mixL n (rowF (prodI n a b) ids.length) (fun _ => .d (.lit (.int .i64 0))) j, 0⟩]) (fun j => [(0, .osl aid 0 n 1 n false), (1, .d e), (5, x0), (11, .d (DI (n : Nat))), (12, .d (DI (ids.length : Nat))), (6, .d (DI (ids.length : Nat))), (7, .osl σ0.length 0 n 1 n true), (19, .d (DI (n : Nat))), (20, .d (DI (j : Nat)))]) (fun j => j ≤ n) (fun j => n - j) 0 (Nat.zero_le _) rfl (by simp [Go.Vm.look, extK]) ?_
    intro j hj
    refine KC.seq ?_
    refine KC.region ?_
    refine KT.step rfl rfl (K.lss rfl rfl) ?_
    refine KT.nil ?_
    refine thenK_n ?_
    refine KC.seq ?_
    refine KC.cond rfl (fun hc21 => ?_) (fun hc21 => ?_)
    · skip
      replace hc21 := of_decide_eq_true hc21
      refine KC.skip ?_
      refine thenK_n ?_
      refine KC.seq ?_
      refine KC.block ?_
      refine KC.seq ?_
      refine KC.region ?_
      refine KT.step rfl rfl (K.move rfl) ?_
      refine KT.step rfl rfl (K.assign rfl) ?_
      refine KT.nil ?_
      refine thenK_n ?_
      refine KC.seq ?_
      refine KC.region ?_
      refine KT.step rfl rfl (K.move rfl) ?_
      refine KT.step rfl rfl (K.move rfl) ?_
      refine KT.step rfl rfl (K.idxO rfl rfl (by omega) Try.underlying33 Try.size3) ?_
      refine KT.step rfl rfl (K.storeO rfl rfl (List.getElem?_concat_length ..) (by rw [mixL_len]; omega) rfl rfl Try.size3) ?_
      rw [set_last, mixL_put (show j < n by omega)]
      refine KT.nil ?_
      refine thenK_n ?_
      refine KC.seq ?_
      refine KC.region ?_
      refine KT.step rfl rfl (K.move rfl) ?_
      refine KT.step rfl rfl (K.lenO rfl Try.underlying22) ?_
      refine KT.step rfl rfl (K.move rfl) ?_
      refine KT.nil ?_
      refine thenK_n ?_
      refine KC.block ?_
      refine KC.loop (fun k : Nat => σ0 ++ [⟨mixL n (rowF (prodI n a b) ids.length) (fun q => if q = j then (.d (DI (greR k fun q => aft (a ids.length q) (b q j)))) else (.d (.lit (.int .i64 0)))) j, 0⟩]) (fun k => [(0, .osl aid 0 n 1 n false), (1, .d e), (5, x0), (11, .d (DI (n : Nat))), (12, .d (DI (ids.length : Nat))), (6, .d (DI (ids.length : Nat))), (7, .osl σ0.length 0 n 1 n true), (19, .d (DI (n : Nat))), (20, .d (DI (j : Nat))), (8, .d (DI (j : Nat))), (27, .d (DI (n : Nat))), (28, .d (DI (k : Nat)))]) (fun k => k ≤ n) (fun k => n - k) 0 (Nat.zero_le _) rfl (by simp [Go.Vm.look, extK]) ?_
      intro k hk
      refine KC.seq ?_
      refine KC.region ?_
      refine KT.step rfl rfl (K.lss rfl rfl) ?_
      refine KT.nil ?_
      refine thenK_n ?_
      refine KC.seq ?_
      refine KC.cond rfl (fun hc29 => ?_) (fun hc29 => ?_)
      · skip
        replace hc29 := of_decide_eq_true hc29
        refine KC.skip ?_
        refine thenK_n ?_
        refine KC.seq ?_
        refine KC.block ?_
        refine KC.seq ?_
        refine KC.region ?_
        refine KT.step rfl rfl (K.move rfl) ?_
        refine KT.step rfl rfl (K.assign rfl) ?_
        refine KT.nil ?_
        refine thenK_n ?_
        refine KC.seq ?_
        refine KC.region ?_
        refine KT.step rfl rfl (K.move rfl) ?_
        refine KT.step rfl rfl (K.move rfl) ?_
        refine KT.step rfl rfl (K.idxO (m := ids.length) rfl rfl hin Try.underlying22 Try.size33) ?_
        refine KT.step rfl rfl (K.loadO rfl (get_left o0) (by simp) hcell Try.agg33) ?_
        refine KT.step rfl rfl (K.move rfl) ?_
        refine KT.step rfl rfl (K.idxO (m := k) rfl rfl (by omega) Try.underlying33 Try.size3) ?_
        refine KT.step rfl rfl (K.loadO rfl (get_left r0) (by simp) (rowS_get (show k < n by omega)) Try.agg3) ?_
        refine KT.step rfl rfl (K.neq rfl rfl) ?_
        refine KT.step rfl rfl (K.move rfl) ?_
        refine KT.bcase (fun hb39 => ?_) (fun hb39 => ?_)
        · skip
          replace hb39 := of_decide_eq_true hb39
          refine KT.step rfl rfl (K.move rfl) ?_
          refine KT.step rfl rfl (K.move rfl) ?_
          refine KT.idx rfl rfl rfl (by assumption) rfl (by rw [genM_len]; omega) Try.underlying22 Try.size33 fun c42 cs42 hq42 => ?_
          rw [genM_row] at hq42
          refine KT.step rfl rfl (K.load rfl Try.agg33) ?_
          refine KT.step rfl rfl (K.move rfl) ?_
          refine KT.idxI rfl rfl rfl (by assumption) rfl (by simp; omega) Try.underlying33 Try.size3 fun cs45 => ?_
          rw [get_range]
          refine KT.step rfl rfl (K.load rfl Try.agg3) ?_
          refine KT.step rfl rfl (K.neq rfl rfl) ?_
          refine KT.step rfl rfl (K.pick rfl (fun _ => rfl) (fun h => by cases h)) ?_
          refine KT.nil ?_
          refine thenK_n ?_
          refine KC.cond rfl (fun hc48 => ?_) (fun hc48 => ?_)
          · skip
            replace hc48 := of_decide_eq_true hc48
            refine KC.draw Try.mixed ?_
            refine KT.step rfl rfl (K.move rfl) ?_
            refine KT.step rfl rfl (K.move rfl) ?_
            refine KT.step rfl rfl (K.move rfl) ?_
            refine KT.step rfl rfl (K.move rfl) ?_
            refine KT.step rfl rfl (K.idxO rfl rfl (by omega) Try.underlying33 Try.size3) ?_
            refine KT.step rfl rfl (K.loadO rfl (List.getElem?_concat_length ..) (by simp) (mixL_get (by omega)) Try.agg3) ?_
            refine KT.step rfl rfl (K.move rfl) ?_
            refine KT.step rfl rfl (K.move rfl) ?_
            refine KT.step rfl rfl (K.idxO (m := ids.length) rfl rfl hin Try.underlying22 Try.size33) ?_
            refine KT.step rfl rfl (K.loadO rfl (get_left o0) (by simp) hcell Try.agg33) ?_
            refine KT.step rfl rfl (K.move rfl) ?_
            refine KT.step rfl rfl (K.idxO (m := k) rfl rfl (by omega) Try.underlying33 Try.size3) ?_
            refine KT.step rfl rfl (K.loadO rfl (get_left r0) (by simp) (rowS_get (show k < n by omega)) Try.agg3) ?_
            refine KT.step rfl rfl (K.move rfl) ?_
            refine KT.step rfl rfl (K.move rfl) ?_
            refine KT.idx rfl rfl rfl (by assumption) rfl (by rw [genM_len]; omega) Try.underlying22 Try.size33 fun c64 cs64 hq64 => ?_
            rw [genM_row] at hq64
            refine KT.step rfl rfl (K.load rfl Try.agg33) ?_
            refine KT.step rfl rfl (K.move rfl) ?_
            refine KT.idxI rfl rfl rfl (by assumption) rfl (by simp; omega) Try.underlying33 Try.size3 fun cs67 => ?_
            rw [get_range]
            refine KT.step rfl rfl (K.load rfl Try.agg3) ?_
            refine KT.step rfl rfl (K.add rfl rfl (wrap_id (by have := good_bd (ha ids.length k) (Int.le_refl _); have := good_bd (hb k j) (Int.le_refl _); omega))) ?_
            refine KT.step rfl rfl (K.max2 rfl rfl) ?_
            refine KT.step rfl rfl (K.idxO rfl rfl (by omega) Try.underlying33 Try.size3) ?_
            refine KT.step rfl rfl (K.storeO rfl rfl (List.getElem?_concat_length ..) (by rw [mixL_len]; omega) rfl rfl Try.size3) ?_
            rw [set_last, mixL_put2 (show j < n by omega)]
            refine KT.nil ?_
            refine ⟨by kernel_rfl, ?_⟩
            refine blockK_n ?_
            refine thenK_n ?_
            refine KC.region ?_
            refine KT.step rfl rfl (K.add rfl rfl (wrap_id (by omega))) ?_
            refine KT.step rfl rfl (K.move rfl) ?_
            refine KT.nil ?_
            refine thenK_n ?_
            refine ⟨k + 1, by omega, by omega, ?_, by simp [Go.Vm.look, extK]⟩
            rw [greR_succ, show aft (a ids.length k) (b k j) = a ids.length k + b k j from if_neg (by rintro (h | h); exact hb39 h; exact hc48 h)]
          · skip
            replace hc48 := of_decide_eq_false hc48
            refine KC.skip ?_
            refine blockK_n ?_
            refine thenK_n ?_
            refine KC.region ?_
            refine KT.step rfl rfl (K.add rfl rfl (wrap_id (by omega))) ?_
            refine KT.step rfl rfl (K.move rfl) ?_
            refine KT.nil ?_
            refine thenK_n ?_
            refine ⟨k + 1, by omega, by omega, ?_, by simp [Go.Vm.look, extK]⟩
            rw [greR_nv (show aft (a ids.length k) (b k j) = Nv from if_pos (.inr (Classical.not_not.1 hc48)))]
        · skip
          replace hb39 := of_decide_eq_false hb39
          refine KT.skip rfl rfl ?_
          refine KT.skip rfl rfl ?_
          refine KT.skip rfl rfl ?_
          refine KT.skip rfl rfl ?_
          refine KT.skip rfl rfl ?_
          refine KT.skip rfl rfl ?_
          refine KT.skip rfl rfl ?_
          refine KT.skip rfl rfl ?_
          refine KT.step rfl rfl (K.pick rfl (fun h => by cases h) (fun _ => rfl)) ?_
          refine KT.nil ?_
          refine thenK_n ?_
          refine KC.cond rfl (fun hc48 => ?_) (fun hc48 => ?_)
          · cases hc48
          · skip
            refine KC.skip ?_
            refine blockK_n ?_
            refine thenK_n ?_
            refine KC.region ?_
            refine KT.step rfl rfl (K.add rfl rfl (wrap_id (by omega))) ?_
            refine KT.step rfl rfl (K.move rfl) ?_
            refine KT.nil ?_
            refine thenK_n ?_
            refine ⟨k + 1, by omega, by omega, ?_, by simp [Go.Vm.look, extK]⟩
            rw [greR_nv (show aft (a ids.length k) (b k j) = Nv from if_pos (.inl (Classical.not_not.1 hb39)))]
      · skip
        replace hc29 := of_decide_eq_false hc29
        refine KC.exit ?_
        refine thenK_x ?_
        refine thenK_x ?_
        refine blockK_e ?_
        refine blockK_n ?_
        refine thenK_n ?_
        refine KC.region ?_
        refine KT.step rfl rfl (K.add rfl rfl (wrap_id (by omega))) ?_
        refine KT.step rfl rfl (K.move rfl) ?_
        refine KT.nil ?_
        refine thenK_n ?_
        refine ⟨j + 1, by omega, by omega, ?_, by simp [Go.Vm.look, extK]⟩
        rw [← mixL_done (show j < n by omega)]
        congr 4; funext q; split
        · rename_i e; subst e; show _ = XV.d (DI (prodI n a b ids.length _)); rw [prodI_greR, show k = n by omega]
        · rfl
    · skip
      replace hc21 := of_decide_eq_false hc21
      refine KC.exit ?_
      refine thenK_x ?_
      refine thenK_x ?_
      refine blockK_e ?_
      refine thenK_n ?_
      refine KC.region ?_
      refine KT.step rfl rfl (K.move rfl) ?_
      refine KT.step rfl rfl (K.move rfl) ?_
      rw [show j = n by omega, rowS_mix]
      refine KT.step rfl rfl (K.build1' (v := oslI n σ0.length) rfl rfl Try.underlying22 Try.one33) ?_
      refine KT.appK (k := 1) (vs := [oslI n σ0.length]) rfl rfl rfl rfl ((rows.own.pushed _).pushed _) (by simp) rfl rfl (by simp <;> omega) Try.underlying22 Try.size33 bytes33 cells33 (by omega) fun σ1 x1 ho1 k1 w1' => ?_
      have hrow1 : σ1[σ0.length]? = some ⟨rowS n (prodI n a b) ids.length, 0⟩ := by
        rw [k1 _ (fun e => by have := rows.own.lt e; omega) (by simp), List.getElem?_append_left (by simp), List.getElem?_append_right (Nat.le_refl _)]
        simp
      refine KT.step rfl rfl (K.assign rfl) ?_
      refine KT.nil ?_
      refine blockK_n ?_
      refine thenK_n ?_
      refine KC.region ?_
      refine KT.step rfl rfl (K.add rfl rfl (wrap_id (by omega))) ?_
      refine KT.step rfl rfl (K.move rfl) ?_
      refine KT.nil ?_
      refine thenK_n ?_
      have hlt : ∀ id ∈ ids, id < σ0.length := fun id hm => by
        obtain ⟨k, hk⟩ := List.mem_iff_getElem?.1 hm
        exact (List.getElem?_eq_some_iff.1 (rows.row k id hk)).1
      have hsl : σ.length ≤ σ0.length := by
        by_cases h : σ.length ≤ σ0.length
        · exact h
        · have := kp (σ.length - 1) (by omega)
          rw [List.getElem?_eq_none (by omega), List.getElem?_eq_getElem (by omega)] at this; cases this
      refine ⟨(σ1, x1, ids ++ [σ0.length]), ⟨by simp; omega, rows.step ho1 k1 w1' hrow1 (fun _ _ => rfl), nd_snocN nd fun hm => by have := hlt _ hm; omega, fun j hj => ?_, fun j hj => ?_⟩, by simp; omega, rfl, by simp [Go.Vm.look, extK]⟩
      · simp only
        rw [k1 j (fun e => by have := lo j (.inr e); omega) (by simp; omega), List.getElem?_append_left (by simp; omega), List.getElem?_append_left (by omega)]
        exact kp j hj
      · rcases hj with hj | hj
        · rcases List.mem_append.1 hj with hj | hj
          · exact lo j (.inl hj)
          · simp at hj; omega
        · obtain ⟨j1, e1, l1⟩ := w1'
          simp only at hj
          rw [e1] at hj; cases hj
          simp at l1; omega
  · skip
    replace hc13 := of_decide_eq_false hc13
    have hin : ids.length = n := by omega
    refine KC.exit ?_
    refine thenK_x ?_
    refine thenK_x ?_
    refine blockK_e ?_
    refine thenK_n ?_
    refine KC.seq ?_
    refine KC.region ?_
    refine KT.step rfl rfl (K.move rfl) ?_
    refine KT.step rfl rfl (K.assign rfl) ?_
    refine KT.nil ?_
    refine thenK_n ?_
    refine KC.ret ?_
    obtain ⟨oid, rfl, hW2⟩ := rows.wn (by omega) hin nd
    exact ⟨.inl rfl, _, rfl, kp, oid, ids, rfl, hW2, fun j hj => lo j (hj.elim (fun e => .inr (by rw [e]; rfl)) .inl)⟩
set_option maxHeartbeats 2000000 in
set_option maxRecDepth 10000 in
theorem rstar67 {d : DV} {n : Nat} {a : Nat → Nat → Int} {B : Int} (hd : Mat d (genM n n a)) (h1 : 1 ≤ n) (hn : n ≤ 6) (ha : GoodM B a) (hB : 0 ≤ B ∧ B ≤ 1000000) : DeepCall Try.prog 67 [d] (genS n (curI n a (n - 1)) n) := by
  refine deepCall_K 5 Try.func67 rfl (Nat.le_of_ble_eq_true rfl) fun M W0 => ?_
  refine KC.seq ?_
  refine KC.region ?_
  refine KT.step rfl rfl (K.assign rfl) ?_
  refine KT.nil ?_
  refine thenK_n ?_
  refine KC.seq ?_
  refine KC.regionL ?_
  refine KL.step rfl rfl (K.move rfl) ?_
  refine KL.step rfl rfl (K.len rfl hd Try.underlying22) ?_
  rw [genM_len]
  refine KL.call rfl rfl rfl rfl rfl plainTry_75 (unitI (σ := []) (n := n) (by omega) (by omega)) fun σ1 x1 hq => ?_
  obtain ⟨_, oid, ids, rfl, hU, _⟩ := hq
  refine KL.step rfl rfl (K.assign rfl) ?_
  refine KL.nil ?_
  refine thenK_n ?_
  refine KC.seq ?_
  refine KC.region ?_
  refine KT.step rfl rfl (K.move rfl) ?_
  refine KT.step rfl rfl (K.assign rfl) ?_
  refine KT.nil ?_
  refine thenK_n ?_
  refine KC.seq ?_
  refine KC.seq ?_
  refine KC.region ?_
  refine KT.step rfl rfl (K.move rfl) ?_
  refine KT.step rfl rfl (K.len rfl hd Try.underlying22) ?_
  rw [genM_len]
  refine KT.step rfl rfl (K.sub rfl rfl (show IntKind.i64.wrap ((n : Int) - 1) = ((n - 1 : Nat) : Int) from (wrap_id (by omega)).trans (by omega))) ?_
  refine KT.step rfl rfl (K.move rfl) ?_
  refine KT.nil ?_
  refine thenK_n ?_
  refine KC.block ?_
  refine KC.loop (fun p : List VObj × Nat × List Nat × Nat => p.1) (fun p => [(3, .osl oid 0 n 1 n false), (0, .d d), (15, .d (DI (n - 1 : Nat))), (4, .osl p.2.1 0 n 1 n false), (16, .d (DI (p.2.2.2 : Nat)))]) (fun p => p.2.2.2 ≤ n - 1 ∧ WN n p.1 p.2.1 p.2.2.1 (pwI n a p.2.2.2) ∧ WN n p.1 oid ids (curI n a p.2.2.2)) (fun p => n - 1 - p.2.2.2) (σ1, oid, ids, 0) ⟨Nat.zero_le _, hU, hU⟩ rfl (by simp [Go.Vm.look, extK, enterK]) ?_
  clear hU
  intro p hp
  obtain ⟨σ0, pid, pids, k⟩ := p
  obtain ⟨hk, hP, hO⟩ := hp
  simp only at hk hP hO ⊢
  refine KC.seq ?_
  refine KC.region ?_
  refine KT.step rfl rfl (K.lss rfl rfl) ?_
  refine KT.nil ?_
  refine thenK_n ?_
  refine KC.seq ?_
  refine KC.cond rfl (fun hc17 => ?_) (fun hc17 => ?_)
  · skip
    replace hc17 := of_decide_eq_true hc17
    have hk1 : k < n - 1 := by omega
    have hkb : (k : Int) * B ≤ 6 * 1000000 := Int.le_trans (Int.mul_le_mul_of_nonneg_right (show (k : Int) ≤ 6 by omega) hB.1) (Int.mul_le_mul_of_nonneg_left hB.2 (by omega))
    refine KC.skip ?_
    refine thenK_n ?_
    refine KC.seq ?_
    refine KC.block ?_
    refine KC.seq ?_
    refine KC.regionL ?_
    refine KL.step rfl rfl (K.move rfl) ?_
    refine KL.step rfl rfl (K.move rfl) ?_
    refine KL.call rfl rfl rfl rfl rfl plainTry_51 (rprodI hP hd (by omega) (by omega) (fun i j => (pw_good ha hB.1 k i j).mono (by omega)) (fun i j => (ha i j).mono (by omega))) fun σ1 x1 hq => ?_
    obtain ⟨kp, pid1, pids1, rfl, hP1, hlo⟩ := hq
    have hO1 : WN n σ1 oid ids (curI n a k) := hO.keep kp
    have hap : ∀ j, (j = oid ∨ j ∈ ids) → ¬ (j = pid1 ∨ j ∈ pids1) := fun j h1 h2 => by
      have := hO.lt h1
      have := hlo j h2
      omega
    refine KL.step rfl rfl (K.assign rfl) ?_
    refine KL.nil ?_
    refine thenK_n ?_
    refine KC.seq ?_
    refine KC.region ?_
    refine KT.step rfl rfl (K.move rfl) ?_
    refine KT.step rfl rfl (K.lenO rfl Try.underlying22) ?_
    refine KT.step rfl rfl (K.move rfl) ?_
    refine KT.nil ?_
    refine thenK_n ?_
    refine KC.block ?_
    refine KC.loop (fun p : List VObj × Nat => p.1) (fun p => [(3, .osl oid 0 n 1 n false), (0, .d d), (15, .d (DI (n - 1 : Nat))), (4, .osl pid1 0 n 1 n false), (16, .d (DI (k : Nat))), (21, .osl pid1 0 n 1 n false), (22, .d (DI (n : Nat))), (23, .d (DI (p.2 : Nat)))]) (fun p => p.2 ≤ n ∧ WN n p.1 pid1 pids1 (pwI n a (k + 1)) ∧ WN n p.1 oid ids (mixG n a k p.2 0)) (fun p => n - p.2) (_, 0) ⟨Nat.zero_le _, hP1, hO1.same fun r _ j _ => mixG_zero n a k 0 rfl r j⟩ rfl (by simp [Go.Vm.look, extK]) ?_
    clear hP1 hO1
    intro p hp
    obtain ⟨σ2, r⟩ := p
    obtain ⟨hr, hP2, hO2⟩ := hp
    simp only at hr hP2 hO2 ⊢
    refine KC.seq ?_
    refine KC.region ?_
    refine KT.step rfl rfl (K.lss rfl rfl) ?_
    refine KT.nil ?_
    refine thenK_n ?_
    refine KC.seq ?_
    refine KC.cond rfl (fun hc24 => ?_) (fun hc24 => ?_)
    · skip
      replace hc24 := of_decide_eq_true hc24
      have hrl : r < n := by omega
      obtain ⟨prid, hprid, hpc, hpr⟩ := hP2.id hrl
      obtain ⟨orid, horid, hoc, hor⟩ := hO2.id hrl
      have hne : prid ≠ orid := fun e => hap orid (.inr (List.mem_of_getElem? horid)) (.inr (e ▸ List.mem_of_getElem? hprid))
      refine KC.skip ?_
      refine thenK_n ?_
      refine KC.seq ?_
      refine KC.block ?_
      refine KC.seq ?_
      refine KC.region ?_
      refine KT.step rfl rfl (K.move rfl) ?_
      refine KT.step rfl rfl (K.idxO (m := r) rfl rfl (by omega) Try.underlying22 Try.size33) ?_
      refine KT.step rfl rfl (K.loadO rfl hP2.out (by simp) hpc Try.agg33) ?_
      refine KT.step rfl rfl (K.assign rfl) ?_
      refine KT.step rfl rfl (K.assign rfl) ?_
      refine KT.nil ?_
      refine thenK_n ?_
      refine KC.seq ?_
      refine KC.region ?_
      refine KT.step rfl rfl (K.move rfl) ?_
      refine KT.step rfl rfl (K.lenO rfl Try.underlying33) ?_
      refine KT.step rfl rfl (K.move rfl) ?_
      refine KT.nil ?_
      refine thenK_n ?_
      refine KC.block ?_
      refine KC.loop (fun p : List VObj × Nat => p.1) (fun p => [(3, .osl oid 0 n 1 n false), (0, .d d), (15, .d (DI (n - 1 : Nat))), (4, .osl pid1 0 n 1 n false), (16, .d (DI (k : Nat))), (21, .osl pid1 0 n 1 n false), (22, .d (DI (n : Nat))), (23, .d (DI (r : Nat))), (5, .d (DI (r : Nat))), (28, oslI n prid), (29, .d (DI (n : Nat))), (30, .d (DI (p.2 : Nat)))]) (fun p => p.2 ≤ n ∧ WN n p.1 pid1 pids1 (pwI n a (k + 1)) ∧ WN n p.1 oid ids (mixG n a k r p.2)) (fun p => n - p.2) (σ2, 0) ⟨Nat.zero_le _, hP2, hO2⟩ rfl (by simp [Go.Vm.look, extK]) ?_
      intro p hp
      obtain ⟨σ3, j⟩ := p
      obtain ⟨hj, hP3, hO3⟩ := hp
      simp only at hj hP3 hO3 ⊢
      refine KC.seq ?_
      refine KC.region ?_
      refine KT.step rfl rfl (K.lss rfl rfl) ?_
      refine KT.nil ?_
      refine thenK_n ?_
      refine KC.seq ?_
      refine KC.cond rfl (fun hc31 => ?_) (fun hc31 => ?_)
      · skip
        replace hc31 := of_decide_eq_true hc31
        have hjl : j < n := by omega
        have hor3 : σ3[orid]? = some ⟨rowS n (mixG n a k r j) r, 0⟩ := hO3.row r orid horid
        have hpr3 : σ3[prid]? = some ⟨rowS n (pwI n a (k + 1)) r, 0⟩ := hP3.row r prid hprid
        refine KC.skip ?_
        refine thenK_n ?_
        refine KC.seq ?_
        refine KC.block ?_
        refine KC.seq ?_
        refine KC.region ?_
        refine KT.step rfl rfl (K.move rfl) ?_
        refine KT.step rfl rfl (K.idxO (m := j) rfl rfl (by omega) Try.underlying33 Try.size3) ?_
        refine KT.step rfl rfl (K.loadO rfl hpr3 (by simp) (rowS_get (show j < n by omega)) Try.agg3) ?_
        refine KT.step rfl rfl (K.assign rfl) ?_
        refine KT.step rfl rfl (K.assign rfl) ?_
        refine KT.nil ?_
        refine thenK_n ?_
        refine KC.draw Try.mixed ?_
        refine KT.step rfl rfl (K.move rfl) ?_
        refine KT.step rfl rfl (K.move rfl) ?_
        refine KT.step rfl rfl (K.idxO (m := r) rfl rfl (by omega) Try.underlying22 Try.size33) ?_
        refine KT.step rfl rfl (K.loadO rfl hO3.out (by simp) hoc Try.agg33) ?_
        refine KT.step rfl rfl (K.move rfl) ?_
        refine KT.step rfl rfl (K.move rfl) ?_
        refine KT.step rfl rfl (K.move rfl) ?_
        refine KT.step rfl rfl (K.idxO (m := r) rfl rfl (by omega) Try.underlying22 Try.size33) ?_
        refine KT.step rfl rfl (K.loadO rfl hO3.out (by simp) hoc Try.agg33) ?_
        refine KT.step rfl rfl (K.move rfl) ?_
        refine KT.step rfl rfl (K.idxO (m := j) rfl rfl (by omega) Try.underlying33 Try.size3) ?_
        refine KT.step rfl rfl (K.loadO rfl hor3 (by simp) (rowS_get (show j < n by omega)) Try.agg3) ?_
        rw [mixG_at]
        refine KT.step rfl rfl (K.move rfl) ?_
        refine KT.step rfl rfl (K.max2 rfl rfl) ?_
        refine KT.step rfl rfl (K.idxO (m := j) rfl rfl (by omega) Try.underlying33 Try.size3) ?_
        refine KT.storeG rfl rfl rfl rfl hor3 (by simp [rowS]; omega) rfl rfl Try.size3 fun σ4 l4 u4 v4 => ?_
        refine KT.nil ?_
        refine ⟨by kernel_rfl, ?_⟩
        refine blockK_n ?_
        refine thenK_n ?_
        refine KC.region ?_
        refine KT.step rfl rfl (K.add rfl rfl (wrap_id (by omega))) ?_
        refine KT.step rfl rfl (K.move rfl) ?_
        refine KT.nil ?_
        refine thenK_n ?_
        refine ⟨(σ4, j + 1), ⟨by simp only; omega, hP3.keepI fun i hi => v4 i (fun e => hap orid (.inr (List.mem_of_getElem? horid)) (e ▸ hi)), ?_⟩, by simp only; omega, rfl, by simp [Go.Vm.look, extK]⟩
        exact hO3.put horid u4 v4 (mixG_step rfl)
      · skip
        replace hc31 := of_decide_eq_false hc31
        refine KC.exit ?_
        refine thenK_x ?_
        refine thenK_x ?_
        refine blockK_e ?_
        refine blockK_n ?_
        refine thenK_n ?_
        refine KC.region ?_
        refine KT.step rfl rfl (K.add rfl rfl (wrap_id (by omega))) ?_
        refine KT.step rfl rfl (K.move rfl) ?_
        refine KT.nil ?_
        refine thenK_n ?_
        refine ⟨(σ3, r + 1), ⟨by simp only; omega, hP3, ?_⟩, by simp only; omega, rfl, by simp [Go.Vm.look, extK]⟩
        have hjn : j = n := by omega
        rw [hjn] at hO3
        exact hO3.same mixG_row
    · skip
      replace hc24 := of_decide_eq_false hc24
      refine KC.exit ?_
      refine thenK_x ?_
      refine thenK_x ?_
      refine blockK_e ?_
      refine blockK_n ?_
      refine thenK_n ?_
      refine KC.region ?_
      refine KT.step rfl rfl (K.add rfl rfl (wrap_id (by omega))) ?_
      refine KT.step rfl rfl (K.move rfl) ?_
      refine KT.nil ?_
      refine thenK_n ?_
      refine ⟨(σ2, pid1, pids1, k + 1), ⟨by simp only; omega, hP2, ?_⟩, by simp only; omega, rfl, by simp [Go.Vm.look, extK]⟩
      have hrn : r = n := by omega
      subst hrn
      exact hO2.same mixG_done
  · skip
    replace hc17 := of_decide_eq_false hc17
    refine KC.exit ?_
    refine thenK_x ?_
    refine thenK_x ?_
    refine blockK_e ?_
    refine thenK_n ?_
    refine KC.seq ?_
    refine KC.region ?_
    refine KT.step rfl rfl (K.move rfl) ?_
    refine KT.step rfl rfl (K.assign rfl) ?_
    refine KT.nil ?_
    refine thenK_n ?_
    refine KC.ret ?_
    have hk2 : k = n - 1 := by omega
    subst hk2
    exact ⟨.inl rfl, _, rfl, hO.fin false⟩
end Go.Proofs.Ythbnnffmhnjpjaa

