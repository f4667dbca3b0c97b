import Derived.Test.YtjfpeiioddfjcaaZnRc
import Derived.Test.YtjfpeiioddfjcaaZnRb
/-
  Zones: the reference: all ways.
-/
namespace Go.Proofs.Ytjfpeiioddfjcaa
open Go.Vm Go.Zn

theorem set_get {σ : List VObj} {k j : Nat} {o : VObj} (h : j ≠ k) : (σ.set k o)[j]? = σ[j]? := by rw [List.getElem?_set, if_neg (fun e => h e.symm)]
theorem ownE_pushed {σ : List VObj} {ex : Bool} {x : XV} {cells : List XV} (h : OwnE σ ex x cells) (τ : List VObj) : OwnE (σ ++ τ) ex x cells := h.keep fun j hj => List.getElem?_append_left (h.lt hj)
theorem way_step {n : Nat} {q : List Nat} {j : Nat} (h1 : ∀ x ∈ q, x < n) (h2 : q.Nodup) (hj : j < n) (hq : j ∉ q) : (∀ x ∈ q ++ [j], x < n) ∧ (q ++ [j]).Nodup := by
  refine ⟨fun x hx => ?_, List.nodup_append.2 ⟨h2, by simp, fun x hx y hy e => by simp at hy; subst hy; subst e; exact hq hx⟩⟩
  rcases List.mem_append.1 hx with h | h
  · exact h1 x h
  · simp at h; omega
set_option maxHeartbeats 1000000 in
set_option maxRecDepth 10000 in
theorem ways92_step {n f : Nat} {q : List Nat} {d : DV} (hd : Ints d (zl q)) (hq : q ≠ []) (hql : q.length ≤ 4) (hn : n ≤ 4) (hf : f ≤ 4)
    (ih : ∀ j, j < n → j ∉ q → DeepCall Try.prog 92 [DI (n : Nat), intsDV (zl (q ++ [j]))] (wD n f (q ++ [j]) (intsDV (zl (q ++ [j]))))) : DeepCall Try.prog 92 [DI (n : Nat), d] (wD n (f + 1) q d) := by
  have hsd : SlD d := SlD.of hd
  have hzq : (zl q).length = q.length := zl_len
  have hpw : (n + 1) ^ f ≤ 5 ^ 4 := Nat.le_trans (Nat.pow_le_pow_left (by omega) f) (Nat.pow_le_pow_right (by decide) hf)
  refine deepCall_K 5 Try.func92 rfl (Nat.le_of_ble_eq_true rfl) fun M W0 => ?_
  refine KC.seq ?_
  refine KC.region ?_
  refine KT.step rfl rfl (K.assign rfl) ?_
  refine KT.nil ?_
  refine thenK_n ?_
  refine KC.seq ?_
  refine KC.region ?_
  refine KT.step rfl rfl (K.move rfl) ?_
  refine KT.step rfl rfl (K.build1' (v := .d d) rfl hsd.cells Try.underlying22 Try.one23) ?_
  refine KT.step rfl rfl (K.assign rfl) ?_
  refine KT.nil ?_
  refine thenK_n ?_
  refine KC.seq ?_
  refine KC.seq ?_
  refine KC.region ?_
  refine KT.step rfl rfl (K.move rfl) ?_
  refine KT.step rfl rfl (K.move rfl) ?_
  refine KT.nil ?_
  refine thenK_n ?_
  refine KC.block ?_
  refine KC.loop (fun p : List VObj × XV × Nat => p.1) (fun p => [(0, .d (DI (n : Nat))), (1, .d d), (5, p.2.1), (12, .d (DI (n : Nat))), (13, .d (DI (p.2.2 : Nat)))]) (fun p => p.2.2 ≤ n ∧ OwnE p.1 (decide ((wDp n f q d p.2.2).length = 1)) p.2.1 ((wDp n f q d p.2.2).map .d)) (fun p => n - p.2.2) (_, .osl 0 0 1 1 1 true, 0) ⟨Nat.zero_le _, show OwnE [(⟨[.d d], 0⟩ : VObj)] true (.osl 0 0 1 1 1 true) [.d d] from OwnE.sl rfl rfl⟩ rfl (by simp [Go.Vm.look, extK, enterK]) ?_
  intro p hp
  obtain ⟨hj, hown⟩ := hp
  refine KC.seq ?_
  refine KC.region ?_
  refine KT.step rfl rfl (K.lss rfl rfl) ?_
  refine KT.nil ?_
  refine thenK_n ?_
  refine KC.seq ?_
  refine KC.cond rfl (fun hc14 => ?_) (fun hc14 => ?_)
  · skip
    replace hc14 := of_decide_eq_true hc14
    refine KC.skip ?_
    refine thenK_n ?_
    refine KC.seq ?_
    refine KC.block ?_
    refine KC.seq ?_
    refine KC.region ?_
    refine KT.step rfl rfl (K.move rfl) ?_
    refine KT.step rfl rfl (K.assign rfl) ?_
    refine KT.nil ?_
    refine thenK_n ?_
    refine KC.seq ?_
    refine KC.region ?_
    refine KT.step rfl rfl (K.assign rfl) ?_
    refine KT.nil ?_
    refine thenK_n ?_
    refine KC.seq ?_
    refine KC.seq ?_
    refine KC.region ?_
    refine KT.step rfl rfl (K.move rfl) ?_
    refine KT.step rfl rfl (K.len rfl hd Try.underlying23) ?_
    refine KT.step rfl rfl (K.move rfl) ?_
    refine KT.nil ?_
    refine thenK_n ?_
    refine KC.block ?_
    refine KC.loop (fun _ : Nat => p.1) (fun k => [(0, .d (DI (n : Nat))), (1, .d d), (5, p.2.1), (12, .d (DI (n : Nat))), (13, .d (DI (p.2.2 : Nat))), (6, .d (DI (p.2.2 : Nat))), (7, .d (DB (decide ((p.2.2 : Int) ∈ (zl q).take k)))), (16, .d d), (17, .d (DI ((zl q).length : Nat))), (18, .d (DI (k : Nat)))]) (fun k => k ≤ (zl q).length) (fun k => (zl q).length - k) 0 (Nat.zero_le _) rfl (by simp [Go.Vm.look, extK]) ?_
    intro k hk
    refine KC.seq ?_
    refine KC.region ?_
    refine KT.step rfl rfl (K.lss rfl rfl) ?_
    refine KT.nil ?_
    refine thenK_n ?_
    refine KC.seq ?_
    refine KC.cond rfl (fun hc19 => ?_) (fun hc19 => ?_)
    · skip
      replace hc19 := of_decide_eq_true hc19
      have hkl : k < (zl q).length := by omega
      refine KC.skip ?_
      refine thenK_n ?_
      refine KC.seq ?_
      refine KC.block ?_
      refine KC.seq ?_
      refine KC.region ?_
      refine KT.idxI rfl rfl rfl hd rfl hkl Try.underlying23 Try.size3 fun cs20 => ?_
      refine KT.step rfl rfl (K.load rfl Try.agg3) ?_
      refine KT.step rfl rfl (K.assign rfl) ?_
      refine KT.nil ?_
      refine thenK_n ?_
      refine KC.region ?_
      refine KT.step rfl rfl (K.move rfl) ?_
      refine KT.step rfl rfl (K.move rfl) ?_
      refine KT.bcase (fun hb23 => ?_) (fun hb23 => ?_)
      · skip
        refine KT.skip rfl rfl ?_
        refine KT.skip rfl rfl ?_
        refine KT.skip rfl rfl ?_
        refine KT.step rfl rfl (K.pick rfl (fun _ => rfl) (fun h => by cases h)) ?_
        refine KT.step rfl rfl (K.assign rfl) ?_
        refine KT.nil ?_
        refine blockK_n ?_
        refine thenK_n ?_
        refine KC.region ?_
        refine KT.step rfl rfl (K.add rfl rfl (wrap_id (by omega))) ?_
        refine KT.step rfl rfl (K.move rfl) ?_
        refine KT.nil ?_
        refine thenK_n ?_
        refine ⟨k + 1, by omega, by omega, rfl, ?_⟩
        rw [used_succ hkl, hb23, Bool.true_or]
        simp [Go.Vm.look, extK]
      · skip
        refine KT.step rfl rfl (K.move rfl) ?_
        refine KT.step rfl rfl (K.move rfl) ?_
        refine KT.step rfl rfl (K.eql rfl rfl) ?_
        refine KT.step rfl rfl (K.pick rfl (fun h => by cases h) (fun _ => rfl)) ?_
        refine KT.step rfl rfl (K.assign rfl) ?_
        refine KT.nil ?_
        refine blockK_n ?_
        refine thenK_n ?_
        refine KC.region ?_
        refine KT.step rfl rfl (K.add rfl rfl (wrap_id (by omega))) ?_
        refine KT.step rfl rfl (K.move rfl) ?_
        refine KT.nil ?_
        refine thenK_n ?_
        refine ⟨k + 1, by omega, by omega, rfl, ?_⟩
        rw [used_succ hkl, hb23, Bool.false_or]
        simp [Go.Vm.look, extK]
    · skip
      replace hc19 := of_decide_eq_false hc19
      refine KC.exit ?_
      refine thenK_x ?_
      refine thenK_x ?_
      refine blockK_e ?_
      refine thenK_n ?_
      refine KC.seq ?_
      refine KC.region ?_
      refine KT.step rfl rfl (K.move rfl) ?_
      refine KT.step rfl rfl (K.not rfl) ?_
      refine KT.nil ?_
      refine thenK_n ?_
      refine KC.cond rfl (fun hc30 => ?_) (fun hc30 => ?_)
      · skip
        rw [Bool.not_eq_true'] at hc30
        have hjq : p.2.2 ∉ q := fun h => by
          have := of_decide_eq_false hc30
          rw [List.take_of_length_le (by omega)] at this
          exact this (zl_mem.2 h)
        refine KC.region ?_
        refine KT.step rfl rfl (K.move rfl) ?_
        refine KT.step rfl rfl (K.move rfl) ?_
        refine KT.step rfl rfl (K.build0 Try.underlying23 Try.one3) ?_
        refine KT.step rfl rfl (K.move rfl) ?_
        refine KT.appD rfl rfl rfl rfl hd (OwnE.sl (List.getElem?_concat_length ..) rfl) (by simp [hzq]; omega) Try.underlying23 Try.one3 fun σ1 x1 ho1 k1 w1 => ?_
        rw [show (if zl q = [] then true else false) = false from if_neg (fun h => hq (by have := congrArg List.length h; rw [hzq] at this; exact List.length_eq_zero_iff.1 this))] at ho1
        obtain ⟨c, rfl, hc1⟩ := ownE_ex ho1
        rw [show ([] : List XV) ++ (zl q).map (fun v => .d (DI v)) = cellsI (zl q) from rfl] at ho1 hc1 ⊢
        have hcge : p.1.length ≤ c := by
          rcases w1 with h | ⟨j, h, hj⟩
          · simp [idX] at h; omega
          · simp [idX] at h; simp at hj; omega
        have ho := (ownE_pushed hown [⟨[], 0⟩]).keep (σ' := σ1) fun j hj => k1 j (by have := hown.lt hj; simp [idX]; omega) (by have := hown.lt hj; simp; omega)
        refine KT.step rfl rfl (K.move rfl) ?_
        refine KT.step rfl rfl (K.build1' (v := .d (DI (p.2.2 : Nat))) rfl rfl Try.underlying23 Try.one3) ?_
        refine KT.step rfl rfl (K.appQ1 (cells := cellsI (zl q)) rfl rfl (get_left hc1) rfl (List.getElem?_concat_length ..) rfl (by rw [cellsI_len, hzq]; omega) Try.underlying23 Try.one3) ?_
        refine KT.step rfl rfl (K.callZ (ds := [DI (n : Nat), intsDV (zl (q ++ [p.2.2]))]) [(σ1 ++ [(⟨[.d (DI (p.2.2 : Nat))], 0⟩ : VObj)]).length] 5 rfl plainTry_92 (map2_deep (own_deep (l := zl (q ++ [p.2.2])) (new_deep _ (by rw [List.length_set])) (by simp) (by rw [cellsI_len, zl_snoc]; simp))) (ih p.2.2 (by omega) hjq)) ?_
        have ho3 : OwnE (freezeIds ((σ1 ++ [(⟨[.d (DI (p.2.2 : Nat))], 0⟩ : VObj)]).set c ⟨cellsI (zl q), 2⟩ ++ [⟨cellsI (zl q) ++ [.d (DI (p.2.2 : Nat))], 0⟩]) [(σ1 ++ [(⟨[.d (DI (p.2.2 : Nat))], 0⟩ : VObj)]).length]) (decide ((wDp n f q d p.2.2).length = 1)) p.2.1 ((wDp n f q d p.2.2).map .d) := ho.keep fun j hj => by
          have h1 := hown.lt hj
          have h2 := ho.lt hj
          rw [freezeIds_not (by simp; omega), List.getElem?_append_left (by simp; omega), set_get (by omega), List.getElem?_append_left h2]
        have hwl := wDp_len (n := n) (f := f) (q := q) (d := d) p.2.2
        have hwd := wDs_len (n := n) f (q ++ [p.2.2]) (intsDV (zl (q ++ [p.2.2])))
        have hjm : p.2.2 * (n + 1) ^ f ≤ 4 * 5 ^ 4 := Nat.mul_le_mul (by omega) hpw
        refine KT.appS rfl rfl rfl rfl rfl (by omega) (wDs_one f _ _ (.sl _ _ _)) ho3 (by rw [List.length_map]; omega) Try.underlying22 Try.one23 fun σ4 x4 ho4 k4 w4 => ?_
        refine KT.step rfl rfl (K.assign rfl) ?_
        refine KT.nil ?_
        refine blockK_n ?_
        refine thenK_n ?_
        refine KC.region ?_
        refine KT.step rfl rfl (K.add rfl rfl (wrap_id (by omega))) ?_
        refine KT.step rfl rfl (K.move rfl) ?_
        refine KT.nil ?_
        refine thenK_n ?_
        refine ⟨(σ4, x4, p.2.2 + 1), ⟨by simp only; omega, ?_⟩, by simp only; omega, rfl, by simp [Go.Vm.look, extK]⟩
        show OwnE _ (decide ((wDp n f q d (p.2.2 + 1)).length = 1)) _ ((wDp n f q d (p.2.2 + 1)).map .d)
        rw [wDp_new hjq, decide_eq_false (by rw [List.length_append]; omega), List.map_append]
        exact ho4
      · skip
        rw [Bool.not_eq_false'] at hc30
        have hjq : p.2.2 ∈ q := by
          have := of_decide_eq_true hc30
          rw [List.take_of_length_le (by omega)] at this
          exact zl_mem.1 this
        refine KC.skip ?_
        refine blockK_n ?_
        refine thenK_n ?_
        refine KC.region ?_
        refine KT.step rfl rfl (K.add rfl rfl (wrap_id (by omega))) ?_
        refine KT.step rfl rfl (K.move rfl) ?_
        refine KT.nil ?_
        refine thenK_n ?_
        refine ⟨(p.1, p.2.1, p.2.2 + 1), ⟨by simp only; omega, ?_⟩, by simp only; omega, rfl, by simp [Go.Vm.look, extK]⟩
        show OwnE _ (decide ((wDp n f q d (p.2.2 + 1)).length = 1)) _ ((wDp n f q d (p.2.2 + 1)).map .d)
        rw [wDp_in hjq]
        exact hown
  · skip
    replace hc14 := of_decide_eq_false hc14
    refine KC.exit ?_
    refine thenK_x ?_
    refine thenK_x ?_
    refine blockK_e ?_
    refine thenK_n ?_
    refine KC.seq ?_
    refine KC.region ?_
    refine KT.step rfl rfl (K.move rfl) ?_
    refine KT.step rfl rfl (K.assign rfl) ?_
    refine KT.nil ?_
    refine thenK_n ?_
    refine KC.ret ?_
    have hjn : p.2.2 = n := by omega
    rw [hjn] at hown
    exact ⟨.inl rfl, _, rfl, fin_wV hown rfl⟩

theorem ways92 {n : Nat} (hn : n ≤ 4) : ∀ (f : Nat) (q : List Nat) (d : DV), Ints d (zl q) → q ≠ [] → (∀ x ∈ q, x < n) → q.Nodup → n < f + q.length → f ≤ 5 → DeepCall Try.prog 92 [DI (n : Nat), d] (wD n f q d)
  | 0, q, d, _, _, h1, h2, h3, _ => by have := dif_len h1 h2; omega
  | f + 1, q, d, hd, hq, h1, h2, h3, hf => ways92_step hd hq (by have := dif_len h1 h2; omega) hn (by omega) fun j hj hjq => by
    obtain ⟨s1, s2⟩ := way_step h1 h2 hj hjq
    exact ways92 hn f (q ++ [j]) _ (intsDV_ints _) (by simp) s1 s2 (by rw [List.length_append]; simp; omega) (by omega)
end Go.Proofs.Ytjfpeiioddfjcaa

