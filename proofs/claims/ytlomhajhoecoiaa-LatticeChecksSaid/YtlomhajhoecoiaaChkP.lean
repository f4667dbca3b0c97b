/-
  CONTRACTS for LatticeChecks: the checks of the reference.
-/
import Derived.Test.YtlomhajhoecoiaaChkO
namespace Go.Proofs.Ytlomhajhoecoiaa
open Go.Vm Go.Big Go.Det
theorem plainTry_20 : plainFn Try.prog 20 = true := by kernel_rfl
theorem plainTry_26 : plainFn Try.prog 26 = true := by kernel_rfl

theorem bytes35 : bytesT Try.prog 35 ≤ 65536 := of_decide_eq_true (by kernel_rfl)
theorem cells35 : (zeroT Try.prog 35).map (·.cells.size) = some 1 := by kernel_rfl
theorem own_sl {σ : List VObj} {x v : XV} {cells : List XV} (h : OwnK 1 σ x (cells ++ [v])) : ∃ id n, x = .osl id 0 n 1 n false ∧ σ[id]? = some ⟨cells ++ [v], 0⟩ ∧ (cells ++ [v]).length = n * 1 := by
  generalize hc : cells ++ [v] = l at h
  cases h with
  | nil => simp at hc
  | sl h hn => subst hc; exact ⟨_, _, rfl, h, hn⟩
def unitF (i j : Nat) : Int := if i = j then 1 else 0
set_option maxRecDepth 10000 in
theorem unit54 {n : Nat} (h0 : 0 < n) (hn : n ≤ 1000) : DeepCall Try.prog 54 [DI (n : Int)] (genS n unitF n) := by
  refine deepCall_K 5 Try.func54 rfl (Nat.le_of_ble_eq_true rfl) fun M W0 => ?_
  refine KC.seq ?_
  refine KC.region ?_
  refine KT.step rfl rfl (K.assign rfl) ?_
  refine KT.nil ?_
  refine thenK_n ?_
  refine KC.seq ?_
  refine KC.region ?_
  refine KT.step rfl rfl (K.assign rfl) ?_
  refine KT.nil ?_
  refine thenK_n ?_
  refine KC.seq ?_
  refine KC.seq ?_
  refine KC.region ?_
  refine KT.step rfl rfl (K.move rfl) ?_
  refine KT.step rfl rfl (K.move rfl) ?_
  refine KT.nil ?_
  refine thenK_n ?_
  refine KC.block ?_
  refine KC.loop (fun p : List VObj × XV × List Nat => p.1) (fun p => [(0, .d (DI (n : Int))), (3, p.2.1), (5, .d (DI (n : Int))), (6, .d (DI (p.2.2.length : Nat)))]) (fun p => p.2.2.length ≤ n ∧ RowsI n unitF p.1 p.2.1 p.2.2) (fun p => n - p.2.2.length) ([], .d Dnil, []) ⟨Nat.zero_le _, .zero⟩ rfl (by simp [Go.Vm.look, extK, enterK]) ?_
  intro p hp
  obtain ⟨σ0, x0, ids⟩ := p
  obtain ⟨hi, rows⟩ := hp
  simp only at hi rows ⊢
  refine KC.seq ?_
  refine KC.region ?_
  refine KT.step rfl rfl (K.lss rfl rfl) ?_
  refine KT.nil ?_
  refine thenK_n ?_
  refine KC.seq ?_
  refine KC.cond rfl (fun hc7 => ?_) (fun hc7 => ?_)
  · skip
    replace hc7 := of_decide_eq_true hc7
    have hin : ids.length < n := by omega
    refine KC.skip ?_
    refine thenK_n ?_
    refine KC.seq ?_
    refine KC.block ?_
    refine KC.seq ?_
    refine KC.region ?_
    refine KT.step rfl rfl (K.move rfl) ?_
    refine KT.step rfl rfl (K.assign rfl) ?_
    refine KT.nil ?_
    refine thenK_n ?_
    refine KC.seq ?_
    refine KC.region ?_
    refine KT.step rfl rfl (K.move rfl) ?_
    refine KT.step rfl rfl (K.move rfl) ?_
    refine KT.step rfl rfl (K.make rfl rfl (Nat.le_refl _) (by omega) Try.underlying35 Try.one3) ?_
    refine KT.step rfl rfl (K.build1' (v := oslI n σ0.length) rfl rfl Try.underlying22 Try.one35) ?_
    refine KT.appK (k := 1) (vs := [oslI n σ0.length]) rfl rfl rfl rfl ((rows.own.pushed _).pushed _) (by simp) rfl rfl (by simp <;> omega) Try.underlying22 Try.size35 bytes35 cells35 (by omega) fun σ1 x1 ho1 k1 w1' => ?_
    have hrow1 : σ1[σ0.length]? = some ⟨List.replicate n (.d (.lit (.int .i64 0))), 0⟩ := by
      rw [k1 _ (fun e => by have := rows.own.lt e; omega) (by simp), List.getElem?_append_left (by simp), List.getElem?_append_right (Nat.le_refl _)]
      simp
    obtain ⟨id1, n1, rfl, hid1, hn1⟩ := own_sl ho1
    have hget1 : (ids.map (oslI n) ++ [oslI n σ0.length])[0 + ids.length]? = some (oslI n σ0.length) := by
      rw [Nat.zero_add, List.getElem?_append_right (by simp)]
      simp
    have hn1' : n1 = ids.length + 1 := by simp at hn1; omega
    subst hn1' 
    refine KT.step rfl rfl (K.assign rfl) ?_
    refine KT.nil ?_
    refine thenK_n ?_
    refine KC.region ?_
    refine KT.step rfl rfl (K.move rfl) ?_
    refine KT.step rfl rfl (K.move rfl) ?_
    refine KT.step rfl rfl (K.idxO rfl rfl (by omega) Try.underlying22 Try.size35) ?_
    refine KT.step rfl rfl (K.loadO rfl hid1 (by simp) hget1 Try.agg35) ?_
    refine KT.step rfl rfl (K.move rfl) ?_
    refine KT.step rfl rfl (K.idxO rfl rfl (by omega) Try.underlying35 Try.size3) ?_
    refine KT.storeG rfl rfl rfl rfl hrow1 (by simp <;> omega) rfl rfl Try.size3 fun σ2 l2 u2 v2 => ?_
    rw [row_one (g := unitF) (by omega) (by simp [unitF]) (fun j hj => by simp [unitF]; omega)] at u2
    refine KT.nil ?_
    refine blockK_n ?_
    refine thenK_n ?_
    refine KC.region ?_
    refine KT.step rfl rfl (K.add rfl rfl (wrap_id (by omega))) ?_
    refine KT.step rfl rfl (K.move rfl) ?_
    refine KT.nil ?_
    refine thenK_n ?_
    refine ⟨(σ2, _, ids ++ [σ0.length]), ⟨by simp; omega, rows.step ho1 k1 w1' u2 v2⟩, by simp; omega, rfl, by simp [Go.Vm.look, extK]⟩
  · skip
    replace hc7 := of_decide_eq_false hc7
    have hin : ids.length = n := by omega
    refine KC.exit ?_
    refine thenK_x ?_
    refine thenK_x ?_
    refine blockK_e ?_
    refine thenK_n ?_
    refine KC.seq ?_
    refine KC.region ?_
    refine KT.step rfl rfl (K.move rfl) ?_
    refine KT.step rfl rfl (K.assign rfl) ?_
    refine KT.nil ?_
    refine thenK_n ?_
    refine KC.ret ?_
    refine ⟨.inl rfl, _, rfl, ?_⟩
    rw [rows.fin (by omega), hin]

theorem wide_facts {m : List (List Int)} {r n : Nat} (h : wideB m r n = true) : m.length = r ∧ (∀ row ∈ m, row.length = n) ∧ Ent (2 ^ 40) m := by
  obtain ⟨h1, h2, h3, _⟩ := wideB_facts h
  exact ⟨h1, h2, h3⟩
theorem uni_wide {u : List (List Int)} {n : Nat} (h : uniB u n = true) : wideB u n n = true := by
  unfold uniB at h
  exact (Bool.and_eq_true_iff.1 h).1
noncomputable def hermRef (a h u : List (List Int)) : Bool := ((wideB h a.length (hd0 a).length && uniB u a.length) && formB h (hd0 a).length) && refP u a (genM (hd0 a).length (hd0 a).length unitF) h (hd0 a).length (hd0 a).length
noncomputable def smithRef (a : List (List Int)) (s : List Int) (u v : List (List Int)) : Bool := (((smithB s && decide ((s.length : Int) = ((min a.length (hd0 a).length : Nat) : Int))) && uniB u a.length) && uniB v (hd0 a).length) && refP u a v (genM a.length (hd0 a).length (wantF s)) (hd0 a).length (hd0 a).length
noncomputable def checkHr (a h u : List (List Int)) : DV := .tup [DB (validB a && hermRef a h u), DI (if validB a then 0 else 2)]
noncomputable def checkSr (a : List (List Int)) (s : List Int) (u v : List (List Int)) : DV := .tup [DB (validB a && smithRef a s u v), DI (if validB a then 0 else 2)]
theorem genM_len {R N : Nat} {f : Nat → Nat → Int} : (genM R N f).length = R := by simp [genM]
theorem genM_rows {R N : Nat} {f : Nat → Nat → Int} : ∀ r ∈ genM R N f, r.length = N := fun r hr => by obtain ⟨k, _, rfl⟩ := List.mem_map.1 hr; rw [List.length_map, List.length_range]
theorem genM_get {R N : Nat} {f : Nat → Nat → Int} {i j : Nat} (hi : i < R) (hj : j < N) : ((genM R N f).getD i []).getD j 0 = f i j := by simp [genM, hi, hj]
theorem unit_ent {n : Nat} : Ent (2 ^ 40) (genM n n unitF) := fun r hr x hx => by
  obtain ⟨i, _, rfl⟩ := List.mem_map.1 hr
  obtain ⟨j, _, rfl⟩ := List.mem_map.1 hx
  unfold unitF; split <;> decide
set_option maxRecDepth 10000 in
theorem checkHr20 {d e f : DV} {a h u : List (List Int)} (hd : Mat d a) (he : Mat e h) (hf : Mat f u) (hal : a.length ≤ 9223372036854775807) (har : ∀ row ∈ a, row.length ≤ 9223372036854775807) (hhl : h.length ≤ 9223372036854775807) (hhr : ∀ row ∈ h, row.length ≤ 9223372036854775807) (hul : u.length ≤ 9223372036854775807) (hur : ∀ row ∈ u, row.length ≤ 9223372036854775807) : DeepCall Try.prog 20 [d, e, f] (checkHr a h u) := by
  have hdec : validB a = true → 1 ≤ a.length ∧ a.length ≤ 4 ∧ 1 ≤ (hd0 a).length ∧ (hd0 a).length ≤ 5 ∧ (∀ r ∈ a, r.length = (hd0 a).length) ∧ Ent 20 a := valid_facts
  refine deepCall_K 5 Try.func20 rfl (Nat.le_of_ble_eq_true rfl) fun M W0 => ?_
  refine KC.seq ?_
  refine KC.region ?_
  refine KT.step rfl rfl (K.assign rfl) ?_
  refine KT.step rfl rfl (K.assign rfl) ?_
  refine KT.nil ?_
  refine thenK_n ?_
  refine KC.seq ?_
  refine KC.seq ?_
  refine KC.region ?_
  refine KT.step rfl rfl (K.move rfl) ?_
  refine KT.step rfl rfl (K.call1 rfl plainTry_18 (valid18 hd hal har)) ?_
  refine KT.step rfl rfl (K.not rfl) ?_
  refine KT.nil ?_
  refine thenK_n ?_
  refine KC.cond rfl (fun hc12 => ?_) (fun hc12 => ?_)
  · skip
    refine KC.seq ?_
    refine KC.region ?_
    refine KT.step rfl rfl (K.assign rfl) ?_
    refine KT.step rfl rfl (K.assign rfl) ?_
    refine KT.nil ?_
    refine thenK_n ?_
    refine KC.ret ?_
    refine thenK_r ?_
    refine ⟨.inl rfl, _, rfl, fin_t (k := 4) (σ := freezeAll []) ?_ ?_⟩
    · rw [Bool.not_eq_true'] at hc12
      rw [hc12]; rfl
    · rw [Bool.not_eq_true'] at hc12
      rw [hc12]; rfl
  · skip
    have hva : validB a = true := by rw [Bool.not_eq_false'] at hc12; exact hc12
    obtain ⟨v1, v2, v3, v4, v5, v6⟩ := hdec hva
    have h0 : 0 < a.length := by omega
    have e0 := hd0_eq h0
    refine KC.skip ?_
    refine thenK_n ?_
    refine KC.seq ?_
    refine KC.draw Try.mixed ?_
    refine KT.step rfl rfl (K.move rfl) ?_
    refine KT.step rfl rfl (K.len rfl hd Try.underlying22) ?_
    refine KT.step rfl rfl (K.move rfl) ?_
    refine KT.idx rfl rfl rfl hd rfl h0 Try.underlying22 Try.size35 fun c16 cs16 hq16 => ?_
    refine KT.step rfl rfl (K.load rfl Try.agg35) ?_
    refine KT.step rfl rfl (K.len rfl hq16 Try.underlying35) ?_
    rw [e0]
    refine KT.step rfl rfl (K.assign rfl) ?_
    refine KT.step rfl rfl (K.assign rfl) ?_
    refine KT.nil ?_
    refine ⟨by kernel_rfl, ?_⟩
    refine thenK_n ?_
    refine KC.seq ?_
    refine KC.seq ?_
    refine KC.region ?_
    refine KT.step rfl rfl (K.move rfl) ?_
    refine KT.step rfl rfl (K.move rfl) ?_
    refine KT.step rfl rfl (K.move rfl) ?_
    refine KT.step rfl rfl (K.call3 rfl rfl rfl plainTry_50 (wide50 he hhl hhr)) ?_
    refine KT.step rfl rfl (K.not rfl) ?_
    refine KT.step rfl rfl (K.move rfl) ?_
    refine KT.bcase (fun hb24 => ?_) (fun hb24 => ?_)
    · skip
      refine KT.skip rfl rfl ?_
      refine KT.skip rfl rfl ?_
      refine KT.skip rfl rfl ?_
      refine KT.skip rfl rfl ?_
      refine KT.step rfl rfl (K.pick rfl (fun _ => rfl) (fun h => by cases h)) ?_
      refine KT.step rfl rfl (K.move rfl) ?_
      refine KT.skip rfl rfl ?_
      refine KT.skip rfl rfl ?_
      refine KT.skip rfl rfl ?_
      refine KT.step rfl rfl (K.pick rfl (fun _ => rfl) (fun h => by cases h)) ?_
      refine KT.nil ?_
      refine thenK_n ?_
      refine KC.cond rfl (fun hc34 => ?_) (fun hc34 => ?_)
      · skip
        refine KC.seq ?_
        refine KC.region ?_
        refine KT.step rfl rfl (K.assign rfl) ?_
        refine KT.step rfl rfl (K.assign rfl) ?_
        refine KT.nil ?_
        refine thenK_n ?_
        refine KC.ret ?_
        refine thenK_r ?_
        refine ⟨.inl rfl, _, rfl, fin_t (k := 4) (σ := freezeAll []) ?_ ?_⟩
        · rw [hva]
          unfold hermRef
          rw [Bool.not_eq_true'] at hb24
          simp only [hb24, Bool.true_and, Bool.and_true, Bool.false_and, Bool.and_false]
        · rw [hva]; rfl
      · cases hc34
    · skip
      refine KT.step rfl rfl (K.move rfl) ?_
      refine KT.step rfl rfl (K.move rfl) ?_
      refine KT.step rfl rfl (K.call2 rfl rfl plainTry_51 (unimodular51 hf hul hur (by omega))) ?_
      refine KT.step rfl rfl (K.not rfl) ?_
      refine KT.step rfl rfl (K.pick rfl (fun h => by cases h) (fun _ => rfl)) ?_
      refine KT.step rfl rfl (K.move rfl) ?_
      refine KT.bcase (fun hb30 => ?_) (fun hb30 => ?_)
      · skip
        refine KT.skip rfl rfl ?_
        refine KT.skip rfl rfl ?_
        refine KT.skip rfl rfl ?_
        refine KT.step rfl rfl (K.pick rfl (fun _ => rfl) (fun h => by cases h)) ?_
        refine KT.nil ?_
        refine thenK_n ?_
        refine KC.cond rfl (fun hc34 => ?_) (fun hc34 => ?_)
        · skip
          refine KC.seq ?_
          refine KC.region ?_
          refine KT.step rfl rfl (K.assign rfl) ?_
          refine KT.step rfl rfl (K.assign rfl) ?_
          refine KT.nil ?_
          refine thenK_n ?_
          refine KC.ret ?_
          refine thenK_r ?_
          refine ⟨.inl rfl, _, rfl, fin_t (k := 4) (σ := freezeAll []) ?_ ?_⟩
          · rw [hva]
            unfold hermRef
            rw [Bool.not_eq_false'] at hb24
            rw [Bool.not_eq_true'] at hb30
            simp only [hb24, hb30, Bool.true_and, Bool.and_true, Bool.false_and, Bool.and_false]
          · rw [hva]; rfl
        · cases hc34
      · skip
        obtain ⟨w1, w2, w3⟩ := wide_facts (m := h) (r := a.length) (n := (hd0 a).length) (by rw [Bool.not_eq_false'] at hb24; exact hb24)
        obtain ⟨u1, u2, u3⟩ := wide_facts (uni_wide (u := u) (n := a.length) (by have h30 := hb30; rw [Bool.not_eq_false'] at h30; exact h30))
        refine KT.step rfl rfl (K.move rfl) ?_
        refine KT.step rfl rfl (K.call1 rfl plainTry_52 (form52 he w2 (by omega) (by omega) (by omega))) ?_
        refine KT.step rfl rfl (K.not rfl) ?_
        refine KT.step rfl rfl (K.pick rfl (fun h => by cases h) (fun _ => rfl)) ?_
        refine KT.nil ?_
        refine thenK_n ?_
        refine KC.cond rfl (fun hc34 => ?_) (fun hc34 => ?_)
        · skip
          refine KC.seq ?_
          refine KC.region ?_
          refine KT.step rfl rfl (K.assign rfl) ?_
          refine KT.step rfl rfl (K.assign rfl) ?_
          refine KT.nil ?_
          refine thenK_n ?_
          refine KC.ret ?_
          refine thenK_r ?_
          refine ⟨.inl rfl, _, rfl, fin_t (k := 4) (σ := freezeAll []) ?_ ?_⟩
          · rw [hva]
            unfold hermRef
            rw [Bool.not_eq_false'] at hb24
            rw [Bool.not_eq_false'] at hb30
            rw [Bool.not_eq_true'] at hc34
            simp only [hb24, hb30, hc34, Bool.true_and, Bool.and_true, Bool.false_and, Bool.and_false]
          · rw [hva]; rfl
        · skip
          refine KC.skip ?_
          refine thenK_n ?_
          refine KC.seq ?_
          refine KC.region ?_
          refine KT.step rfl rfl (K.move rfl) ?_
          refine KT.step rfl rfl (K.move rfl) ?_
          refine KT.step rfl rfl (K.move rfl) ?_
          refine KT.step rfl rfl (K.call1 rfl plainTry_54 (unit54 (by omega) (by omega))) ?_
          refine KT.step rfl rfl (K.move rfl) ?_
          refine KT.step rfl rfl (K.call4 rfl rfl rfl rfl plainTry_53 (product53 hf hd genS_mat he u2 v5 genM_rows w2 genM_len (by omega) (by omega) (by omega) (by omega) (by omega) (by omega) u3 v6 unit_ent (fun r hr x hx => by have := w3 r hr x hx; omega))) ?_
          refine KT.step rfl rfl (K.assign rfl) ?_
          refine KT.step rfl rfl (K.assign rfl) ?_
          refine KT.nil ?_
          refine thenK_n ?_
          refine KC.ret ?_
          refine ⟨.inl rfl, _, rfl, fin_t (k := 4) (σ := freezeAll []) ?_ ?_⟩
          · rw [hva]
            unfold hermRef
            rw [Bool.not_eq_false'] at hb24
            rw [Bool.not_eq_false'] at hb30
            rw [Bool.not_eq_false'] at hc34
            simp only [hb24, hb30, hc34, Bool.true_and, Bool.and_true, Bool.false_and, Bool.and_false]
          · rw [hva]; rfl
set_option maxRecDepth 10000 in
theorem checkSr26 {d e f g : DV} {a u v : List (List Int)} {s : List Int} (hd : Mat d a) (he : Ints e s) (hf : Mat f u) (hg : Mat g v) (hal : a.length ≤ 9223372036854775807) (har : ∀ row ∈ a, row.length ≤ 9223372036854775807) (hsl : s.length ≤ 9223372036854775807) (bs : ∀ x ∈ s, -9223372036854775808 ≤ x ∧ x ≤ 9223372036854775807) (hul : u.length ≤ 9223372036854775807) (hur : ∀ row ∈ u, row.length ≤ 9223372036854775807) (hvl : v.length ≤ 9223372036854775807) (hvr : ∀ row ∈ v, row.length ≤ 9223372036854775807) : DeepCall Try.prog 26 [d, e, f, g] (checkSr a s u v) := by
  have hdec : validB a = true → 1 ≤ a.length ∧ a.length ≤ 4 ∧ 1 ≤ (hd0 a).length ∧ (hd0 a).length ≤ 5 ∧ (∀ r ∈ a, r.length = (hd0 a).length) ∧ Ent 20 a := valid_facts
  refine deepCall_K 5 Try.func26 rfl (Nat.le_of_ble_eq_true rfl) fun M W0 => ?_
  refine KC.seq ?_
  refine KC.region ?_
  refine KT.step rfl rfl (K.assign rfl) ?_
  refine KT.step rfl rfl (K.assign rfl) ?_
  refine KT.nil ?_
  refine thenK_n ?_
  refine KC.seq ?_
  refine KC.seq ?_
  refine KC.region ?_
  refine KT.step rfl rfl (K.move rfl) ?_
  refine KT.step rfl rfl (K.call1 rfl plainTry_18 (valid18 hd hal har)) ?_
  refine KT.step rfl rfl (K.not rfl) ?_
  refine KT.nil ?_
  refine thenK_n ?_
  refine KC.cond rfl (fun hc16 => ?_) (fun hc16 => ?_)
  · skip
    refine KC.seq ?_
    refine KC.region ?_
    refine KT.step rfl rfl (K.assign rfl) ?_
    refine KT.step rfl rfl (K.assign rfl) ?_
    refine KT.nil ?_
    refine thenK_n ?_
    refine KC.ret ?_
    refine thenK_r ?_
    refine ⟨.inl rfl, _, rfl, fin_t (k := 4) (σ := freezeAll []) ?_ ?_⟩
    · rw [Bool.not_eq_true'] at hc16
      rw [hc16]; rfl
    · rw [Bool.not_eq_true'] at hc16
      rw [hc16]; rfl
  · skip
    have hva : validB a = true := by rw [Bool.not_eq_false'] at hc16; exact hc16
    obtain ⟨v1, v2, v3, v4, v5, v6⟩ := hdec hva
    have h0 : 0 < a.length := by omega
    have e0 := hd0_eq h0
    refine KC.skip ?_
    refine thenK_n ?_
    refine KC.seq ?_
    refine KC.draw Try.mixed ?_
    refine KT.step rfl rfl (K.move rfl) ?_
    refine KT.step rfl rfl (K.len rfl hd Try.underlying22) ?_
    refine KT.step rfl rfl (K.move rfl) ?_
    refine KT.idx rfl rfl rfl hd rfl h0 Try.underlying22 Try.size35 fun c20 cs20 hq20 => ?_
    refine KT.step rfl rfl (K.load rfl Try.agg35) ?_
    refine KT.step rfl rfl (K.len rfl hq20 Try.underlying35) ?_
    rw [e0]
    refine KT.step rfl rfl (K.assign rfl) ?_
    refine KT.step rfl rfl (K.assign rfl) ?_
    refine KT.nil ?_
    refine ⟨by kernel_rfl, ?_⟩
    refine thenK_n ?_
    refine KC.seq ?_
    refine KC.seq ?_
    refine KC.region ?_
    refine KT.step rfl rfl (K.move rfl) ?_
    refine KT.step rfl rfl (K.move rfl) ?_
    refine KT.step rfl rfl (K.move rfl) ?_
    refine KT.step rfl rfl (K.minN (a := a.length) (b := (hd0 a).length) rfl rfl) ?_
    refine KT.step rfl rfl (K.call2 rfl rfl plainTry_61 (list61 he hsl)) ?_
    refine KT.step rfl rfl (K.not rfl) ?_
    refine KT.step rfl rfl (K.move rfl) ?_
    refine KT.bcase (fun hb29 => ?_) (fun hb29 => ?_)
    · skip
      refine KT.skip rfl rfl ?_
      refine KT.skip rfl rfl ?_
      refine KT.skip rfl rfl ?_
      refine KT.skip rfl rfl ?_
      refine KT.step rfl rfl (K.pick rfl (fun _ => rfl) (fun h => by cases h)) ?_
      refine KT.step rfl rfl (K.move rfl) ?_
      refine KT.skip rfl rfl ?_
      refine KT.skip rfl rfl ?_
      refine KT.skip rfl rfl ?_
      refine KT.skip rfl rfl ?_
      refine KT.step rfl rfl (K.pick rfl (fun _ => rfl) (fun h => by cases h)) ?_
      refine KT.nil ?_
      refine thenK_n ?_
      refine KC.cond rfl (fun hc40 => ?_) (fun hc40 => ?_)
      · skip
        refine KC.seq ?_
        refine KC.region ?_
        refine KT.step rfl rfl (K.assign rfl) ?_
        refine KT.step rfl rfl (K.assign rfl) ?_
        refine KT.nil ?_
        refine thenK_n ?_
        refine KC.ret ?_
        refine thenK_r ?_
        refine ⟨.inl rfl, _, rfl, fin_t (k := 4) (σ := freezeAll []) ?_ ?_⟩
        · rw [hva]
          unfold smithRef
          rw [Bool.not_eq_true'] at hb29
          simp only [hb29, Bool.true_and, Bool.and_true, Bool.false_and, Bool.and_false]
        · rw [hva]; rfl
      · cases hc40
    · skip
      refine KT.step rfl rfl (K.move rfl) ?_
      refine KT.step rfl rfl (K.move rfl) ?_
      refine KT.step rfl rfl (K.call2 rfl rfl plainTry_51 (unimodular51 hf hul hur (by omega))) ?_
      refine KT.step rfl rfl (K.not rfl) ?_
      refine KT.step rfl rfl (K.pick rfl (fun h => by cases h) (fun _ => rfl)) ?_
      refine KT.step rfl rfl (K.move rfl) ?_
      refine KT.bcase (fun hb35 => ?_) (fun hb35 => ?_)
      · skip
        refine KT.skip rfl rfl ?_
        refine KT.skip rfl rfl ?_
        refine KT.skip rfl rfl ?_
        refine KT.skip rfl rfl ?_
        refine KT.step rfl rfl (K.pick rfl (fun _ => rfl) (fun h => by cases h)) ?_
        refine KT.nil ?_
        refine thenK_n ?_
        refine KC.cond rfl (fun hc40 => ?_) (fun hc40 => ?_)
        · skip
          refine KC.seq ?_
          refine KC.region ?_
          refine KT.step rfl rfl (K.assign rfl) ?_
          refine KT.step rfl rfl (K.assign rfl) ?_
          refine KT.nil ?_
          refine thenK_n ?_
          refine KC.ret ?_
          refine thenK_r ?_
          refine ⟨.inl rfl, _, rfl, fin_t (k := 4) (σ := freezeAll []) ?_ ?_⟩
          · rw [hva]
            unfold smithRef
            rw [Bool.not_eq_false'] at hb29
            rw [Bool.not_eq_true'] at hb35
            simp only [hb29, hb35, Bool.true_and, Bool.and_true, Bool.false_and, Bool.and_false]
          · rw [hva]; rfl
        · cases hc40
      · skip
        refine KT.step rfl rfl (K.move rfl) ?_
        refine KT.step rfl rfl (K.move rfl) ?_
        refine KT.step rfl rfl (K.call2 rfl rfl plainTry_51 (unimodular51 hg hvl hvr (by omega))) ?_
        refine KT.step rfl rfl (K.not rfl) ?_
        refine KT.step rfl rfl (K.pick rfl (fun h => by cases h) (fun _ => rfl)) ?_
        refine KT.nil ?_
        refine thenK_n ?_
        refine KC.cond rfl (fun hc40 => ?_) (fun hc40 => ?_)
        · skip
          refine KC.seq ?_
          refine KC.region ?_
          refine KT.step rfl rfl (K.assign rfl) ?_
          refine KT.step rfl rfl (K.assign rfl) ?_
          refine KT.nil ?_
          refine thenK_n ?_
          refine KC.ret ?_
          refine thenK_r ?_
          refine ⟨.inl rfl, _, rfl, fin_t (k := 4) (σ := freezeAll []) ?_ ?_⟩
          · rw [hva]
            unfold smithRef
            rw [Bool.not_eq_false'] at hb29
            rw [Bool.not_eq_false'] at hb35
            rw [Bool.not_eq_true'] at hc40
            simp only [hb29, hb35, hc40, Bool.true_and, Bool.and_true, Bool.false_and, Bool.and_false]
          · rw [hva]; rfl
        · skip
          have h29 := hb29
          rw [Bool.not_eq_false'] at h29
          have hsl2 := (Bool.and_eq_true_iff.1 h29).2
          replace hsl2 := of_decide_eq_true hsl2
          obtain ⟨u1, u2, u3⟩ := wide_facts (uni_wide (u := u) (n := a.length) (by have h35 := hb35; rw [Bool.not_eq_false'] at h35; exact h35))
          obtain ⟨w1, w2, w3⟩ := wide_facts (uni_wide (u := v) (n := (hd0 a).length) (by have h40 := hc40; rw [Bool.not_eq_false'] at h40; exact h40))
          refine KC.skip ?_
          refine thenK_n ?_
          refine KC.seq ?_
          refine KC.region ?_
          refine KT.step rfl rfl (K.assign rfl) ?_
          refine KT.nil ?_
          refine thenK_n ?_
          refine KC.seq ?_
          refine KC.seq ?_
          refine KC.region ?_
          refine KT.step rfl rfl (K.move rfl) ?_
          refine KT.step rfl rfl (K.move rfl) ?_
          refine KT.nil ?_
          refine thenK_n ?_
          refine KC.block ?_
          refine KC.loop (fun p : List VObj × XV × List Nat => p.1) (fun p => [(0, .d d), (1, .d e), (2, .d f), (3, .d g), (10, .d (DI a.length)), (11, .d (DI (hd0 a).length)), (12, p.2.1), (41, .d (DI a.length)), (42, .d (DI (p.2.2.length : Nat)))]) (fun p => p.2.2.length ≤ a.length ∧ RowsI (hd0 a).length (wantF s) p.1 p.2.1 p.2.2) (fun p => a.length - p.2.2.length) ([], .d Dnil, []) ⟨Nat.zero_le _, .zero⟩ rfl (by simp [Go.Vm.look, extK, enterK]) ?_
          intro p hp
          obtain ⟨σ0, x0, ids⟩ := p
          obtain ⟨hi, rows⟩ := hp
          simp only at hi rows ⊢
          refine KC.seq ?_
          refine KC.region ?_
          refine KT.step rfl rfl (K.lss rfl rfl) ?_
          refine KT.nil ?_
          refine thenK_n ?_
          refine KC.seq ?_
          refine KC.cond rfl (fun hc43 => ?_) (fun hc43 => ?_)
          · skip
            replace hc43 := of_decide_eq_true hc43
            have hin : ids.length < a.length := by omega
            refine KC.skip ?_
            refine thenK_n ?_
            refine KC.seq ?_
            refine KC.block ?_
            refine KC.seq ?_
            refine KC.region ?_
            refine KT.step rfl rfl (K.move rfl) ?_
            refine KT.step rfl rfl (K.assign rfl) ?_
            refine KT.nil ?_
            refine thenK_n ?_
            refine KC.seq ?_
            refine KC.region ?_
            refine KT.step rfl rfl (K.move rfl) ?_
            refine KT.step rfl rfl (K.move rfl) ?_
            refine KT.step rfl rfl (K.make rfl rfl (Nat.le_refl _) (by omega) Try.underlying35 Try.one3) ?_
            refine KT.step rfl rfl (K.build1' (v := oslI (hd0 a).length σ0.length) rfl rfl Try.underlying22 Try.one35) ?_
            refine KT.appK (k := 1) (vs := [oslI (hd0 a).length σ0.length]) rfl rfl rfl rfl ((rows.own.pushed _).pushed _) (by simp) rfl rfl (by simp <;> omega) Try.underlying22 Try.size35 bytes35 cells35 (by omega) fun σ1 x1 ho1 k1 w1' => ?_
            have hrow1 : σ1[σ0.length]? = some ⟨List.replicate (hd0 a).length (.d (.lit (.int .i64 0))), 0⟩ := by
              rw [k1 _ (fun e => by have := rows.own.lt e; omega) (by simp), List.getElem?_append_left (by simp), List.getElem?_append_right (Nat.le_refl _)]
              simp
            obtain ⟨id1, n1, rfl, hid1, hn1⟩ := own_sl ho1
            have hget1 : (ids.map (oslI (hd0 a).length) ++ [oslI (hd0 a).length σ0.length])[0 + ids.length]? = some (oslI (hd0 a).length σ0.length) := by
              rw [Nat.zero_add, List.getElem?_append_right (by simp)]
              simp
            have hn1' : n1 = ids.length + 1 := by simp at hn1; omega
            subst hn1' 
            refine KT.step rfl rfl (K.assign rfl) ?_
            refine KT.nil ?_
            refine thenK_n ?_
            refine KC.seq ?_
            refine KC.region ?_
            refine KT.step rfl rfl (K.move rfl) ?_
            refine KT.step rfl rfl (K.move rfl) ?_
            refine KT.step rfl rfl (K.len rfl he Try.underlying35) ?_
            refine KT.step rfl rfl (K.lss rfl rfl) ?_
            refine KT.nil ?_
            refine thenK_n ?_
            refine KC.cond rfl (fun hc53 => ?_) (fun hc53 => ?_)
            · skip
              replace hc53 := of_decide_eq_true hc53
              have hsi : ids.length < s.length := by omega
              have hsn : ids.length < (hd0 a).length := by omega
              refine KC.draw Try.mixed ?_
              refine KT.step rfl rfl (K.move rfl) ?_
              refine KT.step rfl rfl (K.move rfl) ?_
              refine KT.step rfl rfl (K.idxO rfl rfl (by omega) Try.underlying22 Try.size35) ?_
              refine KT.step rfl rfl (K.loadO rfl hid1 (by simp) hget1 Try.agg35) ?_
              refine KT.step rfl rfl (K.move rfl) ?_
              refine KT.step rfl rfl (K.move rfl) ?_
              refine KT.step rfl rfl (K.move rfl) ?_
              refine KT.idxI rfl rfl rfl he rfl hsi Try.underlying35 Try.size3 fun cs61 => ?_
              refine KT.step rfl rfl (K.load rfl Try.agg3) ?_
              refine KT.step rfl rfl (K.idxO rfl rfl (by omega) Try.underlying35 Try.size3) ?_
              refine KT.storeG rfl rfl rfl rfl hrow1 (by rw [List.length_replicate]; omega) rfl rfl Try.size3 fun σ2 l2 u2' v2' => ?_
              rw [row_one (g := wantF s) (by omega) (by simp [wantF, hsi]) (fun j hj => by unfold wantF; rw [if_neg (fun e => hj e.symm)])] at u2'
              refine KT.nil ?_
              refine ⟨by kernel_rfl, ?_⟩
              refine blockK_n ?_
              refine thenK_n ?_
              refine KC.region ?_
              refine KT.step rfl rfl (K.add rfl rfl (wrap_id (by omega))) ?_
              refine KT.step rfl rfl (K.move rfl) ?_
              refine KT.nil ?_
              refine thenK_n ?_
              first
                | exact ⟨(σ2, _, ids ++ [σ0.length]), ⟨by simp; omega, rows.step ho1 k1 w1' u2' v2'⟩, by simp; omega, rfl, by simp [Go.Vm.look, extK]⟩
                | exact ⟨(σ1, _, ids ++ [σ0.length]), ⟨by simp; omega, rows.step ho1 k1 w1' u2' (fun _ _ => rfl)⟩, by simp; omega, rfl, by simp [Go.Vm.look, extK]⟩
            · skip
              replace hc53 := of_decide_eq_false hc53
              have u2' : σ1[σ0.length]? = some (⟨rowS (hd0 a).length (wantF s) ids.length, 0⟩ : VObj) := by
                rw [hrow1, row_none (g := wantF s) (i := ids.length) (fun j hj => by
                  unfold wantF
                  split
                  · simp; omega
                  · rfl)]
              refine KC.skip ?_
              refine blockK_n ?_
              refine thenK_n ?_
              refine KC.region ?_
              refine KT.step rfl rfl (K.add rfl rfl (wrap_id (by omega))) ?_
              refine KT.step rfl rfl (K.move rfl) ?_
              refine KT.nil ?_
              refine thenK_n ?_
              first
                | exact ⟨(σ2, _, ids ++ [σ0.length]), ⟨by simp; omega, rows.step ho1 k1 w1' u2' v2'⟩, by simp; omega, rfl, by simp [Go.Vm.look, extK]⟩
                | exact ⟨(σ1, _, ids ++ [σ0.length]), ⟨by simp; omega, rows.step ho1 k1 w1' u2' (fun _ _ => rfl)⟩, by simp; omega, rfl, by simp [Go.Vm.look, extK]⟩
          · skip
            replace hc43 := of_decide_eq_false hc43
            have hin : ids.length = a.length := by omega
            refine KC.exit ?_
            refine thenK_x ?_
            refine thenK_x ?_
            refine blockK_e ?_
            refine thenK_n ?_
            refine KC.seq ?_
            refine KC.region ?_
            refine KT.step rfl rfl (K.move rfl) ?_
            refine KT.step rfl rfl (K.move rfl) ?_
            refine KT.step rfl rfl (K.move rfl) ?_
            refine KT.step rfl rfl (K.move rfl) ?_
            have hdp : (([.d f, .d d, .d g, x0] : List XV).mapM (deepen (freezeIds σ0 (List.range σ0.length)) 5)) = some [f, d, g, genS (hd0 a).length (wantF s) a.length] := by
              rw [freeze_range, List.mapM_cons, List.mapM_cons, List.mapM_cons, List.mapM_cons, rows.fin (by omega), hin]; rfl
            have hfin := product53 hf hd hg (genS_mat (R := a.length) (N := (hd0 a).length) (g := wantF s)) u2 v5 w2 genM_rows w1 (by rw [genM_len]; omega) (by omega) (by omega) (by omega) (by omega) (by omega) u3 v6 w3 (fun r hr x hx => by
              obtain ⟨i, _, rfl⟩ := List.mem_map.1 hr
              obtain ⟨j, _, rfl⟩ := List.mem_map.1 hx
              unfold wantF
              split
              · rw [List.getD_eq_getElem?_getD]
                cases hh : s[i]? with
                | none => simp
                | some y => exact bs y (List.mem_of_getElem? hh)
              · omega)
            refine KT.step rfl rfl (K.callZ (List.range σ0.length) 5 rfl plainTry_53 hdp hfin) ?_
            refine KT.step rfl rfl (K.assign rfl) ?_
            refine KT.step rfl rfl (K.assign rfl) ?_
            refine KT.nil ?_
            refine thenK_n ?_
            refine KC.ret ?_
            refine ⟨.inl rfl, _, rfl, fin_t (k := 4) (σ := freezeAll (freezeIds σ0 (List.range σ0.length))) ?_ ?_⟩
            · rw [hva]
              unfold smithRef
              rw [Bool.not_eq_false'] at hb29
              rw [Bool.not_eq_false'] at hb35
              rw [Bool.not_eq_false'] at hc40
              simp only [hb29, hb35, hc40, Bool.true_and, Bool.and_true, Bool.false_and, Bool.and_false]
            · rw [hva]; rfl
end Go.Proofs.Ytlomhajhoecoiaa
