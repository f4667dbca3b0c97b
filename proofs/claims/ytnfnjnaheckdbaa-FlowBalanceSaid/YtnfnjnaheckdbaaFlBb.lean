/-
  The law FlowBalance: after a schedule every link has its stock again.
-/
import Derived.Test.YtnfnjnaheckdbaaFlBa
namespace Go.Proofs.Ytnfnjnaheckdbaa
open Go.Vm Go.Fl
theorem plainTry_8 : plainFn Try.prog 8 = true := by kernel_rfl
set_option maxRecDepth 10000 in
theorem bal_err {d e : DV} {n : Int} {L : List LZ} (hd : Lks d L) (hl : L.length ≤ 9223372036854775807) (hE : (repA n (L.take 12)).2 ≠ 0) : DeepCall Try.prog 8 [.agg [DI n, d], e] (DB true) := by
  have hlt : (L.take 12).length ≤ 9223372036854775807 := by rw [List.length_take]; omega
  have hsch := schedule23 (scheduled48_err (n := n) (lkD_lks (L.take 12)) hlt hE)
  have hco := repA_codes n (L.take 12)
  refine deepCall_K 5 Try.func8 rfl (Nat.le_of_ble_eq_true rfl) fun M W0 => ?_
  refine KC.seq ?_
  refine KC.region ?_
  refine KT.step rfl rfl (K.box rfl) ?_
  refine KT.step rfl rfl (K.assign rfl) ?_
  refine KT.nil ?_
  refine thenK_n ?_
  refine KC.seq ?_
  refine KC.region ?_
  refine KT.step rfl rfl (K.loadOA ([DI n, d]) rfl rfl (by decide) Try.agg24 Try.size24 rfl) ?_
  refine KT.step rfl rfl (K.call1 rfl plainTry_19 (of19 hd hl)) ?_
  refine KT.step rfl rfl (K.call1 rfl plainTry_23 (hsch)) ?_
  refine KT.step rfl rfl (K.move rfl) ?_
  refine KT.step rfl rfl (K.extract rfl rfl) ?_
  refine KT.step rfl rfl (K.extract rfl rfl) ?_
  refine KT.step rfl rfl (K.assign rfl) ?_
  refine KT.step rfl rfl (K.assign rfl) ?_
  refine KT.nil ?_
  refine thenK_n ?_
  refine KC.seq ?_
  refine KC.region ?_
  refine KT.step rfl rfl (K.loadOA ([DI n, d]) rfl rfl (by decide) Try.agg24 Try.size24 rfl) ?_
  refine KT.step rfl rfl (K.call1 rfl plainTry_19 (of19 hd hl)) ?_
  refine KT.step rfl rfl (K.call1 rfl plainTry_18 (repeat18_err (lkD_lks (L.take 12)) hlt hE)) ?_
  refine KT.step rfl rfl (K.move rfl) ?_
  refine KT.step rfl rfl (K.extract rfl rfl) ?_
  refine KT.step rfl rfl (K.extract rfl rfl) ?_
  refine KT.step rfl rfl (K.assign rfl) ?_
  refine KT.step rfl rfl (K.assign rfl) ?_
  refine KT.nil ?_
  refine thenK_n ?_
  refine KC.seq ?_
  refine KC.seq ?_
  refine KC.region ?_
  refine KT.step rfl rfl (K.move rfl) ?_
  refine KT.step rfl rfl (K.neq rfl rfl) ?_
  refine KT.step rfl rfl (K.move rfl) ?_
  refine KT.bcase (fun hb35 => ?_) (fun hb35 => ?_)
  · skip
    replace hb35 := of_decide_eq_true hb35
    refine KT.skip rfl rfl ?_
    refine KT.skip rfl rfl ?_
    refine KT.step rfl rfl (K.pick rfl (fun _ => rfl) (fun h => by cases h)) ?_
    refine KT.step rfl rfl (K.move rfl) ?_
    refine KT.skip rfl rfl ?_
    refine KT.skip rfl rfl ?_
    refine KT.skip rfl rfl ?_
    refine KT.step rfl rfl (K.pick rfl (fun _ => rfl) (fun h => by cases h)) ?_
    refine KT.nil ?_
    refine thenK_n ?_
    refine KC.cond rfl (fun hc43 => ?_) (fun hc43 => ?_)
    · skip
      refine KC.seq ?_
      refine KC.region ?_
      refine KT.step rfl rfl (K.move rfl) ?_
      refine KT.step rfl rfl (K.eql rfl rfl) ?_
      refine KT.step rfl rfl (K.move rfl) ?_
      refine KT.bcase (fun hb46 => ?_) (fun hb46 => ?_)
      · skip
        replace hb46 := of_decide_eq_true hb46
        refine KT.skip rfl rfl ?_
        refine KT.skip rfl rfl ?_
        refine KT.step rfl rfl (K.pick rfl (fun _ => rfl) (fun h => by cases h)) ?_
        refine KT.step rfl rfl (K.move rfl) ?_
        refine KT.skip rfl rfl ?_
        refine KT.skip rfl rfl ?_
        refine KT.step rfl rfl (K.pick rfl (fun _ => rfl) (fun h => by cases h)) ?_
        refine KT.step rfl rfl (K.move rfl) ?_
        refine KT.skip rfl rfl ?_
        refine KT.skip rfl rfl ?_
        refine KT.skip rfl rfl ?_
        refine KT.skip rfl rfl ?_
        refine KT.skip rfl rfl ?_
        refine KT.skip rfl rfl ?_
        refine KT.step rfl rfl (K.pick rfl (fun _ => rfl) (fun h => by cases h)) ?_
        refine KT.step rfl rfl (K.move rfl) ?_
        refine KT.step rfl rfl (K.call0 plainTry_22 (awake22)) ?_
        refine KT.step rfl rfl (K.pick rfl (fun _ => rfl) (fun h => by cases h)) ?_
        refine KT.step rfl rfl (K.assign rfl) ?_
        refine KT.nil ?_
        refine thenK_n ?_
        refine KC.ret ?_
        refine thenK_r ?_
        exact ⟨.inl rfl, _, rfl, rfl⟩
      · skip
        replace hb46 := of_decide_eq_false hb46
        refine KT.step rfl rfl (K.move rfl) ?_
        refine KT.step rfl rfl (K.eql rfl rfl) ?_
        refine KT.step rfl rfl (K.pick rfl (fun h => by cases h) (fun _ => rfl)) ?_
        refine KT.step rfl rfl (K.move rfl) ?_
        refine KT.bcase (fun hb50 => ?_) (fun hb50 => ?_)
        · skip
          replace hb50 := of_decide_eq_true hb50
          refine KT.skip rfl rfl ?_
          refine KT.skip rfl rfl ?_
          refine KT.step rfl rfl (K.pick rfl (fun _ => rfl) (fun h => by cases h)) ?_
          refine KT.step rfl rfl (K.move rfl) ?_
          refine KT.skip rfl rfl ?_
          refine KT.skip rfl rfl ?_
          refine KT.skip rfl rfl ?_
          refine KT.skip rfl rfl ?_
          refine KT.skip rfl rfl ?_
          refine KT.skip rfl rfl ?_
          refine KT.step rfl rfl (K.pick rfl (fun _ => rfl) (fun h => by cases h)) ?_
          refine KT.step rfl rfl (K.move rfl) ?_
          refine KT.step rfl rfl (K.call0 plainTry_22 (awake22)) ?_
          refine KT.step rfl rfl (K.pick rfl (fun _ => rfl) (fun h => by cases h)) ?_
          refine KT.step rfl rfl (K.assign rfl) ?_
          refine KT.nil ?_
          refine thenK_n ?_
          refine KC.ret ?_
          refine thenK_r ?_
          exact ⟨.inl rfl, _, rfl, rfl⟩
        · skip
          replace hb50 := of_decide_eq_false hb50
          refine KT.step rfl rfl (K.move rfl) ?_
          refine KT.step rfl rfl (K.eql rfl rfl) ?_
          refine KT.step rfl rfl (K.pick rfl (fun h => by cases h) (fun _ => rfl)) ?_
          refine KT.step rfl rfl (K.move rfl) ?_
          refine KT.bcase (fun hb54 => ?_) (fun hb54 => ?_)
          · skip
            replace hb54 := of_decide_eq_true hb54
            refine KT.skip rfl rfl ?_
            refine KT.skip rfl rfl ?_
            refine KT.skip rfl rfl ?_
            refine KT.skip rfl rfl ?_
            refine KT.skip rfl rfl ?_
            refine KT.skip rfl rfl ?_
            refine KT.step rfl rfl (K.pick rfl (fun _ => rfl) (fun h => by cases h)) ?_
            refine KT.step rfl rfl (K.move rfl) ?_
            refine KT.step rfl rfl (K.call0 plainTry_22 (awake22)) ?_
            refine KT.step rfl rfl (K.pick rfl (fun _ => rfl) (fun h => by cases h)) ?_
            refine KT.step rfl rfl (K.assign rfl) ?_
            refine KT.nil ?_
            refine thenK_n ?_
            refine KC.ret ?_
            refine thenK_r ?_
            exact ⟨.inl rfl, _, rfl, rfl⟩
          · skip
            exfalso; replace hb54 := of_decide_eq_false hb54; omega
    · cases hc43
  · skip
    exact absurd hE (of_decide_eq_false hb35)
set_option maxRecDepth 10000 in
theorem bal_loop {d e : DV} {N : Nat} {L : List LN} {q : Nat → Nat} (hd : Lks d (L.map LN.z)) (hr : RepG N L q) (h12 : (L.map LN.z).take 12 = L.map LN.z) (hf : first0 L N q = none) : DeepCall Try.prog 8 [.agg [DI (N : Nat), d], e] (DB true) := by
  have hl : (L.map LN.z).length ≤ 9223372036854775807 := by have := hr.len; rw [List.length_map]; omega
  have hof := of19 (n := (N : Int)) hd hl
  unfold ofD at hof
  rw [h12] at hof
  have hsch := schedule23 (scheduled48_no (lkD_lks (L.map LN.z)) hr hf)
  refine deepCall_K 5 Try.func8 rfl (Nat.le_of_ble_eq_true rfl) fun M W0 => ?_
  refine KC.seq ?_
  refine KC.region ?_
  refine KT.step rfl rfl (K.box rfl) ?_
  refine KT.step rfl rfl (K.assign rfl) ?_
  refine KT.nil ?_
  refine thenK_n ?_
  refine KC.seq ?_
  refine KC.region ?_
  refine KT.step rfl rfl (K.loadOA ([DI (N : Nat), d]) rfl rfl (by decide) Try.agg24 Try.size24 rfl) ?_
  refine KT.step rfl rfl (K.call1 rfl plainTry_19 (hof)) ?_
  refine KT.step rfl rfl (K.call1 rfl plainTry_23 (hsch)) ?_
  refine KT.step rfl rfl (K.move rfl) ?_
  refine KT.step rfl rfl (K.extract rfl rfl) ?_
  refine KT.step rfl rfl (K.extract rfl rfl) ?_
  refine KT.step rfl rfl (K.assign rfl) ?_
  refine KT.step rfl rfl (K.assign rfl) ?_
  refine KT.nil ?_
  refine thenK_n ?_
  refine KC.seq ?_
  refine KC.region ?_
  refine KT.step rfl rfl (K.loadOA ([DI (N : Nat), d]) rfl rfl (by decide) Try.agg24 Try.size24 rfl) ?_
  refine KT.step rfl rfl (K.call1 rfl plainTry_19 (hof)) ?_
  refine KT.step rfl rfl (K.call1 rfl plainTry_18 (repeat18_ok (lkD_lks (L.map LN.z)) hr)) ?_
  refine KT.step rfl rfl (K.move rfl) ?_
  refine KT.step rfl rfl (K.extract rfl rfl) ?_
  refine KT.step rfl rfl (K.extract rfl rfl) ?_
  refine KT.step rfl rfl (K.assign rfl) ?_
  refine KT.step rfl rfl (K.assign rfl) ?_
  refine KT.nil ?_
  refine thenK_n ?_
  refine KC.seq ?_
  refine KC.seq ?_
  refine KC.region ?_
  refine KT.step rfl rfl (K.move rfl) ?_
  refine KT.step rfl rfl (K.neq rfl rfl) ?_
  refine KT.step rfl rfl (K.move rfl) ?_
  refine KT.bcase (fun hb35 => ?_) (fun hb35 => ?_)
  · skip
    replace hb35 := of_decide_eq_true hb35
    refine KT.skip rfl rfl ?_
    refine KT.skip rfl rfl ?_
    refine KT.step rfl rfl (K.pick rfl (fun _ => rfl) (fun h => by cases h)) ?_
    refine KT.step rfl rfl (K.move rfl) ?_
    refine KT.skip rfl rfl ?_
    refine KT.skip rfl rfl ?_
    refine KT.skip rfl rfl ?_
    refine KT.step rfl rfl (K.pick rfl (fun _ => rfl) (fun h => by cases h)) ?_
    refine KT.nil ?_
    refine thenK_n ?_
    refine KC.cond rfl (fun hc43 => ?_) (fun hc43 => ?_)
    · skip
      refine KC.seq ?_
      refine KC.region ?_
      refine KT.step rfl rfl (K.move rfl) ?_
      refine KT.step rfl rfl (K.eql rfl rfl) ?_
      refine KT.step rfl rfl (K.move rfl) ?_
      refine KT.bcase (fun hb46 => ?_) (fun hb46 => ?_)
      · skip
        exact absurd (of_decide_eq_true hb46) (by decide)
      · skip
        replace hb46 := of_decide_eq_false hb46
        refine KT.step rfl rfl (K.move rfl) ?_
        refine KT.step rfl rfl (K.eql rfl rfl) ?_
        refine KT.step rfl rfl (K.pick rfl (fun h => by cases h) (fun _ => rfl)) ?_
        refine KT.step rfl rfl (K.move rfl) ?_
        refine KT.bcase (fun hb50 => ?_) (fun hb50 => ?_)
        · skip
          exact absurd (of_decide_eq_true hb50) (by decide)
        · skip
          replace hb50 := of_decide_eq_false hb50
          refine KT.step rfl rfl (K.move rfl) ?_
          refine KT.step rfl rfl (K.eql rfl rfl) ?_
          refine KT.step rfl rfl (K.pick rfl (fun h => by cases h) (fun _ => rfl)) ?_
          refine KT.step rfl rfl (K.move rfl) ?_
          refine KT.bcase (fun hb54 => ?_) (fun hb54 => ?_)
          · skip
            exact absurd (of_decide_eq_true hb54) (by decide)
          · skip
            replace hb54 := of_decide_eq_false hb54
            refine KT.step rfl rfl (K.move rfl) ?_
            refine KT.step rfl rfl (K.eql rfl rfl) ?_
            refine KT.step rfl rfl (K.move rfl) ?_
            refine KT.bcase (fun hb57 => ?_) (fun hb57 => ?_)
            · skip
              replace hb57 := of_decide_eq_true hb57
              refine KT.step rfl rfl (K.move rfl) ?_
              refine KT.step rfl rfl (K.eql rfl rfl) ?_
              refine KT.step rfl rfl (K.pick rfl (fun _ => rfl) (fun h => by cases h)) ?_
              refine KT.step rfl rfl (K.pick rfl (fun h => by cases h) (fun _ => rfl)) ?_
              refine KT.step rfl rfl (K.move rfl) ?_
              refine KT.bcase (fun hb62 => ?_) (fun hb62 => ?_)
              · skip
                replace hb62 := of_decide_eq_true hb62
                refine KT.step rfl rfl (K.call0 plainTry_22 (awake22)) ?_
                refine KT.step rfl rfl (K.pick rfl (fun _ => rfl) (fun h => by cases h)) ?_
                refine KT.step rfl rfl (K.assign rfl) ?_
                refine KT.nil ?_
                refine thenK_n ?_
                refine KC.ret ?_
                refine thenK_r ?_
                exact ⟨.inl rfl, _, rfl, rfl⟩
              · skip
                exact absurd (of_decide_eq_false hb62) (by decide)
            · skip
              exact absurd (of_decide_eq_false hb57) (by decide)
    · cases hc43
  · skip
    exact absurd (of_decide_eq_false hb35) (by decide)

def hereN (b : Bool) (n : Nat) : Int := if b then (n : Int) else 0
theorem ldAt_bump {L : List LN} {X : Nat → Nat} {a k : Nat} (hk : k < L.length) : ldAt L (bump X a) k = ldAt L X k - hereN (decide (L[k].t = a)) L[k].k + hereN (decide (L[k].f = a)) L[k].g := by
  rw [ldAt_get hk, ldAt_get hk]
  unfold loadZ bump hereN
  by_cases h1 : L[k].t = a <;> by_cases h2 : L[k].f = a <;> simp only [h1, h2, decide_true, decide_false, if_true, if_false, ↓reduceIte, Int.natCast_add, Int.mul_add, Bool.false_eq_true] <;> omega
theorem ldAt_big {L : List LN} {X : Nat → Nat} {k : Nat} (hk : L.length ≤ k) : ldAt L X k = 0 := by unfold ldAt; rw [List.getElem?_eq_none hk]
theorem runL_cons {L : List LN} {N : Nat} {q X Y : Nat → Nat} {s : List Int} {i : Nat} (hi : i < s.length) (h : runL L N q (s.drop i) X = some Y) : ∃ a : Nat, s[i] = (a : Int) ∧ a < N ∧ fireB L q X a = true ∧ runL L N q (s.drop (i + 1)) (bump X a) = some Y := by
  rw [List.drop_eq_getElem_cons hi] at h
  simp only [runL] at h
  split at h
  · rename_i hc
    obtain ⟨a, ha⟩ := Int.eq_ofNat_of_zero_le hc.1
    rw [ha, Int.toNat_natCast] at h hc
    exact ⟨a, ha, by omega, hc.2.2, h⟩
  · cases h
theorem first_le {L : List LN} {N : Nat} {q : Nat → Nat} {s : List Nat} {o : List Int} (hN : N ≤ 6) (hf : first0 L N q = some s) {X : Nat → Nat} (hr : runL L N q o (fun _ => 0) = some X) (he : eqB X q = true) : cmpL (zs s) o ≤ 0 := by
  rcases greedy_first hN _ _ _ o X hf hr he (fun i _ => Nat.zero_le _) with h | ⟨p, a, b, r, r', h1, h2, h3⟩
  · rw [h, cmpL_self]; omega
  · rw [h1, h2, cmpL_pre]
    simp only [cmpL]
    rw [if_pos h3]; omega
set_option maxRecDepth 10000 in
theorem bal_main {d e : DV} {N : Nat} {L : List LN} {q : Nat → Nat} {s : List Nat} {o : List Int} (hd : Lks d (L.map LN.z)) (hr : RepG N L q) (h12 : (L.map LN.z).take 12 = L.map LN.z) (he : Ints e o) (hel : o.length ≤ 9223372036854775807) (hf : first0 L N q = some s) : DeepCall Try.prog 8 [.agg [DI (N : Nat), d], e] (DB true) := by
  have hl : (L.map LN.z).length ≤ 9223372036854775807 := by have := hr.len; rw [List.length_map]; omega
  have hof := of19 (n := (N : Int)) hd hl
  unfold ofD at hof
  rw [h12] at hof
  have hsch := schedule23 (scheduled48_ok (lkD_lks (L.map LN.z)) hr hf)
  have hval := rvalid35 (n := (N : Int)) hd hl
  rw [hr.v] at hval
  have h1 := hr.n1
  have h6 := hr.n6
  have hlen := hr.len
  have hsI := lsD_ints (zs s)
  obtain ⟨Y, hrun, hYq⟩ := greedy_sound _ _ _ hf
  have hslen : s.length = tot q := greedy_len h6 hf
  have hsum := hr.sum
  have hzl : (zs s).length = s.length := List.length_map ..
  obtain ⟨pd, pe, hpk, hpe⟩ : ∃ pd pe, DeepCall Try.prog 25 [.agg [DI (N : Nat), lkD (L.map LN.z)], e] (.tup [pd, DI pe]) ∧ (pe = 0 → cmpL (zs s) o ≤ 0) := by
    cases hb : (pkRes q L.length (pkL L N q o (fun _ => 0) (ldAt L fun _ => 0))).2 with
    | false => exact ⟨_, 2, peaksOf25_no (lkD_lks (L.map LN.z)) hr he hel hb, fun h => by cases h⟩
    | true =>
      refine ⟨_, 0, peaksOf25_ok (lkD_lks (L.map LN.z)) hr he hel hb, fun _ => ?_⟩
      have h := pkL_run (L := L) (N := N) (q := q) o (fun _ => 0) (ldAt L fun _ => 0)
      cases hpp : pkL L N q o (fun _ => 0) (ldAt L fun _ => 0) with
      | none => rw [hpp] at hb; cases hb
      | some r =>
        obtain ⟨X', p⟩ := r
        rw [hpp] at h hb
        exact first_le h6 hf h.symm hb
  have hbd : ∀ (X : Nat → Nat) (k : Nat), (∀ j, X j ≤ q j) → -360 ≤ ldAt L X k ∧ ldAt L X k ≤ 380 := fun X k hX => by
    by_cases hk : k < L.length
    · rw [ldAt_get hk]; exact loadZ_bd (hr.ok _ (List.getElem_mem hk)) fun j => Nat.le_trans (hX j) (hr.le j)
    · rw [ldAt_big (by omega)]; omega
  refine deepCall_K 5 Try.func8 rfl (Nat.le_of_ble_eq_true rfl) fun M W0 => ?_
  refine KC.seq ?_
  refine KC.region ?_
  refine KT.step rfl rfl (K.box rfl) ?_
  refine KT.step rfl rfl (K.assign rfl) ?_
  refine KT.nil ?_
  refine thenK_n ?_
  refine KC.seq ?_
  refine KC.region ?_
  refine KT.step rfl rfl (K.loadOA ([DI (N : Nat), d]) rfl rfl (by decide) Try.agg24 Try.size24 rfl) ?_
  refine KT.step rfl rfl (K.call1 rfl plainTry_19 (hof)) ?_
  refine KT.step rfl rfl (K.call1 rfl plainTry_23 (hsch)) ?_
  refine KT.step rfl rfl (K.move rfl) ?_
  refine KT.step rfl rfl (K.extract rfl rfl) ?_
  refine KT.step rfl rfl (K.extract rfl rfl) ?_
  refine KT.step rfl rfl (K.assign rfl) ?_
  refine KT.step rfl rfl (K.assign rfl) ?_
  refine KT.nil ?_
  refine thenK_n ?_
  refine KC.seq ?_
  refine KC.region ?_
  refine KT.step rfl rfl (K.loadOA ([DI (N : Nat), d]) rfl rfl (by decide) Try.agg24 Try.size24 rfl) ?_
  refine KT.step rfl rfl (K.call1 rfl plainTry_19 (hof)) ?_
  refine KT.step rfl rfl (K.call1 rfl plainTry_18 (repeat18_ok (lkD_lks (L.map LN.z)) hr)) ?_
  refine KT.step rfl rfl (K.move rfl) ?_
  refine KT.step rfl rfl (K.extract rfl rfl) ?_
  refine KT.step rfl rfl (K.extract rfl rfl) ?_
  refine KT.step rfl rfl (K.assign rfl) ?_
  refine KT.step rfl rfl (K.assign rfl) ?_
  refine KT.nil ?_
  refine thenK_n ?_
  refine KC.seq ?_
  refine KC.seq ?_
  refine KC.region ?_
  refine KT.step rfl rfl (K.move rfl) ?_
  refine KT.step rfl rfl (K.neq rfl rfl) ?_
  refine KT.step rfl rfl (K.move rfl) ?_
  refine KT.bcase (fun hb35 => ?_) (fun hb35 => ?_)
  · skip
    exact absurd rfl (of_decide_eq_true hb35)
  · skip
    replace hb35 := of_decide_eq_false hb35
    refine KT.step rfl rfl (K.move rfl) ?_
    refine KT.step rfl rfl (K.neq rfl rfl) ?_
    refine KT.step rfl rfl (K.pick rfl (fun h => by cases h) (fun _ => rfl)) ?_
    refine KT.step rfl rfl (K.move rfl) ?_
    refine KT.bcase (fun hb39 => ?_) (fun hb39 => ?_)
    · skip
      exact absurd rfl (of_decide_eq_true hb39)
    · skip
      replace hb39 := of_decide_eq_false hb39
      refine KT.step rfl rfl (K.loadOA ([DI (N : Nat), d]) rfl rfl (by decide) Try.agg24 Try.size24 rfl) ?_
      refine KT.step rfl rfl (K.call1 rfl plainTry_35 (hval)) ?_
      refine KT.step rfl rfl (K.not rfl) ?_
      refine KT.step rfl rfl (K.pick rfl (fun h => by cases h) (fun _ => rfl)) ?_
      refine KT.nil ?_
      refine thenK_n ?_
      refine KC.cond rfl (fun hc43 => ?_) (fun hc43 => ?_)
      · skip
        cases hc43
      · skip
        refine KC.skip ?_
        refine thenK_n ?_
        refine KC.seq ?_
        refine KC.seq ?_
        refine KC.region ?_
        refine KT.step rfl rfl (K.move rfl) ?_
        refine KT.step rfl rfl (K.lenD rfl Try.underlying25) ?_
        refine KT.step rfl rfl (K.fieldAddrO rfl Try.fld24_0 Try.size3) ?_
        refine KT.step rfl rfl (K.loadO rfl rfl (by simp) rfl Try.agg3) ?_
        refine KT.step rfl rfl (K.neq rfl rfl) ?_
        refine KT.nil ?_
        refine thenK_n ?_
        refine KC.cond rfl (fun hc69 => ?_) (fun hc69 => ?_)
        · skip
          exact absurd rfl (of_decide_eq_true hc69)
        · skip
          replace hc69 := of_decide_eq_false hc69
          refine KC.skip ?_
          refine thenK_n ?_
          refine KC.seq ?_
          refine KC.region ?_
          refine KT.step rfl rfl (K.fieldAddrO rfl Try.fld24_1 Try.size22) ?_
          refine KT.step rfl rfl (K.loadO rfl rfl (by simp) rfl Try.agg22) ?_
          refine KT.step rfl rfl (K.lenN rfl hd Try.underlying22) ?_
          refine KT.step rfl rfl (K.make rfl rfl (Nat.le_refl _) (by omega) Try.underlying25 Try.one3) ?_
          refine KT.step rfl rfl (K.assign rfl) ?_
          refine KT.nil ?_
          refine thenK_n ?_
          refine KC.seq ?_
          refine KC.region ?_
          refine KT.step rfl rfl (K.fieldAddrO rfl Try.fld24_0 Try.size3) ?_
          refine KT.step rfl rfl (K.loadO rfl rfl (by simp) rfl Try.agg3) ?_
          refine KT.step rfl rfl (K.make rfl rfl (Nat.le_refl _) (by omega) Try.underlying25 Try.one3) ?_
          rw [iX_zero, iX_zero]
          refine KT.step rfl rfl (K.assign rfl) ?_
          refine KT.nil ?_
          refine thenK_n ?_
          refine KC.seq ?_
          refine KC.seq ?_
          refine KC.region ?_
          refine KT.step rfl rfl (K.fieldAddrO rfl Try.fld24_1 Try.size22) ?_
          refine KT.step rfl rfl (K.loadO rfl rfl (by simp) rfl Try.agg22) ?_
          refine KT.step rfl rfl (K.lenN rfl hd Try.underlying22) ?_
          refine KT.step rfl rfl (K.move rfl) ?_
          refine KT.nil ?_
          refine thenK_n ?_
          refine KC.block ?_
          refine KC.loop (fun p : List VObj × Nat => p.1) (fun p => [(1, .d e), (2, .optr 0 0), (5, .d (lsD (zs s))), (7, .d (seqD q N)), (9, .osl 1 0 L.length 1 L.length true), (10, .osl 2 0 N 1 N true), (78, .d d), (79, .d (DI (L.length : Nat))), (80, .d (DI (p.2 : Nat)))]) (fun p : List VObj × Nat => p.2 ≤ L.length ∧ p.1[0]? = some ⟨[.d (DI (N : Nat)), .d d], 0⟩ ∧ p.1[1]? = some ⟨iX L.length (fun k => if k < p.2 then ldAt L (fun _ => 0) k else 0), 0⟩ ∧ p.1[2]? = some ⟨iX N fun k => ((fun _ => 0 : Nat → Nat) k : Int), 0⟩) (fun p => L.length - p.2) (_, 0) ⟨Nat.zero_le _, rfl, by simp, rfl⟩ rfl (by simp [Go.Vm.look, extK, enterK]) ?_
          intro p hp
          obtain ⟨σ0, k⟩ := p
          obtain ⟨hk, y0, y1, y2⟩ := hp
          simp only at hk y0 y1 y2 ⊢
          have g2 := (List.getElem?_eq_some_iff.1 y2).1
          refine KC.seq ?_
          refine KC.region ?_
          refine KT.step rfl rfl (K.lss rfl rfl) ?_
          refine KT.nil ?_
          refine thenK_n ?_
          refine KC.seq ?_
          refine KC.cond rfl (fun hc81 => ?_) (fun hc81 => ?_)
          · skip
            replace hc81 := of_decide_eq_true hc81
            have hkl : k < L.length := by omega
            refine KC.skip ?_
            refine thenK_n ?_
            refine KC.seq ?_
            refine KC.block ?_
            refine KC.seq ?_
            refine KC.region ?_
            refine KT.step rfl rfl (K.move rfl) ?_
            refine KT.step rfl rfl (K.idxN rfl hd rfl hkl Try.underlying22 Try.size57) ?_
            refine KT.step rfl rfl (K.loadN hkl rfl Try.agg57 Try.size57) ?_
            refine KT.step rfl rfl (K.alloc Try.zero57) ?_
            refine KT.step rfl rfl (K.assign rfl) ?_
            refine KT.storeH (cs := (lk5 L[k].z).map XV.d) rfl rfl rfl rfl (List.getElem?_concat_length ..) rfl (Nat.le_refl _) rfl Try.size57 fun σ1 l1 u1 v1 => ?_
            try simp only [List.length_append, List.length_cons, List.length_nil, List.length_set] at l1
            replace u1 := u1.trans (congrArg (fun c => some (VObj.mk c 0)) (splice_all (by rfl)))
            have y0 := (v1 (0) (by omega)).trans ((List.getElem?_append_left (by omega)).trans y0)
            have y1 := (v1 (1) (by omega)).trans ((List.getElem?_append_left (by omega)).trans y1)
            have y2 := (v1 (2) (by omega)).trans ((List.getElem?_append_left (by omega)).trans y2)
            have x1 := u1
            refine KT.nil ?_
            refine thenK_n ?_
            refine KC.region ?_
            refine KT.step rfl rfl (K.move rfl) ?_
            refine KT.step rfl rfl (K.move rfl) ?_
            refine KT.step rfl rfl (K.fieldAddrO rfl Try.fld57_4 Try.size3) ?_
            refine KT.step rfl rfl (K.loadO rfl x1 (by simp) rfl Try.agg3) ?_
            refine KT.step rfl rfl (K.idxO rfl rfl hkl Try.underlying25 Try.size3) ?_
            refine KT.storeG rfl rfl rfl rfl y1 (by rw [iX_len]; omega) rfl rfl Try.size3 fun σ2 l2 u2 v2 => ?_
            replace y0 := (v2 0 (by omega)).trans y0
            replace y2 := (v2 2 (by omega)).trans y2
            refine KT.nil ?_
            refine blockK_n ?_
            refine thenK_n ?_
            refine KC.region ?_
            refine KT.step rfl rfl (K.add rfl rfl (wrap_id (by omega))) ?_
            refine KT.step rfl rfl (K.move rfl) ?_
            refine KT.nil ?_
            refine thenK_n ?_
            refine ⟨(σ2, k + 1), ⟨by simp only; omega, y0, ?_, y2⟩, by simp only; omega, rfl, by simp [Go.Vm.look, extK]⟩
            refine u2.trans (congrArg (fun c => some (VObj.mk c 0)) ((iX_set _ hkl _).trans (iX_congr fun j hj => ?_)))
            by_cases ej : j = k
            · subst ej; rw [if_pos rfl, if_pos (Nat.lt_succ_self _), ldAt_stock hkl]; rfl
            · rw [if_neg ej]
              by_cases h2 : j < k
              · rw [if_pos h2, if_pos (by omega)]
              · rw [if_neg h2, if_neg (by omega)]
          · skip
            replace hc81 := of_decide_eq_false hc81
            obtain rfl : k = L.length := by omega
            replace y1 := y1.trans (congrArg (fun c => some (VObj.mk c 0)) (iX_congr (g := ldAt L fun _ => 0) fun j hj => if_pos (by omega)))
            refine KC.exit ?_
            refine thenK_x ?_
            refine thenK_x ?_
            refine blockK_e ?_
            refine thenK_n ?_
            refine KC.seq ?_
            refine KC.seq ?_
            refine KC.region ?_
            refine KT.step rfl rfl (K.move rfl) ?_
            refine KT.step rfl rfl (K.len rfl hsI Try.underlying25) ?_
            refine KT.step rfl rfl (K.move rfl) ?_
            refine KT.nil ?_
            refine thenK_n ?_
            refine KC.block ?_
            refine KC.loop (fun p : List VObj × (Nat → Nat) × Nat => p.1) (fun p => [(1, .d e), (2, .optr 0 0), (5, .d (lsD (zs s))), (7, .d (seqD q N)), (9, .osl 1 0 L.length 1 L.length true), (10, .osl 2 0 N 1 N true), (91, .d (lsD (zs s))), (92, .d (DI ((zs s).length : Nat))), (93, .d (DI (p.2.2 : Nat)))]) (fun p : List VObj × (Nat → Nat) × Nat => p.2.2 ≤ (zs s).length ∧ p.1[0]? = some ⟨[.d (DI (N : Nat)), .d d], 0⟩ ∧ p.1[1]? = some ⟨iX L.length (ldAt L p.2.1), 0⟩ ∧ p.1[2]? = some ⟨iX N fun k => (p.2.1 k : Int), 0⟩ ∧ (∀ j, p.2.1 j ≤ q j) ∧ (∀ k, 0 ≤ ldAt L p.2.1 k) ∧ runL L N q ((zs s).drop p.2.2) p.2.1 = some Y) (fun p => (zs s).length - p.2.2) (σ0, (fun _ => 0), 0) ⟨Nat.zero_le _, y0, y1, y2, fun j => Nat.zero_le _, fun k => (by
              by_cases hk : k < L.length
              · rw [ldAt_stock hk]; omega
              · rw [ldAt_big (by omega)]; omega), hrun⟩ rfl (by simp [Go.Vm.look, extK, enterK]) ?_
            clear y0 y1 y2 g2
            intro p hp
            obtain ⟨σ0, X, i⟩ := p
            obtain ⟨hi, y0, y1, y2, hXq, hnn, hrunX⟩ := hp
            simp only at hi y0 y1 y2 hXq hnn hrunX ⊢
            have g2 := (List.getElem?_eq_some_iff.1 y2).1
            refine KC.seq ?_
            refine KC.region ?_
            refine KT.step rfl rfl (K.lss rfl rfl) ?_
            refine KT.nil ?_
            refine thenK_n ?_
            refine KC.seq ?_
            refine KC.cond rfl (fun hc94 => ?_) (fun hc94 => ?_)
            · skip
              replace hc94 := of_decide_eq_true hc94
              have hil : i < (zs s).length := by omega
              obtain ⟨a, ha, haN, hfire, hnext⟩ := runL_cons hil hrunX
              have hff := fireB_iff.1 hfire
              have hcan := canB_iff.1 hff.2
              have hXb : ∀ j, bump X a j ≤ q j := fun j => by
                unfold bump; split
                · rename_i e; subst e; omega
                · exact hXq j
              have hnnb : ∀ k, 0 ≤ ldAt L (bump X a) k := fun k => by
                by_cases hk : k < L.length
                · rw [ldAt_bump hk]
                  have b1 := hnn k
                  unfold hereN
                  by_cases ht : L[k].t = a
                  · have b2 := hcan _ (List.getElem_mem hk) ht
                    rw [← ldAt_get hk] at b2
                    simp only [ht, decide_true, if_true]
                    split <;> omega
                  · simp only [ht, decide_false, Bool.false_eq_true, if_false]
                    split <;> omega
                · rw [ldAt_big (by omega)]; omega
              refine KC.skip ?_
              refine thenK_n ?_
              refine KC.seq ?_
              refine KC.block ?_
              refine KC.seq ?_
              refine KC.region ?_
              refine KT.idxI rfl rfl rfl (by assumption) rfl (by omega) Try.underlying25 Try.size3 fun cs95 => ?_
              rw [ha]
              refine KT.step rfl rfl (K.load rfl Try.agg3) ?_
              refine KT.step rfl rfl (K.assign rfl) ?_
              refine KT.nil ?_
              refine thenK_n ?_
              refine KC.seq ?_
              refine KC.seq ?_
              refine KC.region ?_
              refine KT.step rfl rfl (K.move rfl) ?_
              refine KT.step rfl rfl (K.lss rfl rfl) ?_
              refine KT.step rfl rfl (K.move rfl) ?_
              refine KT.bcase (fun hb99 => ?_) (fun hb99 => ?_)
              · skip
                exfalso; replace hb99 := of_decide_eq_true hb99; omega
              · skip
                replace hb99 := of_decide_eq_false hb99
                refine KT.step rfl rfl (K.move rfl) ?_
                refine KT.step rfl rfl (K.fieldAddrO rfl Try.fld24_0 Try.size3) ?_
                refine KT.step rfl rfl (K.loadO rfl y0 (by simp) rfl Try.agg3) ?_
                refine KT.step rfl rfl (K.geq rfl rfl) ?_
                refine KT.step rfl rfl (K.pick rfl (fun h => by cases h) (fun _ => rfl)) ?_
                refine KT.nil ?_
                refine thenK_n ?_
                refine KC.cond rfl (fun hc104 => ?_) (fun hc104 => ?_)
                · skip
                  exfalso; replace hc104 := of_decide_eq_true hc104; omega
                · skip
                  replace hc104 := of_decide_eq_false hc104
                  refine KC.skip ?_
                  refine thenK_n ?_
                  refine KC.seq ?_
                  refine KC.region ?_
                  refine KT.step rfl rfl (K.move rfl) ?_
                  refine KT.step rfl rfl (K.move rfl) ?_
                  refine KT.step rfl rfl (K.idxO rfl rfl haN Try.underlying25 Try.size3) ?_
                  refine KT.step rfl rfl (K.loadO rfl y2 (by simp) (iX_get _ haN) Try.agg3) ?_
                  refine KT.step rfl rfl (K.add rfl rfl (oneN (by have := hXq a; have := hr.le a; omega))) ?_
                  refine KT.step rfl rfl (K.idxO rfl rfl haN Try.underlying25 Try.size3) ?_
                  refine KT.storeG rfl rfl rfl rfl y2 (by rw [iX_len]; omega) rfl rfl Try.size3 fun σ2 l2 u2 v2 => ?_
                  replace y0 := (v2 0 (by omega)).trans y0
                  replace y1 := (v2 1 (by omega)).trans y1
                  rw [iX_bump X haN] at u2
                  replace y2 := u2
                  refine KT.nil ?_
                  refine thenK_n ?_
                  refine KC.seq ?_
                  refine KC.seq ?_
                  refine KC.region ?_
                  refine KT.step rfl rfl (K.fieldAddrO rfl Try.fld24_1 Try.size22) ?_
                  refine KT.step rfl rfl (K.loadO rfl y0 (by simp) rfl Try.agg22) ?_
                  refine KT.step rfl rfl (K.lenN rfl hd Try.underlying22) ?_
                  refine KT.step rfl rfl (K.move rfl) ?_
                  refine KT.nil ?_
                  refine thenK_n ?_
                  refine KC.block ?_
                  refine KC.loop (fun p : List VObj × Nat => p.1) (fun p => [(1, .d e), (2, .optr 0 0), (5, .d (lsD (zs s))), (7, .d (seqD q N)), (9, .osl 1 0 L.length 1 L.length true), (10, .osl 2 0 N 1 N true), (14, .d (DI (a : Nat))), (91, .d (lsD (zs s))), (92, .d (DI ((zs s).length : Nat))), (93, .d (DI (i : Nat))), (112, .d d), (113, .d (DI (L.length : Nat))), (114, .d (DI (p.2 : Nat)))]) (fun p : List VObj × Nat => p.2 ≤ L.length ∧ p.1[0]? = some ⟨[.d (DI (N : Nat)), .d d], 0⟩ ∧ p.1[1]? = some ⟨iX L.length (fun k => if k < p.2 then ldAt L X k - hereN (decide ((L.getD k ⟨0, 0, 0, 0, 0⟩).t = a)) (L.getD k ⟨0, 0, 0, 0, 0⟩).k else ldAt L X k), 0⟩ ∧ p.1[2]? = some ⟨iX N fun k => ((bump X a) k : Int), 0⟩) (fun p => L.length - p.2) (σ2, 0) ⟨Nat.zero_le _, y0, by simpa using y1, y2⟩ rfl (by simp [Go.Vm.look, extK, enterK]) ?_
                  clear y0 y1 y2 g2 u2 v2 l2
                  intro p hp
                  obtain ⟨σ0, k⟩ := p
                  obtain ⟨hk, y0, y1, y2⟩ := hp
                  simp only at hk y0 y1 y2 ⊢
                  have g2 := (List.getElem?_eq_some_iff.1 y2).1
                  refine KC.seq ?_
                  refine KC.region ?_
                  refine KT.step rfl rfl (K.lss rfl rfl) ?_
                  refine KT.nil ?_
                  refine thenK_n ?_
                  refine KC.seq ?_
                  refine KC.cond rfl (fun hc115 => ?_) (fun hc115 => ?_)
                  · skip
                    replace hc115 := of_decide_eq_true hc115
                    have hkl : k < L.length := by omega
                    have ok := hr.ok _ (List.getElem_mem hkl)
                    have okk := ok.k6
                    have hgd : L.getD k ⟨0, 0, 0, 0, 0⟩ = L[k] := by simp [hkl]
                    refine KC.skip ?_
                    refine thenK_n ?_
                    refine KC.seq ?_
                    refine KC.block ?_
                    refine KC.seq ?_
                    refine KC.region ?_
                    refine KT.step rfl rfl (K.move rfl) ?_
                    refine KT.step rfl rfl (K.idxN rfl hd rfl hkl Try.underlying22 Try.size57) ?_
                    refine KT.step rfl rfl (K.loadN hkl rfl Try.agg57 Try.size57) ?_
                    refine KT.step rfl rfl (K.alloc Try.zero57) ?_
                    refine KT.step rfl rfl (K.assign rfl) ?_
                    refine KT.storeH (cs := (lk5 L[k].z).map XV.d) rfl rfl rfl rfl (List.getElem?_concat_length ..) rfl (Nat.le_refl _) rfl Try.size57 fun σ3 l3 u3 v3 => ?_
                    try simp only [List.length_append, List.length_cons, List.length_nil, List.length_set] at l3
                    replace u3 := u3.trans (congrArg (fun c => some (VObj.mk c 0)) (splice_all (by rfl)))
                    have y0 := (v3 (0) (by omega)).trans ((List.getElem?_append_left (by omega)).trans y0)
                    have y1 := (v3 (1) (by omega)).trans ((List.getElem?_append_left (by omega)).trans y1)
                    have y2 := (v3 (2) (by omega)).trans ((List.getElem?_append_left (by omega)).trans y2)
                    have x3 := u3
                    refine KT.nil ?_
                    refine thenK_n ?_
                    refine KC.seq ?_
                    refine KC.seq ?_
                    refine KC.region ?_
                    refine KT.step rfl rfl (K.fieldAddrO rfl Try.fld57_1 Try.size3) ?_
                    refine KT.step rfl rfl (K.loadO rfl x3 (by simp) rfl Try.agg3) ?_
                    refine KT.step rfl rfl (K.move rfl) ?_
                    refine KT.step rfl rfl (K.eql rfl rfl) ?_
                    refine KT.nil ?_
                    refine thenK_n ?_
                    refine KC.cond rfl (fun hc122 => ?_) (fun hc122 => ?_)
                    · skip
                      replace hc122 := of_decide_eq_true hc122
                      have hta : L[k].t = a := by replace hc122 : (L[k].t : Int) = (a : Int) := hc122; omega
                      refine KC.draw Try.mixed ?_
                      refine KT.step rfl rfl (K.move rfl) ?_
                      refine KT.step rfl rfl (K.move rfl) ?_
                      refine KT.step rfl rfl (K.idxO rfl rfl hkl Try.underlying25 Try.size3) ?_
                      refine KT.step rfl rfl (K.loadO (y := .d (DI (ldAt L X k))) rfl y1 (by simp) ((iX_get _ hkl).trans (congrArg (fun n => some (XV.d (DI n))) (if_neg (Nat.lt_irrefl _)))) Try.agg3) ?_
                      refine KT.step rfl rfl (K.fieldAddrO rfl Try.fld57_3 Try.size3) ?_
                      refine KT.step rfl rfl (K.loadO rfl x3 (by simp) rfl Try.agg3) ?_
                      refine KT.step rfl rfl (K.sub rfl rfl (show IntKind.i64.wrap (ldAt L X k - (L[k].k : Int)) = ldAt L X k - (L[k].k : Int) from wrap_id (by have := hbd X k hXq; omega))) ?_
                      refine KT.step rfl rfl (K.idxO rfl rfl hkl Try.underlying25 Try.size3) ?_
                      refine KT.storeG rfl rfl rfl rfl y1 (by rw [iX_len]; omega) rfl rfl Try.size3 fun σ4 l4 u4 v4 => ?_
                      replace y0 := (v4 0 (by omega)).trans y0
                      replace y2 := (v4 2 (by omega)).trans y2
                      refine KT.nil ?_
                      refine ⟨by kernel_rfl, ?_⟩
                      refine thenK_n ?_
                      refine KC.seq ?_
                      refine KC.region ?_
                      refine KT.step rfl rfl (K.move rfl) ?_
                      refine KT.step rfl rfl (K.move rfl) ?_
                      refine KT.step rfl rfl (K.idxO rfl rfl hkl Try.underlying25 Try.size3) ?_
                      refine KT.step rfl rfl (K.loadO (y := .d (DI (ldAt L X k - (L[k].k : Int)))) rfl u4 (by simp) (by rw [iX_set _ hkl, iX_get _ hkl]; simp) Try.agg3) ?_
                      refine KT.step rfl rfl (K.lss rfl rfl) ?_
                      refine KT.nil ?_
                      refine thenK_n ?_
                      refine KC.cond rfl (fun hc135 => ?_) (fun hc135 => ?_)
                      · skip
                        exfalso; replace hc135 := of_decide_eq_true hc135; have := hcan _ (List.getElem_mem hkl) hta; rw [← ldAt_get hkl] at this; omega
                      · skip
                        replace hc135 := of_decide_eq_false hc135
                        refine KC.skip ?_
                        refine blockK_n ?_
                        refine thenK_n ?_
                        refine KC.region ?_
                        refine KT.step rfl rfl (K.add rfl rfl (wrap_id (by omega))) ?_
                        refine KT.step rfl rfl (K.move rfl) ?_
                        refine KT.nil ?_
                        refine thenK_n ?_
                        refine ⟨(σ4, k + 1), ⟨by simp only; omega, y0, ?_, y2⟩, by simp only; omega, rfl, by simp [Go.Vm.look, extK]⟩
                        refine u4.trans (congrArg (fun c => some (VObj.mk c 0)) ((iX_set _ hkl _).trans (iX_congr fun j hj => ?_)))
                        by_cases ej : j = k
                        · subst ej; rw [if_pos rfl, if_pos (Nat.lt_succ_self _), hgd, decide_eq_true hta]; rfl
                        · rw [if_neg ej]
                          by_cases h2 : j < k
                          · rw [if_pos h2, if_pos (by omega)]
                          · rw [if_neg h2, if_neg (by omega)]
                    · skip
                      replace hc122 := of_decide_eq_false hc122
                      have hta : ¬ L[k].t = a := by replace hc122 : ¬ (L[k].t : Int) = (a : Int) := hc122; omega
                      refine KC.skip ?_
                      refine thenK_n ?_
                      refine KC.seq ?_
                      refine KC.region ?_
                      refine KT.step rfl rfl (K.move rfl) ?_
                      refine KT.step rfl rfl (K.move rfl) ?_
                      refine KT.step rfl rfl (K.idxO rfl rfl hkl Try.underlying25 Try.size3) ?_
                      refine KT.step rfl rfl (K.loadO (y := .d (DI (ldAt L X k))) rfl y1 (by simp) ((iX_get _ hkl).trans (congrArg (fun n => some (XV.d (DI n))) (if_neg (Nat.lt_irrefl _)))) Try.agg3) ?_
                      refine KT.step rfl rfl (K.lss rfl rfl) ?_
                      refine KT.nil ?_
                      refine thenK_n ?_
                      refine KC.cond rfl (fun hc135 => ?_) (fun hc135 => ?_)
                      · skip
                        exfalso; replace hc135 := of_decide_eq_true hc135; have := hnn k; omega
                      · skip
                        replace hc135 := of_decide_eq_false hc135
                        refine KC.skip ?_
                        refine blockK_n ?_
                        refine thenK_n ?_
                        refine KC.region ?_
                        refine KT.step rfl rfl (K.add rfl rfl (wrap_id (by omega))) ?_
                        refine KT.step rfl rfl (K.move rfl) ?_
                        refine KT.nil ?_
                        refine thenK_n ?_
                        refine ⟨(σ3, k + 1), ⟨by simp only; omega, y0, ?_, y2⟩, by simp only; omega, rfl, by simp [Go.Vm.look, extK]⟩
                        refine y1.trans (congrArg (fun c => some (VObj.mk c 0)) (iX_congr fun j hj => ?_))
                        by_cases ej : j = k
                        · subst ej; rw [if_pos (Nat.lt_succ_self _), if_neg (Nat.lt_irrefl _), hgd, decide_eq_false hta]; simp [hereN]
                        · skip
                          by_cases h2 : j < k
                          · rw [if_pos h2, if_pos (by omega)]
                          · rw [if_neg h2, if_neg (by omega)]
                  · skip
                    replace hc115 := of_decide_eq_false hc115
                    obtain rfl : k = L.length := by omega
                    replace y1 := y1.trans (congrArg (fun c => some (VObj.mk c 0)) (iX_congr (g := fun k => ldAt L X k - hereN (decide ((L.getD k ⟨0, 0, 0, 0, 0⟩).t = a)) (L.getD k ⟨0, 0, 0, 0, 0⟩).k) fun j hj => if_pos (by omega)))
                    refine KC.exit ?_
                    refine thenK_x ?_
                    refine thenK_x ?_
                    refine blockK_e ?_
                    refine thenK_n ?_
                    refine KC.seq ?_
                    refine KC.region ?_
                    refine KT.step rfl rfl (K.fieldAddrO rfl Try.fld24_1 Try.size22) ?_
                    refine KT.step rfl rfl (K.loadO rfl y0 (by simp) rfl Try.agg22) ?_
                    refine KT.step rfl rfl (K.lenN rfl hd Try.underlying22) ?_
                    refine KT.step rfl rfl (K.move rfl) ?_
                    refine KT.nil ?_
                    refine thenK_n ?_
                    refine KC.block ?_
                    refine KC.loop (fun p : List VObj × Nat => p.1) (fun p => [(1, .d e), (2, .optr 0 0), (5, .d (lsD (zs s))), (7, .d (seqD q N)), (9, .osl 1 0 L.length 1 L.length true), (10, .osl 2 0 N 1 N true), (14, .d (DI (a : Nat))), (91, .d (lsD (zs s))), (92, .d (DI ((zs s).length : Nat))), (93, .d (DI (i : Nat))), (138, .d d), (139, .d (DI (L.length : Nat))), (140, .d (DI (p.2 : Nat)))]) (fun p : List VObj × Nat => p.2 ≤ L.length ∧ p.1[0]? = some ⟨[.d (DI (N : Nat)), .d d], 0⟩ ∧ p.1[1]? = some ⟨iX L.length (fun k => if k < p.2 then ldAt L (bump X a) k else ldAt L X k - hereN (decide ((L.getD k ⟨0, 0, 0, 0, 0⟩).t = a)) (L.getD k ⟨0, 0, 0, 0, 0⟩).k), 0⟩ ∧ p.1[2]? = some ⟨iX N fun k => ((bump X a) k : Int), 0⟩) (fun p => L.length - p.2) (σ0, 0) ⟨Nat.zero_le _, y0, by simpa using y1, y2⟩ rfl (by simp [Go.Vm.look, extK, enterK]) ?_
                    clear y0 y1 y2 g2
                    intro p hp
                    obtain ⟨σ0, k⟩ := p
                    obtain ⟨hk, y0, y1, y2⟩ := hp
                    simp only at hk y0 y1 y2 ⊢
                    have g2 := (List.getElem?_eq_some_iff.1 y2).1
                    refine KC.seq ?_
                    refine KC.region ?_
                    refine KT.step rfl rfl (K.lss rfl rfl) ?_
                    refine KT.nil ?_
                    refine thenK_n ?_
                    refine KC.seq ?_
                    refine KC.cond rfl (fun hc141 => ?_) (fun hc141 => ?_)
                    · skip
                      replace hc141 := of_decide_eq_true hc141
                      have hkl : k < L.length := by omega
                      have ok := hr.ok _ (List.getElem_mem hkl)
                      have okg := ok.g6
                      have hgd : L.getD k ⟨0, 0, 0, 0, 0⟩ = L[k] := by simp [hkl]
                      have hgd2 : 0 ≤ hereN (decide ((L.getD k ⟨0, 0, 0, 0, 0⟩).t = a)) (L.getD k ⟨0, 0, 0, 0, 0⟩).k ∧ hereN (decide ((L.getD k ⟨0, 0, 0, 0, 0⟩).t = a)) (L.getD k ⟨0, 0, 0, 0, 0⟩).k ≤ 6 := by
                        rw [hgd]; have := ok.k6; unfold hereN; split <;> omega
                      refine KC.skip ?_
                      refine thenK_n ?_
                      refine KC.seq ?_
                      refine KC.block ?_
                      refine KC.seq ?_
                      refine KC.region ?_
                      refine KT.step rfl rfl (K.move rfl) ?_
                      refine KT.step rfl rfl (K.idxN rfl hd rfl hkl Try.underlying22 Try.size57) ?_
                      refine KT.step rfl rfl (K.loadN hkl rfl Try.agg57 Try.size57) ?_
                      refine KT.step rfl rfl (K.alloc Try.zero57) ?_
                      refine KT.step rfl rfl (K.assign rfl) ?_
                      refine KT.storeH (cs := (lk5 L[k].z).map XV.d) rfl rfl rfl rfl (List.getElem?_concat_length ..) rfl (Nat.le_refl _) rfl Try.size57 fun σ5 l5 u5 v5 => ?_
                      try simp only [List.length_append, List.length_cons, List.length_nil, List.length_set] at l5
                      replace u5 := u5.trans (congrArg (fun c => some (VObj.mk c 0)) (splice_all (by rfl)))
                      have y0 := (v5 (0) (by omega)).trans ((List.getElem?_append_left (by omega)).trans y0)
                      have y1 := (v5 (1) (by omega)).trans ((List.getElem?_append_left (by omega)).trans y1)
                      have y2 := (v5 (2) (by omega)).trans ((List.getElem?_append_left (by omega)).trans y2)
                      have x5 := u5
                      refine KT.nil ?_
                      refine thenK_n ?_
                      refine KC.seq ?_
                      refine KC.region ?_
                      refine KT.step rfl rfl (K.fieldAddrO rfl Try.fld57_0 Try.size3) ?_
                      refine KT.step rfl rfl (K.loadO rfl x5 (by simp) rfl Try.agg3) ?_
                      refine KT.step rfl rfl (K.move rfl) ?_
                      refine KT.step rfl rfl (K.eql rfl rfl) ?_
                      refine KT.nil ?_
                      refine thenK_n ?_
                      refine KC.cond rfl (fun hc148 => ?_) (fun hc148 => ?_)
                      · skip
                        replace hc148 := of_decide_eq_true hc148
                        have hfa : L[k].f = a := by replace hc148 : (L[k].f : Int) = (a : Int) := hc148; omega
                        refine KC.draw Try.mixed ?_
                        refine KT.step rfl rfl (K.move rfl) ?_
                        refine KT.step rfl rfl (K.move rfl) ?_
                        refine KT.step rfl rfl (K.idxO rfl rfl hkl Try.underlying25 Try.size3) ?_
                        refine KT.step rfl rfl (K.loadO (y := .d (DI (ldAt L X k - hereN (decide ((L.getD k ⟨0, 0, 0, 0, 0⟩).t = a)) (L.getD k ⟨0, 0, 0, 0, 0⟩).k))) rfl y1 (by simp) ((iX_get _ hkl).trans (congrArg (fun n => some (XV.d (DI n))) (if_neg (Nat.lt_irrefl _)))) Try.agg3) ?_
                        refine KT.step rfl rfl (K.fieldAddrO rfl Try.fld57_2 Try.size3) ?_
                        refine KT.step rfl rfl (K.loadO rfl x5 (by simp) rfl Try.agg3) ?_
                        refine KT.step rfl rfl (K.add rfl rfl (show IntKind.i64.wrap (ldAt L X k - hereN (decide ((L.getD k ⟨0, 0, 0, 0, 0⟩).t = a)) (L.getD k ⟨0, 0, 0, 0, 0⟩).k + (L[k].g : Int)) = ldAt L X k - hereN (decide ((L.getD k ⟨0, 0, 0, 0, 0⟩).t = a)) (L.getD k ⟨0, 0, 0, 0, 0⟩).k + (L[k].g : Int) from wrap_id (by have := hbd X k hXq; have := hgd2; omega))) ?_
                        refine KT.step rfl rfl (K.idxO rfl rfl hkl Try.underlying25 Try.size3) ?_
                        refine KT.storeG rfl rfl rfl rfl y1 (by rw [iX_len]; omega) rfl rfl Try.size3 fun σ6 l6 u6 v6 => ?_
                        replace y0 := (v6 0 (by omega)).trans y0
                        replace y2 := (v6 2 (by omega)).trans y2
                        refine KT.nil ?_
                        refine ⟨by kernel_rfl, ?_⟩
                        refine blockK_n ?_
                        refine thenK_n ?_
                        refine KC.region ?_
                        refine KT.step rfl rfl (K.add rfl rfl (wrap_id (by omega))) ?_
                        refine KT.step rfl rfl (K.move rfl) ?_
                        refine KT.nil ?_
                        refine thenK_n ?_
                        refine ⟨(σ6, k + 1), ⟨by simp only; omega, y0, ?_, y2⟩, by simp only; omega, rfl, by simp [Go.Vm.look, extK]⟩
                        refine u6.trans (congrArg (fun c => some (VObj.mk c 0)) ((iX_set _ hkl _).trans (iX_congr fun j hj => ?_)))
                        by_cases ej : j = k
                        · subst ej; rw [if_pos rfl, if_pos (Nat.lt_succ_self _), ldAt_bump hkl, hgd, decide_eq_true hfa]; rfl
                        · rw [if_neg ej]
                          by_cases h2 : j < k
                          · rw [if_pos h2, if_pos (by omega)]
                          · rw [if_neg h2, if_neg (by omega)]
                      · skip
                        replace hc148 := of_decide_eq_false hc148
                        have hfa : ¬ L[k].f = a := by replace hc148 : ¬ (L[k].f : Int) = (a : Int) := hc148; omega
                        refine KC.skip ?_
                        refine blockK_n ?_
                        refine thenK_n ?_
                        refine KC.region ?_
                        refine KT.step rfl rfl (K.add rfl rfl (wrap_id (by omega))) ?_
                        refine KT.step rfl rfl (K.move rfl) ?_
                        refine KT.nil ?_
                        refine thenK_n ?_
                        refine ⟨(σ5, k + 1), ⟨by simp only; omega, y0, ?_, y2⟩, by simp only; omega, rfl, by simp [Go.Vm.look, extK]⟩
                        refine y1.trans (congrArg (fun c => some (VObj.mk c 0)) (iX_congr fun j hj => ?_))
                        by_cases ej : j = k
                        · subst ej; rw [if_pos (Nat.lt_succ_self _), if_neg (Nat.lt_irrefl _), ldAt_bump hkl, hgd, decide_eq_false hfa]; simp [hereN]
                        · skip
                          by_cases h2 : j < k
                          · rw [if_pos h2, if_pos (by omega)]
                          · rw [if_neg h2, if_neg (by omega)]
                    · skip
                      replace hc141 := of_decide_eq_false hc141
                      obtain rfl : k = L.length := by omega
                      refine KC.exit ?_
                      refine thenK_x ?_
                      refine thenK_x ?_
                      refine blockK_e ?_
                      refine blockK_n ?_
                      refine thenK_n ?_
                      refine KC.region ?_
                      refine KT.step rfl rfl (K.add rfl rfl (wrap_id (by omega))) ?_
                      refine KT.step rfl rfl (K.move rfl) ?_
                      refine KT.nil ?_
                      refine thenK_n ?_
                      refine ⟨(σ0, bump X a, i + 1), ⟨by simp only; omega, y0, ?_, y2, hXb, hnnb, hnext⟩, by simp only; omega, rfl, by simp [Go.Vm.look, extK]⟩
                      exact y1.trans (congrArg (fun c => some (VObj.mk c 0)) (iX_congr fun j hj => if_pos (by omega)))
            · skip
              replace hc94 := of_decide_eq_false hc94
              obtain rfl : i = (zs s).length := by omega
              rw [List.drop_length] at hrunX
              simp only [runL, Option.some.injEq] at hrunX
              subst hrunX
              have hXe := eqB_iff.1 hYq
              have hmapE : (List.range N).map (fun k => (X k : Int)) = (List.range N).map (fun k => (q k : Int)) := List.map_congr_left fun k hk => by rw [hXe k (by have := List.mem_range.1 hk; omega)]
              have hEq := equal21 (iD_ints N fun k => (X k : Int)) (seqD_ints q N) (by simp; omega)
              rw [hmapE, decide_eq_true rfl] at hEq
              refine KC.exit ?_
              refine thenK_x ?_
              refine thenK_x ?_
              refine blockK_e ?_
              refine thenK_n ?_
              refine KC.seq ?_
              refine KC.seq ?_
              refine KC.region ?_
              refine KT.step rfl rfl (K.fieldAddrO rfl Try.fld24_1 Try.size22) ?_
              refine KT.step rfl rfl (K.loadO rfl y0 (by simp) rfl Try.agg22) ?_
              refine KT.step rfl rfl (K.lenN rfl hd Try.underlying22) ?_
              refine KT.step rfl rfl (K.move rfl) ?_
              refine KT.nil ?_
              refine thenK_n ?_
              refine KC.block ?_
              refine KC.loop (fun p : List VObj × Nat => p.1) (fun p => [(1, .d e), (2, .optr 0 0), (5, .d (lsD (zs s))), (7, .d (seqD q N)), (9, .osl 1 0 L.length 1 L.length true), (10, .osl 2 0 N 1 N true), (160, .d d), (161, .d (DI (L.length : Nat))), (162, .d (DI (p.2 : Nat)))]) (fun p : List VObj × Nat => p.2 ≤ L.length ∧ p.1[0]? = some ⟨[.d (DI (N : Nat)), .d d], 0⟩ ∧ p.1[1]? = some ⟨iX L.length (ldAt L X), 0⟩ ∧ p.1[2]? = some ⟨iX N fun k => (X k : Int), 0⟩) (fun p => L.length - p.2) (σ0, 0) ⟨Nat.zero_le _, y0, y1, y2⟩ rfl (by simp [Go.Vm.look, extK, enterK]) ?_
              clear y0 y1 y2 g2
              intro p hp
              obtain ⟨σ0, k⟩ := p
              obtain ⟨hk, y0, y1, y2⟩ := hp
              simp only at hk y0 y1 y2 ⊢
              have g2 := (List.getElem?_eq_some_iff.1 y2).1
              refine KC.seq ?_
              refine KC.region ?_
              refine KT.step rfl rfl (K.lss rfl rfl) ?_
              refine KT.nil ?_
              refine thenK_n ?_
              refine KC.seq ?_
              refine KC.cond rfl (fun hc163 => ?_) (fun hc163 => ?_)
              · skip
                replace hc163 := of_decide_eq_true hc163
                have hkl : k < L.length := by omega
                have ok := hr.ok _ (List.getElem_mem hkl)
                have hbal := hr.rep.bal _ (List.getElem_mem hkl)
                have b1 : L[k].g * q L[k].f ≤ 6 * 60 := Nat.mul_le_mul ok.g6 (hr.le _)
                have b2 : L[k].k * q L[k].t ≤ 6 * 60 := Nat.mul_le_mul ok.k6 (hr.le _)
                have hst : ldAt L X k = (L[k].s : Int) := by
                  rw [ldAt_get hkl]
                  unfold loadZ
                  rw [hXe _ (Nat.lt_of_lt_of_le ok.f h6), hXe _ (Nat.lt_of_lt_of_le ok.t h6), ← Int.natCast_mul, ← Int.natCast_mul, hbal]
                  omega
                refine KC.skip ?_
                refine thenK_n ?_
                refine KC.seq ?_
                refine KC.block ?_
                refine KC.seq ?_
                refine KC.region ?_
                refine KT.step rfl rfl (K.move rfl) ?_
                refine KT.step rfl rfl (K.idxN rfl hd rfl hkl Try.underlying22 Try.size57) ?_
                refine KT.step rfl rfl (K.loadN hkl rfl Try.agg57 Try.size57) ?_
                refine KT.step rfl rfl (K.alloc Try.zero57) ?_
                refine KT.step rfl rfl (K.assign rfl) ?_
                refine KT.storeH (cs := (lk5 L[k].z).map XV.d) rfl rfl rfl rfl (List.getElem?_concat_length ..) rfl (Nat.le_refl _) rfl Try.size57 fun σ7 l7 u7 v7 => ?_
                try simp only [List.length_append, List.length_cons, List.length_nil, List.length_set] at l7
                replace u7 := u7.trans (congrArg (fun c => some (VObj.mk c 0)) (splice_all (by rfl)))
                have y0 := (v7 (0) (by omega)).trans ((List.getElem?_append_left (by omega)).trans y0)
                have y1 := (v7 (1) (by omega)).trans ((List.getElem?_append_left (by omega)).trans y1)
                have y2 := (v7 (2) (by omega)).trans ((List.getElem?_append_left (by omega)).trans y2)
                have x7 := u7
                refine KT.nil ?_
                refine thenK_n ?_
                refine KC.seq ?_
                refine KC.draw Try.mixed ?_
                refine KT.step rfl rfl (K.move rfl) ?_
                refine KT.step rfl rfl (K.move rfl) ?_
                refine KT.step rfl rfl (K.idxO rfl rfl hkl Try.underlying25 Try.size3) ?_
                refine KT.step rfl rfl (K.loadO rfl y1 (by simp) (iX_get _ hkl) Try.agg3) ?_
                refine KT.step rfl rfl (K.fieldAddrO rfl Try.fld57_4 Try.size3) ?_
                refine KT.step rfl rfl (K.loadO rfl x7 (by simp) rfl Try.agg3) ?_
                refine KT.step rfl rfl (K.neq rfl rfl) ?_
                refine KT.step rfl rfl (K.move rfl) ?_
                refine KT.bcase (fun hb174 => ?_) (fun hb174 => ?_)
                · skip
                  exfalso; replace hb174 : ¬ ldAt L X k = (L[k].s : Int) := of_decide_eq_true hb174; exact hb174 hst
                · skip
                  replace hb174 := of_decide_eq_false hb174
                  refine KT.step rfl rfl (K.fieldAddrO rfl Try.fld57_2 Try.size3) ?_
                  refine KT.step rfl rfl (K.loadO rfl x7 (by simp) rfl Try.agg3) ?_
                  refine KT.step rfl rfl (K.move rfl) ?_
                  refine KT.step rfl rfl (K.fieldAddrO rfl Try.fld57_0 Try.size3) ?_
                  refine KT.step rfl rfl (K.loadO rfl x7 (by simp) rfl Try.agg3) ?_
                  refine KT.step rfl rfl (K.idxDK rfl rfl ok.f Try.underlying25 Try.size3) ?_
                  refine KT.step rfl rfl (K.loadSeq ok.f rfl Try.agg3) ?_
                  refine KT.step rfl rfl (K.mul rfl rfl (mulN (by omega))) ?_
                  refine KT.step rfl rfl (K.fieldAddrO rfl Try.fld57_3 Try.size3) ?_
                  refine KT.step rfl rfl (K.loadO rfl x7 (by simp) rfl Try.agg3) ?_
                  refine KT.step rfl rfl (K.move rfl) ?_
                  refine KT.step rfl rfl (K.fieldAddrO rfl Try.fld57_1 Try.size3) ?_
                  refine KT.step rfl rfl (K.loadO rfl x7 (by simp) rfl Try.agg3) ?_
                  refine KT.step rfl rfl (K.idxDK rfl rfl ok.t Try.underlying25 Try.size3) ?_
                  refine KT.step rfl rfl (K.loadSeq ok.t rfl Try.agg3) ?_
                  refine KT.step rfl rfl (K.mul rfl rfl (mulN (by omega))) ?_
                  refine KT.step rfl rfl (K.neq rfl rfl) ?_
                  refine KT.step rfl rfl (K.pick rfl (fun h => by cases h) (fun _ => rfl)) ?_
                  refine KT.nil ?_
                  refine ⟨by kernel_rfl, ?_⟩
                  refine thenK_n ?_
                  refine KC.cond rfl (fun hc192 => ?_) (fun hc192 => ?_)
                  · skip
                    exfalso; replace hc192 := of_decide_eq_true hc192; exact hc192 (congrArg (fun (n : Nat) => (n : Int)) hbal)
                  · skip
                    replace hc192 := of_decide_eq_false hc192
                    refine KC.skip ?_
                    refine blockK_n ?_
                    refine thenK_n ?_
                    refine KC.region ?_
                    refine KT.step rfl rfl (K.add rfl rfl (wrap_id (by omega))) ?_
                    refine KT.step rfl rfl (K.move rfl) ?_
                    refine KT.nil ?_
                    refine thenK_n ?_
                    exact ⟨(σ7, k + 1), ⟨by simp only; omega, y0, y1, y2⟩, by simp only; omega, rfl, by simp [Go.Vm.look, extK]⟩
              · skip
                replace hc163 := of_decide_eq_false hc163
                have hfz2 : ([.osl 2 0 N 1 N true, .d (seqD q N)] : List XV).mapM (deepen (freezeIds σ0 [2]) 5) = some [iD N fun k => (X k : Int), seqD q N] := by
                  have h1 := freezeIds_in (ids := [2]) (by simp) y2
                  have h2 : deepen (freezeIds σ0 [2]) 5 (.osl 2 0 N 1 N true) = some (iD N fun k => (X k : Int)) := deepen_cells (ds := (List.range N).map fun k => DI (X k : Nat)) h1 rfl (by simp)
                  rw [List.mapM_cons, h2]; rfl
                refine KC.exit ?_
                refine thenK_x ?_
                refine thenK_x ?_
                refine blockK_e ?_
                refine thenK_n ?_
                refine KC.seq ?_
                refine KC.region ?_
                refine KT.step rfl rfl (K.loadOA ([DI (N : Nat), d]) rfl y0 (by decide) Try.agg24 Try.size24 rfl) ?_
                refine KT.step rfl rfl (K.call1 rfl plainTry_19 (hof)) ?_
                refine KT.step rfl rfl (K.move rfl) ?_
                refine KT.step rfl rfl (K.call2 rfl rfl plainTry_25 (hpk)) ?_
                refine KT.step rfl rfl (K.move rfl) ?_
                refine KT.step rfl rfl (K.extract rfl rfl) ?_
                refine KT.step rfl rfl (K.extract rfl rfl) ?_
                refine KT.step rfl rfl (K.assign rfl) ?_
                refine KT.nil ?_
                refine thenK_n ?_
                refine KC.seq ?_
                refine KC.region ?_
                refine KT.step rfl rfl (K.move rfl) ?_
                refine KT.step rfl rfl (K.move rfl) ?_
                refine KT.step rfl rfl (K.callZ [2] 5 rfl plainTry_21 hfz2 hEq) ?_
                refine KT.step rfl rfl (K.move rfl) ?_
                refine KT.bcase (fun hb204 => ?_) (fun hb204 => ?_)
                · skip
                  refine KT.step rfl rfl (K.move rfl) ?_
                  refine KT.step rfl rfl (K.neq rfl rfl) ?_
                  refine KT.step rfl rfl (K.move rfl) ?_
                  refine KT.bcase (fun hb207 => ?_) (fun hb207 => ?_)
                  · skip
                    replace hb207 := of_decide_eq_true hb207
                    refine KT.skip rfl rfl ?_
                    refine KT.skip rfl rfl ?_
                    refine KT.skip rfl rfl ?_
                    refine KT.skip rfl rfl ?_
                    refine KT.step rfl rfl (K.pick rfl (fun _ => rfl) (fun h => by cases h)) ?_
                    refine KT.step rfl rfl (K.pick rfl (fun _ => rfl) (fun h => by cases h)) ?_
                    refine KT.step rfl rfl (K.move rfl) ?_
                    refine KT.step rfl rfl (K.call0 plainTry_22 (awake22)) ?_
                    refine KT.step rfl rfl (K.pick rfl (fun _ => rfl) (fun h => by cases h)) ?_
                    refine KT.step rfl rfl (K.assign rfl) ?_
                    refine KT.nil ?_
                    refine thenK_n ?_
                    refine KC.ret ?_
                    exact ⟨.inl rfl, _, rfl, rfl⟩
                  · skip
                    replace hb207 := of_decide_eq_false hb207
                    refine KT.step rfl rfl (K.move rfl) ?_
                    refine KT.step rfl rfl (K.move rfl) ?_
                    refine KT.step rfl rfl (K.call2 rfl rfl plainTry_36 (compare36 hsI he (by omega) hel)) ?_
                    refine KT.step rfl rfl (K.leq rfl rfl) ?_
                    refine KT.step rfl rfl (K.pick rfl (fun h => by cases h) (fun _ => rfl)) ?_
                    refine KT.step rfl rfl (K.pick rfl (fun _ => rfl) (fun h => by cases h)) ?_
                    refine KT.step rfl rfl (K.move rfl) ?_
                    refine KT.bcase (fun hb214 => ?_) (fun hb214 => ?_)
                    · skip
                      replace hb214 := of_decide_eq_true hb214
                      refine KT.step rfl rfl (K.call0 plainTry_22 (awake22)) ?_
                      refine KT.step rfl rfl (K.pick rfl (fun _ => rfl) (fun h => by cases h)) ?_
                      refine KT.step rfl rfl (K.assign rfl) ?_
                      refine KT.nil ?_
                      refine thenK_n ?_
                      refine KC.ret ?_
                      exact ⟨.inl rfl, _, rfl, rfl⟩
                    · skip
                      exfalso; replace hb214 := of_decide_eq_false hb214; exact hb214 (hpe (Classical.not_not.1 hb207))
                · skip
                  cases hb204
end Go.Proofs.Ytnfnjnaheckdbaa
