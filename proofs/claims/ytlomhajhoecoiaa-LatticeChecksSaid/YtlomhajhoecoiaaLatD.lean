/-
  THE CONTRACTS of package lattice's checks and of the reference's, on deep values, 4: a refutation is checked.
-/
import Derived.Test.YtlomhajhoecoiaaLatC
namespace Go.Proofs.Ytlomhajhoecoiaa
open Go.Vm

theorem col_len (m : List (List Int)) (j : Nat) : (col m j).length = m.length := by simp [col]
theorem at0_col (m : List (List Int)) (j k : Nat) : at0 (col m j) k = at0 (m.getD k []) j := by
  simp only [at0, col, List.getD_eq_getElem?_getD, List.getElem?_map]
  cases m[k]? <;> simp [at0]
theorem ints_of (l : List Int) (cap : Option Nat) : Ints (.sl (l.map DI) l.length cap) l := .sl (by simp) fun i c x hc hx => by
  rw [List.getElem?_map, hx] at hc
  simpa using hc.symm
def cols (m : List (List Int)) (n : Nat) : List (List Int) := (List.range n).map (col m)
theorem transD_mat (m : List (List Int)) (n : Nat) : Mat (transD m n) (cols m n) := by
  have e : (cols m n).length = n := by simp [cols]
  have : Mat (.sl ((List.range n).map (colD m)) (cols m n).length (some n)) (cols m n) := .sl (by simp [cols]) fun i c x hc hx => by
    rw [List.getElem?_map] at hc
    rw [cols, List.getElem?_map] at hx
    cases hr : (List.range n)[i]? with
    | none => rw [hr] at hc; simp at hc
    | some k =>
      rw [hr] at hc hx
      simp at hc hx
      subst hc hx
      have := ints_of (col m k) (some m.length)
      rwa [col_len] at this
  rwa [e] at this
theorem cols_len (m : List (List Int)) (n : Nat) : (cols m n).length = n := by simp [cols]
theorem cols_get (m : List (List Int)) (n : Nat) (j : Nat) (hj : j < (cols m n).length) : (cols m n)[j] = col m j := by simp [cols]

/-- y is a refutation over den. -/
def colB (m : List (List Int)) (y : List Int) (den : Int) (j : Nat) : Bool := decide ((dotF (at0 y) (fun k => at0 (m.getD k []) j) m.length).tmod den = 0)
def refB (m : List (List Int)) (b y : List Int) (den : Int) : Bool :=
  decide (y.length = m.length) && inB 1099511627776 y && decide (1 ≤ den) && decide (den ≤ 1099511627776) && (List.range (hd0 m).length).all (colB m y den) && decide ((dotF (at0 y) (at0 b) m.length).tmod den ≠ 0)
theorem range_take (n i : Nat) (hi : i ≤ n) : (List.range n).take i = List.range i := by
  refine List.ext_getElem? fun k => ?_
  rw [List.getElem?_take]
  by_cases hk : k < i
  · rw [if_pos hk, List.getElem?_range (by omega), List.getElem?_range hk]
  · rw [if_neg hk, List.getElem?_eq_none (by simp; omega)]
theorem range_all_succ (p : Nat → Bool) (i : Nat) : (List.range (i + 1)).all p = ((List.range i).all p && p i) := by simp [List.range_succ]
theorem range_all_false {p : Nat → Bool} {n i : Nat} (hi : i < n) (h : p i = false) : (List.range n).all p = false := by
  cases hb : (List.range n).all p with
  | false => rfl
  | true =>
    have := List.all_eq_true.1 hb i (by simpa using hi)
    rw [h] at this; cases this
theorem right_len {m : List (List Int)} {b : List Int} (h : rightB m b = true) : 1 ≤ m.length ∧ m.length ≤ 4 ∧ 1 ≤ (hd0 m).length ∧ (hd0 m).length ≤ 5 ∧ b.length = m.length ∧ ∀ r ∈ m, r.length = (hd0 m).length := by
  simp only [rightB, validB, Bool.and_eq_true, decide_eq_true_eq, List.all_eq_true, rowB] at h
  obtain ⟨⟨⟨⟨h1, h2⟩, h3⟩, h4⟩, h5⟩ := h
  exact ⟨h1.1, h1.2, h2.1, h2.2, h4, fun r hr => by have := (h3 r hr).1; omega⟩

set_option maxRecDepth 10000 in
theorem refutes77 {d e f : DV} {m : List (List Int)} {b y : List Int} {den : Int} (hd : Mat d m) (he : Ints e b) (hf : Ints f y) (hR : rightB m b = true) (hy : y.length ≤ 9223372036854775807) :
    DeepCall Try.prog 77 [d, e, f, DI den] (DB (refB m b y den)) := by
  have htr := transD_mat m (hd0 m).length
  obtain ⟨hm1, hm4, hn1, hn5, hbl, hrow⟩ := right_len hR
  have h0 := hd0_eq (m := m) (by omega)
  refine deepCall_K 5 Try.func77 rfl (Nat.le_of_ble_eq_true rfl) fun M W0 => ?_
  refine KC.seq ?_
  refine KC.region ?_
  refine KT.step rfl rfl (K.assign rfl) ?_
  refine KT.nil ?_
  refine thenK_n ?_
  refine KC.seq ?_
  refine KC.seq ?_
  refine KC.region ?_
  refine KT.step rfl rfl (K.move rfl) ?_
  refine KT.step rfl rfl (K.len rfl (by assumption) Try.underlying35) ?_
  refine KT.step rfl rfl (K.move rfl) ?_
  refine KT.step rfl rfl (K.len rfl (by assumption) Try.underlying22) ?_
  refine KT.step rfl rfl (K.neq rfl rfl) ?_
  refine KT.step rfl rfl (K.move rfl) ?_
  refine KT.bcase (fun hb16 => ?_) (fun hb16 => ?_)
  · skip
    have h15 : ¬ y.length = m.length := by simp at hb16; omega
    refine KT.skip rfl rfl ?_
    refine KT.skip rfl rfl ?_
    refine KT.skip rfl rfl ?_
    refine KT.step rfl rfl (K.pick rfl (fun _ => rfl) (fun h => by cases h)) ?_
    refine KT.step rfl rfl (K.move rfl) ?_
    refine KT.skip rfl rfl ?_
    refine KT.skip rfl rfl ?_
    refine KT.step rfl rfl (K.pick rfl (fun _ => rfl) (fun h => by cases h)) ?_
    refine KT.step rfl rfl (K.move rfl) ?_
    refine KT.skip rfl rfl ?_
    refine KT.skip rfl rfl ?_
    refine KT.step rfl rfl (K.pick rfl (fun _ => rfl) (fun h => by cases h)) ?_
    refine KT.nil ?_
    refine thenK_n ?_
    refine KC.cond rfl (fun hc28 => ?_) (fun hc28 => ?_)
    · skip
      refine KC.seq ?_
      refine KC.region ?_
      refine KT.step rfl rfl (K.assign rfl) ?_
      refine KT.nil ?_
      refine thenK_n ?_
      refine KC.ret ?_
      refine thenK_r ?_
      exact ⟨.inl rfl, _, rfl, fin_b (by unfold refB; simp [h15])⟩
    · cases hc28
  · skip
    have h15 : y.length = m.length := by simp at hb16; omega
    refine KT.step rfl rfl (K.move rfl) ?_
    refine KT.step rfl rfl (K.call2 rfl rfl plainTry_100 (within100 hf hy (by omega))) ?_
    refine KT.step rfl rfl (K.not rfl) ?_
    refine KT.step rfl rfl (K.pick rfl (fun h => by cases h) (fun _ => rfl)) ?_
    refine KT.step rfl rfl (K.move rfl) ?_
    refine KT.bcase (fun hb21 => ?_) (fun hb21 => ?_)
    · skip
      have h20 : inB 1099511627776 y = false := by simpa using hb21
      refine KT.skip rfl rfl ?_
      refine KT.skip rfl rfl ?_
      refine KT.step rfl rfl (K.pick rfl (fun _ => rfl) (fun h => by cases h)) ?_
      refine KT.step rfl rfl (K.move rfl) ?_
      refine KT.skip rfl rfl ?_
      refine KT.skip rfl rfl ?_
      refine KT.step rfl rfl (K.pick rfl (fun _ => rfl) (fun h => by cases h)) ?_
      refine KT.nil ?_
      refine thenK_n ?_
      refine KC.cond rfl (fun hc28 => ?_) (fun hc28 => ?_)
      · skip
        refine KC.seq ?_
        refine KC.region ?_
        refine KT.step rfl rfl (K.assign rfl) ?_
        refine KT.nil ?_
        refine thenK_n ?_
        refine KC.ret ?_
        refine thenK_r ?_
        exact ⟨.inl rfl, _, rfl, fin_b (by unfold refB; simp [h20])⟩
      · cases hc28
    · skip
      have h20 : inB 1099511627776 y = true := by simpa using hb21
      refine KT.step rfl rfl (K.move rfl) ?_
      refine KT.step rfl rfl (K.lss rfl rfl) ?_
      refine KT.step rfl rfl (K.pick rfl (fun h => by cases h) (fun _ => rfl)) ?_
      refine KT.step rfl rfl (K.move rfl) ?_
      refine KT.bcase (fun hb25 => ?_) (fun hb25 => ?_)
      · skip
        simp at hb25
        refine KT.skip rfl rfl ?_
        refine KT.skip rfl rfl ?_
        refine KT.step rfl rfl (K.pick rfl (fun _ => rfl) (fun h => by cases h)) ?_
        refine KT.nil ?_
        refine thenK_n ?_
        refine KC.cond rfl (fun hc28 => ?_) (fun hc28 => ?_)
        · skip
          refine KC.seq ?_
          refine KC.region ?_
          refine KT.step rfl rfl (K.assign rfl) ?_
          refine KT.nil ?_
          refine thenK_n ?_
          refine KC.ret ?_
          refine thenK_r ?_
          exact ⟨.inl rfl, _, rfl, fin_b (by unfold refB; simp [show ¬ 1 ≤ den by omega])⟩
        · cases hc28
      · skip
        simp at hb25
        refine KT.step rfl rfl (K.move rfl) ?_
        refine KT.step rfl rfl (K.gtr rfl rfl) ?_
        refine KT.step rfl rfl (K.pick rfl (fun h => by cases h) (fun _ => rfl)) ?_
        refine KT.nil ?_
        refine thenK_n ?_
        refine KC.cond rfl (fun hc28 => ?_) (fun hc28 => ?_)
        · skip
          simp at hc28
          refine KC.seq ?_
          refine KC.region ?_
          refine KT.step rfl rfl (K.assign rfl) ?_
          refine KT.nil ?_
          refine thenK_n ?_
          refine KC.ret ?_
          refine thenK_r ?_
          exact ⟨.inl rfl, _, rfl, fin_b (by unfold refB; simp [show ¬ den ≤ 1099511627776 by omega])⟩
        · skip
          simp at hc28
          refine KC.skip ?_
          refine thenK_n ?_
          refine KC.seq ?_
          refine KC.seq ?_
          refine KC.region ?_
          refine KT.step rfl rfl (K.move rfl) ?_
          refine KT.step rfl rfl (K.move rfl) ?_
          refine KT.idx (m := 0) rfl rfl rfl (by assumption) rfl (by omega) Try.underlying22 Try.size35 fun c31 cs31 hq31 => ?_
          refine KT.step rfl rfl (K.load rfl Try.agg35) ?_
          rw [h0] at hq31
          refine KT.step rfl rfl (K.len rfl (by assumption) Try.underlying35) ?_
          refine KT.step rfl rfl (K.call2 rfl rfl plainTry_93 (transposed93 hd (by omega) (by omega) (fun r hr => by have := hrow r hr; omega))) ?_
          refine KT.step rfl rfl (K.len rfl (by assumption) Try.underlying22) ?_
          refine KT.step rfl rfl (K.move rfl) ?_
          refine KT.nil ?_
          refine thenK_n ?_
          refine KC.block ?_
          refine KC.loop (fun _ : Nat => []) (fun i => [(2, .d f), (1, .d e), (3, .d (DI den)), (34, .d (transD m (hd0 m).length)), (35, .d (DI (hd0 m).length)), (36, .d (DI i))]) (fun i => i ≤ (hd0 m).length ∧ (List.range i).all (colB m y den) = true) (fun i => (hd0 m).length - i) 0 ⟨Nat.zero_le _, rfl⟩ rfl (by simp [Go.Vm.look, extK, enterK, cols_len]) ?_
          intro i hi
          obtain ⟨hi, hall⟩ := hi
          refine KC.seq ?_
          refine KC.region ?_
          refine KT.step rfl rfl (K.lss rfl rfl) ?_
          refine KT.nil ?_
          refine thenK_n ?_
          refine KC.seq ?_
          refine KC.cond rfl (fun hc37 => ?_) (fun hc37 => ?_)
          · skip
            replace hc37 := of_decide_eq_true hc37
            have hcl : i < (cols m (hd0 m).length).length := by rw [cols_len]; omega
            have hdot : dotF (at0 y) (at0 (cols m (hd0 m).length)[i]) y.length = dotF (at0 y) (fun k => at0 (m.getD k []) i) m.length := by
              rw [cols_get, h15]; exact dotF_congr _ fun k _ => ⟨rfl, at0_col m i k⟩
            refine KC.skip ?_
            refine thenK_n ?_
            refine KC.seq ?_
            refine KC.block ?_
            refine KC.seq ?_
            refine KC.region ?_
            refine KT.idx rfl rfl rfl (by assumption) rfl (by omega) Try.underlying22 Try.size35 fun c38 cs38 hq38 => ?_
            refine KT.step rfl rfl (K.load rfl Try.agg35) ?_
            refine KT.step rfl rfl (K.assign rfl) ?_
            refine KT.nil ?_
            refine thenK_n ?_
            refine KC.seq ?_
            refine KC.region ?_
            refine KT.step rfl rfl (K.move rfl) ?_
            refine KT.step rfl rfl (K.move rfl) ?_
            refine KT.step rfl rfl (K.call2 rfl rfl plainTry_75 (dot75 hf hq38 (by rw [cols_get]; rw [col_len]; omega) hy)) ?_
            refine KT.step rfl rfl (K.move rfl) ?_
            refine KT.step rfl rfl (K.rem rfl rfl (by omega) rfl) ?_
            refine KT.step rfl rfl (K.neq rfl rfl) ?_
            refine KT.nil ?_
            refine thenK_n ?_
            refine KC.cond rfl (fun hc45 => ?_) (fun hc45 => ?_)
            · skip
              rw [hdot] at hc45
              replace hc45 := of_decide_eq_true hc45
              refine KC.seq ?_
              refine KC.region ?_
              refine KT.step rfl rfl (K.assign rfl) ?_
              refine KT.nil ?_
              refine thenK_n ?_
              refine KC.ret ?_
              refine blockK_r ?_
              refine thenK_r ?_
              refine thenK_r ?_
              refine blockK_r ?_
              refine thenK_r ?_
              have hx : i < (hd0 m).length := by omega
              exact ⟨.inl rfl, _, rfl, fin_b (by unfold refB; rw [range_all_false hx (show colB m y den i = false from decide_eq_false hc45)]; simp)⟩
            · skip
              rw [hdot] at hc45
              replace hc45 := of_decide_eq_false hc45
              refine KC.skip ?_
              refine blockK_n ?_
              refine thenK_n ?_
              refine KC.region ?_
              refine KT.step rfl rfl (K.add rfl rfl (wrap_id (by omega))) ?_
              refine KT.step rfl rfl (K.move rfl) ?_
              refine KT.nil ?_
              refine thenK_n ?_
              refine ⟨i + 1, ⟨by omega, ?_⟩, by omega, rfl, by simp [Go.Vm.look, extK]⟩
              rw [range_all_succ, hall, Bool.true_and]
              exact decide_eq_true (Classical.not_not.1 hc45)
          · skip
            replace hc37 := of_decide_eq_false hc37
            refine KC.exit ?_
            refine thenK_x ?_
            refine thenK_x ?_
            refine blockK_e ?_
            refine thenK_n ?_
            refine KC.seq ?_
            refine KC.region ?_
            refine KT.step rfl rfl (K.move rfl) ?_
            refine KT.step rfl rfl (K.move rfl) ?_
            refine KT.step rfl rfl (K.call2 rfl rfl plainTry_75 (dot75 hf he (by omega) hy)) ?_
            refine KT.step rfl rfl (K.move rfl) ?_
            refine KT.step rfl rfl (K.rem rfl rfl (by omega) rfl) ?_
            refine KT.step rfl rfl (K.neq rfl rfl) ?_
            refine KT.step rfl rfl (K.assign rfl) ?_
            refine KT.nil ?_
            refine thenK_n ?_
            refine KC.ret ?_
            have : i = (hd0 m).length := by omega
            subst this
            exact ⟨.inl rfl, _, rfl, fin_b (by unfold refB; rw [hall, h20, h15]; simp [show 1 ≤ den by omega, show den ≤ 1099511627776 by omega])⟩

set_option maxRecDepth 10000 in
theorem check40 {d e f : DV} {m : List (List Int)} {b y : List Int} {den : Int} (hd : Mat d m) (he : Ints e b) (hf : Ints f y) (hl : m.length ≤ 9223372036854775807) (hr : ∀ row ∈ m, row.length ≤ 9223372036854775807) (hbl : b.length ≤ 9223372036854775807) (hy : y.length ≤ 9223372036854775807) :
    DeepCall Try.prog 40 [d, e, f, DI den] (.tup [DB (rightB m b && refB m b y den), DI (if rightB m b then 0 else 2)]) := by
  refine deepCall_K 5 Try.func40 rfl (Nat.le_of_ble_eq_true rfl) fun M W0 => ?_
  refine KC.seq ?_
  refine KC.region ?_
  refine KT.step rfl rfl (K.assign rfl) ?_
  refine KT.step rfl rfl (K.assign rfl) ?_
  refine KT.nil ?_
  refine thenK_n ?_
  refine KC.seq ?_
  refine KC.seq ?_
  refine KC.region ?_
  refine KT.step rfl rfl (K.move rfl) ?_
  refine KT.step rfl rfl (K.move rfl) ?_
  refine KT.step rfl rfl (K.call2 rfl rfl plainTry_73 (validSystem73 hd he hl hr hbl)) ?_
  refine KT.step rfl rfl (K.not rfl) ?_
  refine KT.nil ?_
  refine thenK_n ?_
  refine KC.cond rfl (fun hc13 => ?_) (fun hc13 => ?_)
  · skip
    have h13 : rightB m b = false := by simpa using hc13
    refine KC.seq ?_
    refine KC.region ?_
    refine KT.step rfl rfl (K.assign rfl) ?_
    refine KT.step rfl rfl (K.assign rfl) ?_
    refine KT.nil ?_
    refine thenK_n ?_
    refine KC.ret ?_
    refine thenK_r ?_
    exact ⟨.inl rfl, _, rfl, by rw [h13]; rfl⟩
  · skip
    have h13 : rightB m b = true := by simpa using hc13
    refine KC.skip ?_
    refine thenK_n ?_
    refine KC.seq ?_
    refine KC.region ?_
    refine KT.step rfl rfl (K.move rfl) ?_
    refine KT.step rfl rfl (K.move rfl) ?_
    refine KT.step rfl rfl (K.move rfl) ?_
    refine KT.step rfl rfl (K.move rfl) ?_
    refine KT.step rfl rfl (K.call4 rfl rfl rfl rfl plainTry_77 (refutes77 hd he hf h13 hy)) ?_
    refine KT.step rfl rfl (K.assign rfl) ?_
    refine KT.step rfl rfl (K.assign rfl) ?_
    refine KT.nil ?_
    refine thenK_n ?_
    refine KC.ret ?_
    exact ⟨.inl rfl, _, rfl, by rw [h13]; rfl⟩

set_option maxRecDepth 10000 in
theorem refuses39 {d e f : DV} {m : List (List Int)} {b y : List Int} {den : Int} (hd : Mat d m) (he : Ints e b) (hf : Ints f y) (hR : rightB m b = true) (hy : y.length ≤ 9223372036854775807) :
    DeepCall Try.prog 39 [d, e, f, DI den] (DB (refB m b y den)) := by
  obtain ⟨hm1, hm4, hn1, hn5, hbl, hrow⟩ := right_len hR
  have h0 := hd0_eq (m := m) (by omega)
  refine deepCall_K 5 Try.func39 rfl (Nat.le_of_ble_eq_true rfl) fun M W0 => ?_
  refine KC.seq ?_
  refine KC.region ?_
  refine KT.step rfl rfl (K.assign rfl) ?_
  refine KT.nil ?_
  refine thenK_n ?_
  refine KC.seq ?_
  refine KC.seq ?_
  refine KC.region ?_
  refine KT.step rfl rfl (K.move rfl) ?_
  refine KT.step rfl rfl (K.len rfl (by assumption) Try.underlying35) ?_
  refine KT.step rfl rfl (K.move rfl) ?_
  refine KT.step rfl rfl (K.len rfl (by assumption) Try.underlying22) ?_
  refine KT.step rfl rfl (K.neq rfl rfl) ?_
  refine KT.step rfl rfl (K.move rfl) ?_
  refine KT.bcase (fun hb21 => ?_) (fun hb21 => ?_)
  · skip
    have h15 : ¬ y.length = m.length := by simp at hb21; omega
    refine KT.skip rfl rfl ?_
    refine KT.skip rfl rfl ?_
    refine KT.skip rfl rfl ?_
    refine KT.step rfl rfl (K.pick rfl (fun _ => rfl) (fun h => by cases h)) ?_
    refine KT.step rfl rfl (K.move rfl) ?_
    refine KT.skip rfl rfl ?_
    refine KT.skip rfl rfl ?_
    refine KT.step rfl rfl (K.pick rfl (fun _ => rfl) (fun h => by cases h)) ?_
    refine KT.step rfl rfl (K.move rfl) ?_
    refine KT.skip rfl rfl ?_
    refine KT.skip rfl rfl ?_
    refine KT.step rfl rfl (K.pick rfl (fun _ => rfl) (fun h => by cases h)) ?_
    refine KT.nil ?_
    refine thenK_n ?_
    refine KC.cond rfl (fun hc33 => ?_) (fun hc33 => ?_)
    · skip
      refine KC.seq ?_
      refine KC.region ?_
      refine KT.step rfl rfl (K.assign rfl) ?_
      refine KT.nil ?_
      refine thenK_n ?_
      refine KC.ret ?_
      refine thenK_r ?_
      exact ⟨.inl rfl, _, rfl, fin_b (by unfold refB; simp [h15])⟩
    · cases hc33
  · skip
    have h15 : y.length = m.length := by simp at hb21; omega
    refine KT.step rfl rfl (K.move rfl) ?_
    refine KT.step rfl rfl (K.call2 rfl rfl plainTry_49 (within49 hf hy (by omega))) ?_
    refine KT.step rfl rfl (K.not rfl) ?_
    refine KT.step rfl rfl (K.pick rfl (fun h => by cases h) (fun _ => rfl)) ?_
    refine KT.step rfl rfl (K.move rfl) ?_
    refine KT.bcase (fun hb26 => ?_) (fun hb26 => ?_)
    · skip
      have h20 : inB 1099511627776 y = false := by simpa using hb26
      refine KT.skip rfl rfl ?_
      refine KT.skip rfl rfl ?_
      refine KT.step rfl rfl (K.pick rfl (fun _ => rfl) (fun h => by cases h)) ?_
      refine KT.step rfl rfl (K.move rfl) ?_
      refine KT.skip rfl rfl ?_
      refine KT.skip rfl rfl ?_
      refine KT.step rfl rfl (K.pick rfl (fun _ => rfl) (fun h => by cases h)) ?_
      refine KT.nil ?_
      refine thenK_n ?_
      refine KC.cond rfl (fun hc33 => ?_) (fun hc33 => ?_)
      · skip
        refine KC.seq ?_
        refine KC.region ?_
        refine KT.step rfl rfl (K.assign rfl) ?_
        refine KT.nil ?_
        refine thenK_n ?_
        refine KC.ret ?_
        refine thenK_r ?_
        exact ⟨.inl rfl, _, rfl, fin_b (by unfold refB; simp [h20])⟩
      · cases hc33
    · skip
      have h20 : inB 1099511627776 y = true := by simpa using hb26
      refine KT.step rfl rfl (K.move rfl) ?_
      refine KT.step rfl rfl (K.lss rfl rfl) ?_
      refine KT.step rfl rfl (K.pick rfl (fun h => by cases h) (fun _ => rfl)) ?_
      refine KT.step rfl rfl (K.move rfl) ?_
      refine KT.bcase (fun hb30 => ?_) (fun hb30 => ?_)
      · skip
        simp at hb30
        refine KT.skip rfl rfl ?_
        refine KT.skip rfl rfl ?_
        refine KT.step rfl rfl (K.pick rfl (fun _ => rfl) (fun h => by cases h)) ?_
        refine KT.nil ?_
        refine thenK_n ?_
        refine KC.cond rfl (fun hc33 => ?_) (fun hc33 => ?_)
        · skip
          refine KC.seq ?_
          refine KC.region ?_
          refine KT.step rfl rfl (K.assign rfl) ?_
          refine KT.nil ?_
          refine thenK_n ?_
          refine KC.ret ?_
          refine thenK_r ?_
          exact ⟨.inl rfl, _, rfl, fin_b (by unfold refB; simp [show ¬ 1 ≤ den by omega])⟩
        · cases hc33
      · skip
        simp at hb30
        refine KT.step rfl rfl (K.move rfl) ?_
        refine KT.step rfl rfl (K.gtr rfl rfl) ?_
        refine KT.step rfl rfl (K.pick rfl (fun h => by cases h) (fun _ => rfl)) ?_
        refine KT.nil ?_
        refine thenK_n ?_
        refine KC.cond rfl (fun hc33 => ?_) (fun hc33 => ?_)
        · skip
          simp at hc33
          refine KC.seq ?_
          refine KC.region ?_
          refine KT.step rfl rfl (K.assign rfl) ?_
          refine KT.nil ?_
          refine thenK_n ?_
          refine KC.ret ?_
          refine thenK_r ?_
          exact ⟨.inl rfl, _, rfl, fin_b (by unfold refB; simp [show ¬ den ≤ 1099511627776 by omega])⟩
        · skip
          simp at hc33
          refine KC.skip ?_
          refine thenK_n ?_
          refine KC.seq ?_
          refine KC.seq ?_
          refine KC.region ?_
          refine KT.step rfl rfl (K.move rfl) ?_
          refine KT.idx (m := 0) rfl rfl rfl (by assumption) rfl (by omega) Try.underlying22 Try.size35 fun c35 cs35 hq35 => ?_
          refine KT.step rfl rfl (K.load rfl Try.agg35) ?_
          rw [h0] at hq35
          refine KT.step rfl rfl (K.len rfl (by assumption) Try.underlying35) ?_
          refine KT.step rfl rfl (K.move rfl) ?_
          refine KT.nil ?_
          refine thenK_n ?_
          refine KC.block ?_
          refine KC.loop (fun _ : Nat => []) (fun i => [(0, .d d), (2, .d f), (1, .d e), (3, .d (DI den)), (37, .d (DI (hd0 m).length)), (38, .d (DI i))]) (fun i => i ≤ (hd0 m).length ∧ (List.range i).all (colB m y den) = true) (fun i => (hd0 m).length - i) 0 ⟨Nat.zero_le _, rfl⟩ rfl (by simp [Go.Vm.look, extK, enterK]) ?_
          intro j hi
          obtain ⟨hi, hall⟩ := hi
          refine KC.seq ?_
          refine KC.region ?_
          refine KT.step rfl rfl (K.lss rfl rfl) ?_
          refine KT.nil ?_
          refine thenK_n ?_
          refine KC.seq ?_
          refine KC.cond rfl (fun hc39 => ?_) (fun hc39 => ?_)
          · skip
            replace hc39 := of_decide_eq_true hc39
            refine KC.skip ?_
            refine thenK_n ?_
            refine KC.seq ?_
            refine KC.block ?_
            refine KC.seq ?_
            refine KC.region ?_
            refine KT.step rfl rfl (K.move rfl) ?_
            refine KT.step rfl rfl (K.assign rfl) ?_
            refine KT.nil ?_
            refine thenK_n ?_
            refine KC.seq ?_
            refine KC.region ?_
            refine KT.step rfl rfl (K.assign rfl) ?_
            refine KT.nil ?_
            refine thenK_n ?_
            refine KC.seq ?_
            refine KC.seq ?_
            refine KC.region ?_
            refine KT.step rfl rfl (K.move rfl) ?_
            refine KT.step rfl rfl (K.len rfl (by assumption) Try.underlying22) ?_
            refine KT.step rfl rfl (K.move rfl) ?_
            refine KT.nil ?_
            refine thenK_n ?_
            refine KC.block ?_
            refine KC.loop (fun _ : Nat => []) (fun i => [(0, .d d), (2, .d f), (1, .d e), (3, .d (DI den)), (37, .d (DI (hd0 m).length)), (38, .d (DI j)), (9, .d (DI j)), (10, .d (DI (dotF (at0 y) (fun k => at0 (m.getD k []) j) i))), (41, .d d), (42, .d (DI m.length)), (43, .d (DI i))]) (fun i => i ≤ m.length) (fun i => m.length - i) 0 (Nat.zero_le _) rfl (by simp [Go.Vm.look, extK, enterK, dotF]) ?_
            intro i hi
            refine KC.seq ?_
            refine KC.region ?_
            refine KT.step rfl rfl (K.lss rfl rfl) ?_
            refine KT.nil ?_
            refine thenK_n ?_
            refine KC.seq ?_
            refine KC.cond rfl (fun hc44 => ?_) (fun hc44 => ?_)
            · skip
              replace hc44 := of_decide_eq_true hc44
              have hij := hrow m[i] (List.getElem_mem (by omega))
              refine KC.skip ?_
              refine thenK_n ?_
              refine KC.seq ?_
              refine KC.block ?_
              refine KC.seq ?_
              refine KC.region ?_
              refine KT.step rfl rfl (K.move rfl) ?_
              refine KT.idx rfl rfl rfl (by assumption) rfl (by omega) Try.underlying22 Try.size35 fun c46 cs46 hq46 => ?_
              refine KT.step rfl rfl (K.load rfl Try.agg35) ?_
              refine KT.step rfl rfl (K.assign rfl) ?_
              refine KT.step rfl rfl (K.assign rfl) ?_
              refine KT.nil ?_
              refine thenK_n ?_
              refine KC.draw Try.mixed ?_
              refine KT.step rfl rfl (K.move rfl) ?_
              refine KT.step rfl rfl (K.move rfl) ?_
              refine KT.step rfl rfl (K.move rfl) ?_
              refine KT.idxI rfl rfl rfl (by assumption) rfl (by omega) Try.underlying35 Try.size3 fun cs51 => ?_
              refine KT.step rfl rfl (K.load rfl Try.agg3) ?_
              refine KT.step rfl rfl (K.move rfl) ?_
              refine KT.step rfl rfl (K.move rfl) ?_
              refine KT.idxI rfl rfl rfl (by assumption) rfl (by omega) Try.underlying35 Try.size3 fun cs55 => ?_
              refine KT.step rfl rfl (K.load rfl Try.agg3) ?_
              refine KT.step rfl rfl (K.mul rfl rfl rfl) ?_
              refine KT.step rfl rfl (K.add rfl rfl rfl) ?_
              refine KT.step rfl rfl (K.assign rfl) ?_
              refine KT.nil ?_
              refine ⟨by kernel_rfl, ?_⟩
              refine blockK_n ?_
              refine thenK_n ?_
              refine KC.region ?_
              refine KT.step rfl rfl (K.add rfl rfl (wrap_id (by omega))) ?_
              refine KT.step rfl rfl (K.move rfl) ?_
              refine KT.nil ?_
              refine thenK_n ?_
              refine ⟨i + 1, by omega, by omega, rfl, ?_⟩
              simp [Go.Vm.look, extK, dotF, at0, w64, show i < y.length by omega, show i < m.length by omega, show j < m[i].length by omega]
            · skip
              replace hc44 := of_decide_eq_false hc44
              have : i = m.length := by omega
              subst this
              refine KC.exit ?_
              refine thenK_x ?_
              refine thenK_x ?_
              refine blockK_e ?_
              refine thenK_n ?_
              refine KC.seq ?_
              refine KC.region ?_
              refine KT.step rfl rfl (K.move rfl) ?_
              refine KT.step rfl rfl (K.move rfl) ?_
              refine KT.step rfl rfl (K.rem rfl rfl (by omega) rfl) ?_
              refine KT.step rfl rfl (K.neq rfl rfl) ?_
              refine KT.nil ?_
              refine thenK_n ?_
              refine KC.cond rfl (fun hc63 => ?_) (fun hc63 => ?_)
              · skip
                replace hc63 := of_decide_eq_true hc63
                refine KC.seq ?_
                refine KC.region ?_
                refine KT.step rfl rfl (K.assign rfl) ?_
                refine KT.nil ?_
                refine thenK_n ?_
                refine KC.ret ?_
                refine blockK_r ?_
                refine thenK_r ?_
                refine thenK_r ?_
                refine blockK_r ?_
                refine thenK_r ?_
                have hx : j < (hd0 m).length := by omega
                exact ⟨.inl rfl, _, rfl, fin_b (by unfold refB; rw [range_all_false hx (show colB m y den j = false from decide_eq_false hc63)]; simp)⟩
              · skip
                replace hc63 := of_decide_eq_false hc63
                refine KC.skip ?_
                refine blockK_n ?_
                refine thenK_n ?_
                refine KC.region ?_
                refine KT.step rfl rfl (K.add rfl rfl (wrap_id (by omega))) ?_
                refine KT.step rfl rfl (K.move rfl) ?_
                refine KT.nil ?_
                refine thenK_n ?_
                refine ⟨j + 1, ⟨by omega, ?_⟩, by omega, rfl, by simp [Go.Vm.look, extK]⟩
                rw [range_all_succ, hall, Bool.true_and]
                exact decide_eq_true (Classical.not_not.1 hc63)
          · skip
            replace hc39 := of_decide_eq_false hc39
            refine KC.exit ?_
            refine thenK_x ?_
            refine thenK_x ?_
            refine blockK_e ?_
            refine thenK_n ?_
            refine KC.seq ?_
            refine KC.region ?_
            refine KT.step rfl rfl (K.assign rfl) ?_
            refine KT.nil ?_
            refine thenK_n ?_
            refine KC.seq ?_
            refine KC.seq ?_
            refine KC.region ?_
            refine KT.step rfl rfl (K.move rfl) ?_
            refine KT.step rfl rfl (K.len rfl (by assumption) Try.underlying35) ?_
            refine KT.step rfl rfl (K.move rfl) ?_
            refine KT.nil ?_
            refine thenK_n ?_
            refine KC.block ?_
            refine KC.loop (fun _ : Nat => []) (fun i => [(2, .d f), (3, .d (DI den)), (13, .d (DI (dotF (at0 y) (at0 b) i))), (65, .d e), (66, .d (DI b.length)), (67, .d (DI i))]) (fun i => i ≤ b.length) (fun i => b.length - i) 0 (Nat.zero_le _) rfl (by simp [Go.Vm.look, extK, enterK, dotF]) ?_
            intro i hi
            refine KC.seq ?_
            refine KC.region ?_
            refine KT.step rfl rfl (K.lss rfl rfl) ?_
            refine KT.nil ?_
            refine thenK_n ?_
            refine KC.seq ?_
            refine KC.cond rfl (fun hc68 => ?_) (fun hc68 => ?_)
            · skip
              replace hc68 := of_decide_eq_true hc68
              refine KC.skip ?_
              refine thenK_n ?_
              refine KC.seq ?_
              refine KC.block ?_
              refine KC.seq ?_
              refine KC.region ?_
              refine KT.step rfl rfl (K.move rfl) ?_
              refine KT.idxI rfl rfl rfl (by assumption) rfl (by omega) Try.underlying35 Try.size3 fun cs70 => ?_
              refine KT.step rfl rfl (K.load rfl Try.agg3) ?_
              refine KT.step rfl rfl (K.assign rfl) ?_
              refine KT.step rfl rfl (K.assign rfl) ?_
              refine KT.nil ?_
              refine thenK_n ?_
              refine KC.region ?_
              refine KT.step rfl rfl (K.move rfl) ?_
              refine KT.step rfl rfl (K.move rfl) ?_
              refine KT.step rfl rfl (K.move rfl) ?_
              refine KT.idxI rfl rfl rfl (by assumption) rfl (by omega) Try.underlying35 Try.size3 fun cs75 => ?_
              refine KT.step rfl rfl (K.load rfl Try.agg3) ?_
              refine KT.step rfl rfl (K.move rfl) ?_
              refine KT.step rfl rfl (K.mul rfl rfl rfl) ?_
              refine KT.step rfl rfl (K.add rfl rfl rfl) ?_
              refine KT.step rfl rfl (K.assign rfl) ?_
              refine KT.nil ?_
              refine blockK_n ?_
              refine thenK_n ?_
              refine KC.region ?_
              refine KT.step rfl rfl (K.add rfl rfl (wrap_id (by omega))) ?_
              refine KT.step rfl rfl (K.move rfl) ?_
              refine KT.nil ?_
              refine thenK_n ?_
              refine ⟨i + 1, by omega, by omega, rfl, ?_⟩
              simp [Go.Vm.look, extK, dotF, at0, w64, show i < y.length by omega, show i < b.length by omega]
            · skip
              replace hc68 := of_decide_eq_false hc68
              have : i = b.length := by omega
              subst this
              refine KC.exit ?_
              refine thenK_x ?_
              refine thenK_x ?_
              refine blockK_e ?_
              refine thenK_n ?_
              refine KC.seq ?_
              refine KC.region ?_
              refine KT.step rfl rfl (K.move rfl) ?_
              refine KT.step rfl rfl (K.move rfl) ?_
              refine KT.step rfl rfl (K.rem rfl rfl (by omega) rfl) ?_
              refine KT.step rfl rfl (K.neq rfl rfl) ?_
              refine KT.step rfl rfl (K.assign rfl) ?_
              refine KT.nil ?_
              refine thenK_n ?_
              refine KC.ret ?_
              have : j = (hd0 m).length := by omega
              subst this
              exact ⟨.inl rfl, _, rfl, fin_b (by unfold refB; rw [hall, h20, h15, hbl]; simp [show 1 ≤ den by omega, show den ≤ 1099511627776 by omega])⟩

end Go.Proofs.Ytlomhajhoecoiaa