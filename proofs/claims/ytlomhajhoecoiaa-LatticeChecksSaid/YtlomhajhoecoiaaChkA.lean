/-
  CONTRACTS for LatticeChecks, integers alone: the first element that is not zero.
-/
import Derived.Test.YtlomhajhoecoiaaLongA
namespace Go.Proofs.Ytlomhajhoecoiaa
open Go.Vm
theorem plainTry_70 : plainFn Try.prog 70 = true := by kernel_rfl
theorem plainTry_57 : plainFn Try.prog 57 = true := by kernel_rfl
/-- The index of the first element that is not zero, or the length. -/
def leadN : List Int → Nat
  | [] => 0
  | x :: l => if x = 0 then leadN l + 1 else 0
theorem lead_at : ∀ {l : List Int} {i : Nat}, i ≤ l.length → (l.take i).all (fun x => decide (x = 0)) = true → (∀ h : i < l.length, l[i] ≠ 0) → leadN l = i
  | [], i, hi, _, _ => by simp at hi; subst hi; rfl
  | x :: l, 0, _, _, hn => by
    have := hn (by simp)
    simp only [List.getElem_cons_zero] at this
    simp [leadN, this]
  | x :: l, i + 1, hi, hz, hn => by
    simp only [List.take_succ_cons, List.all_cons, Bool.and_eq_true, decide_eq_true_eq] at hz
    simp only [leadN, hz.1, if_true]
    rw [lead_at (i := i) (by simpa using hi) hz.2 (fun h => by have := hn (by simpa using h); simpa using this)]
theorem lead_le : ∀ l : List Int, leadN l ≤ l.length
  | [] => Nat.le_refl _
  | x :: l => by have := lead_le l; simp only [leadN, List.length_cons]; split <;> omega
set_option maxRecDepth 10000 in
theorem lead70 {d : DV} {l : List Int} (hd : Ints d l) (hl : l.length ≤ 9223372036854775807) : DeepCall Try.prog 70 [d] (DI (leadN l)) := by
  refine deepCall_K 5 Try.func70 rfl (Nat.le_of_ble_eq_true rfl) fun M W0 => ?_
  refine KC.seq ?_
  refine KC.region ?_
  refine KT.step rfl rfl (K.assign rfl) ?_
  refine KT.nil ?_
  refine thenK_n ?_
  refine KC.seq ?_
  refine KC.seq ?_
  refine KC.region ?_
  refine KT.step rfl rfl (K.move rfl) ?_
  refine KT.step rfl rfl (K.len rfl (by assumption) Try.underlying35) ?_
  refine KT.step rfl rfl (K.move rfl) ?_
  refine KT.nil ?_
  refine thenK_n ?_
  refine KC.block ?_
  refine KC.loop (fun _ : Nat => []) (fun i => [(0, .d d), (5, .d d), (6, .d (DI l.length)), (7, .d (DI i))]) (fun i => i ≤ l.length ∧ (l.take i).all (fun x => decide (x = 0)) = true) (fun i => l.length - i) 0 ⟨Nat.zero_le _, rfl⟩ rfl (by simp [Go.Vm.look, extK, enterK]) ?_
  intro i hi
  obtain ⟨hi, hall⟩ := hi
  refine KC.seq ?_
  refine KC.region ?_
  refine KT.step rfl rfl (K.lss rfl rfl) ?_
  refine KT.nil ?_
  refine thenK_n ?_
  refine KC.seq ?_
  refine KC.cond rfl (fun hc8 => ?_) (fun hc8 => ?_)
  · skip
    replace hc8 := of_decide_eq_true hc8
    refine KC.skip ?_
    refine thenK_n ?_
    refine KC.seq ?_
    refine KC.block ?_
    refine KC.seq ?_
    refine KC.region ?_
    refine KT.step rfl rfl (K.move rfl) ?_
    refine KT.idxI rfl rfl rfl (by assumption) rfl (by omega) Try.underlying35 Try.size3 fun cs10 => ?_
    refine KT.step rfl rfl (K.load rfl Try.agg3) ?_
    refine KT.step rfl rfl (K.assign rfl) ?_
    refine KT.step rfl rfl (K.assign rfl) ?_
    refine KT.nil ?_
    refine thenK_n ?_
    refine KC.seq ?_
    refine KC.region ?_
    refine KT.step rfl rfl (K.move rfl) ?_
    refine KT.step rfl rfl (K.neq rfl rfl) ?_
    refine KT.nil ?_
    refine thenK_n ?_
    refine KC.cond rfl (fun hc13 => ?_) (fun hc13 => ?_)
    · skip
      replace hc13 := of_decide_eq_true hc13
      refine KC.seq ?_
      refine KC.region ?_
      refine KT.step rfl rfl (K.move rfl) ?_
      refine KT.step rfl rfl (K.assign rfl) ?_
      refine KT.nil ?_
      refine thenK_n ?_
      refine KC.ret ?_
      refine blockK_r ?_
      refine thenK_r ?_
      refine thenK_r ?_
      refine blockK_r ?_
      refine thenK_r ?_
      exact ⟨.inl rfl, _, rfl, fin_d (by rw [lead_at (i := i) (by omega) hall (fun _ => hc13)])⟩
    · skip
      replace hc13 := Classical.not_not.1 (of_decide_eq_false hc13)
      refine KC.skip ?_
      refine blockK_n ?_
      refine thenK_n ?_
      refine KC.region ?_
      refine KT.step rfl rfl (K.add rfl rfl (wrap_id (by omega))) ?_
      refine KT.step rfl rfl (K.move rfl) ?_
      refine KT.nil ?_
      refine thenK_n ?_
      refine ⟨i + 1, ⟨by omega, ?_⟩, by omega, rfl, by simp [Go.Vm.look, extK]⟩
      rw [all_take _ (by omega), hall]
      simpa using hc13
  · skip
    replace hc8 := of_decide_eq_false hc8
    refine KC.exit ?_
    refine thenK_x ?_
    refine thenK_x ?_
    refine blockK_e ?_
    refine thenK_n ?_
    refine KC.seq ?_
    refine KC.region ?_
    refine KT.step rfl rfl (K.move rfl) ?_
    refine KT.step rfl rfl (K.len rfl (by assumption) Try.underlying35) ?_
    refine KT.step rfl rfl (K.assign rfl) ?_
    refine KT.nil ?_
    refine thenK_n ?_
    refine KC.ret ?_
    have : i = l.length := by omega
    subst this
    exact ⟨.inl rfl, _, rfl, fin_d (by rw [lead_at (Nat.le_refl _) hall (fun h => absurd h (by omega))])⟩
set_option maxRecDepth 10000 in
theorem lead57 {d : DV} {l : List Int} (hd : Ints d l) (hl : l.length ≤ 9223372036854775807) : DeepCall Try.prog 57 [d] (DI (leadN l)) := by
  refine deepCall_K 5 Try.func57 rfl (Nat.le_of_ble_eq_true rfl) fun M W0 => ?_
  refine KC.seq ?_
  refine KC.region ?_
  refine KT.step rfl rfl (K.assign rfl) ?_
  refine KT.nil ?_
  refine thenK_n ?_
  refine KC.seq ?_
  refine KC.region ?_
  refine KT.step rfl rfl (K.assign rfl) ?_
  refine KT.nil ?_
  refine thenK_n ?_
  refine KC.seq ?_
  refine KC.block ?_
  refine KC.loop (fun _ : Nat => []) (fun i => [(0, .d d), (3, .d (DI i))]) (fun i => i ≤ l.length ∧ (l.take i).all (fun x => decide (x = 0)) = true) (fun i => l.length - i) 0 ⟨Nat.zero_le _, rfl⟩ rfl (by simp [Go.Vm.look, extK, enterK]) ?_
  intro i hi
  obtain ⟨hi, hall⟩ := hi
  refine KC.seq ?_
  refine KC.seq ?_
  refine KC.region ?_
  refine KT.step rfl rfl (K.move rfl) ?_
  refine KT.step rfl rfl (K.move rfl) ?_
  refine KT.step rfl rfl (K.len rfl (by assumption) Try.underlying35) ?_
  refine KT.step rfl rfl (K.lss rfl rfl) ?_
  refine KT.step rfl rfl (K.move rfl) ?_
  refine KT.bcase (fun hb8 => ?_) (fun hb8 => ?_)
  · skip
    replace hb8 := of_decide_eq_true hb8
    refine KT.step rfl rfl (K.move rfl) ?_
    refine KT.step rfl rfl (K.move rfl) ?_
    refine KT.idxI rfl rfl rfl (by assumption) rfl (by omega) Try.underlying35 Try.size3 fun cs11 => ?_
    refine KT.step rfl rfl (K.load rfl Try.agg3) ?_
    refine KT.step rfl rfl (K.eql rfl rfl) ?_
    refine KT.step rfl rfl (K.pick rfl (fun _ => rfl) (fun h => by cases h)) ?_
    refine KT.nil ?_
    refine thenK_n ?_
    refine KC.cond rfl (fun hc14 => ?_) (fun hc14 => ?_)
    · skip
      replace hc14 := of_decide_eq_true hc14
      refine KC.skip ?_
      refine thenK_n ?_
      refine KC.block ?_
      refine KC.region ?_
      refine KT.step rfl rfl (K.move rfl) ?_
      refine KT.step rfl rfl (K.add rfl rfl (wrap_id (by omega))) ?_
      refine KT.step rfl rfl (K.assign rfl) ?_
      refine KT.nil ?_
      refine blockK_n ?_
      refine thenK_n ?_
      refine ⟨i + 1, ⟨by omega, ?_⟩, by omega, rfl, by simp [Go.Vm.look, extK]⟩
      rw [all_take _ (by omega), hall]
      simpa using hc14
    · skip
      replace hc14 := of_decide_eq_false hc14
      refine KC.exit ?_
      refine thenK_x ?_
      refine thenK_x ?_
      refine blockK_e ?_
      refine thenK_n ?_
      refine KC.seq ?_
      refine KC.region ?_
      refine KT.step rfl rfl (K.move rfl) ?_
      refine KT.step rfl rfl (K.assign rfl) ?_
      refine KT.nil ?_
      refine thenK_n ?_
      refine KC.ret ?_
      exact ⟨.inl rfl, _, rfl, fin_d (by rw [lead_at (i := i) (by omega) hall (fun _ => hc14)])⟩
  · skip
    replace hb8 := of_decide_eq_false hb8
    refine KT.skip rfl rfl ?_
    refine KT.skip rfl rfl ?_
    refine KT.skip rfl rfl ?_
    refine KT.skip rfl rfl ?_
    refine KT.skip rfl rfl ?_
    refine KT.step rfl rfl (K.pick rfl (fun h => by cases h) (fun _ => rfl)) ?_
    refine KT.nil ?_
    refine thenK_n ?_
    refine KC.cond rfl (fun hc14 => ?_) (fun hc14 => ?_)
    · cases hc14
    · skip
      refine KC.exit ?_
      refine thenK_x ?_
      refine thenK_x ?_
      refine blockK_e ?_
      refine thenK_n ?_
      refine KC.seq ?_
      refine KC.region ?_
      refine KT.step rfl rfl (K.move rfl) ?_
      refine KT.step rfl rfl (K.assign rfl) ?_
      refine KT.nil ?_
      refine thenK_n ?_
      refine KC.ret ?_
      have : i = l.length := by omega
      subst this
      exact ⟨.inl rfl, _, rfl, fin_d (by rw [lead_at (Nat.le_refl _) hall (fun h => absurd h (by omega))])⟩
theorem plainTry_98 : plainFn Try.prog 98 = true := by kernel_rfl
theorem plainTry_61 : plainFn Try.prog 61 = true := by kernel_rfl
theorem range_all_succ (p : Nat → Bool) (i : Nat) : (List.range (i + 1)).all p = ((List.range i).all p && p i) := by simp [List.range_succ]
theorem range_all_false {p : Nat → Bool} {n i : Nat} (hi : i < n) (h : p i = false) : (List.range n).all p = false := by
  cases hb : (List.range n).all p with
  | false => rfl
  | true =>
    have := List.all_eq_true.1 hb i (by simpa using hi)
    rw [h] at this; cases this
def okS (d : List Int) (i : Nat) : Bool := decide (0 ≤ d.getD i 0) && (decide (i = 0) || decide (d.getD i 0 = 0) || (decide (d.getD (i - 1) 0 ≠ 0) && decide ((d.getD i 0).tmod (d.getD (i - 1) 0) = 0)))
def smithB (d : List Int) : Bool := (List.range d.length).all (okS d)
theorem okS_false {d : List Int} {i : Nat} (hi : i < d.length) (h : d[i] < 0 ∨ (i ≠ 0 ∧ d[i] ≠ 0 ∧ (d.getD (i - 1) 0 = 0 ∨ d[i].tmod (d.getD (i - 1) 0) ≠ 0))) : okS d i = false := by
  have e : d.getD i 0 = d[i] := by simp [hi]
  unfold okS
  rw [e]
  rcases h with h | ⟨h1, h2, h3⟩
  · simp; intro h4; omega
  · simp [h1, h2]; intro _ h4; rcases h3 with h3 | h3
    · simp at h3; exact absurd h3 h4
    · simpa using h3
theorem okS_true {d : List Int} {i : Nat} (hi : i < d.length) (h0 : ¬ d[i] < 0) (h : i = 0 ∨ d[i] = 0 ∨ (d.getD (i - 1) 0 ≠ 0 ∧ d[i].tmod (d.getD (i - 1) 0) = 0)) : okS d i = true := by
  have e : d.getD i 0 = d[i] := by simp [hi]
  unfold okS
  rw [e]
  rcases h with h | h | ⟨h1, h2⟩
  · simp [h]; subst h; omega
  · simp [h]
  · simp only [decide_eq_true h1, decide_eq_true h2]; simp; omega
set_option maxRecDepth 10000 in
theorem isSmith98 {d : DV} {l : List Int} (hd : Ints d l) (hl : l.length ≤ 9223372036854775807) : DeepCall Try.prog 98 [d] (DB (smithB l)) := by
  refine deepCall_K 5 Try.func98 rfl (Nat.le_of_ble_eq_true rfl) fun M W0 => ?_
  refine KC.seq ?_
  refine KC.region ?_
  refine KT.step rfl rfl (K.assign rfl) ?_
  refine KT.nil ?_
  refine thenK_n ?_
  refine KC.seq ?_
  refine KC.seq ?_
  refine KC.region ?_
  refine KT.step rfl rfl (K.move rfl) ?_
  refine KT.step rfl rfl (K.len rfl (by assumption) Try.underlying35) ?_
  refine KT.step rfl rfl (K.move rfl) ?_
  refine KT.nil ?_
  refine thenK_n ?_
  refine KC.block ?_
  refine KC.loop (fun _ : Nat => []) (fun i => [(0, .d d), (5, .d d), (6, .d (DI l.length)), (7, .d (DI i))]) (fun i => i ≤ l.length ∧ (List.range i).all (okS l) = true) (fun i => l.length - i) 0 ⟨Nat.zero_le _, rfl⟩ rfl (by simp [Go.Vm.look, extK, enterK]) ?_
  intro i hi
  obtain ⟨hi, hall⟩ := hi
  refine KC.seq ?_
  refine KC.region ?_
  refine KT.step rfl rfl (K.lss rfl rfl) ?_
  refine KT.nil ?_
  refine thenK_n ?_
  refine KC.seq ?_
  refine KC.cond rfl (fun hc8 => ?_) (fun hc8 => ?_)
  · skip
    replace hc8 := of_decide_eq_true hc8
    refine KC.skip ?_
    refine thenK_n ?_
    refine KC.seq ?_
    refine KC.block ?_
    refine KC.seq ?_
    refine KC.region ?_
    refine KT.step rfl rfl (K.move rfl) ?_
    refine KT.idxI rfl rfl rfl (by assumption) rfl (by omega) Try.underlying35 Try.size3 fun cs10 => ?_
    refine KT.step rfl rfl (K.load rfl Try.agg3) ?_
    refine KT.step rfl rfl (K.assign rfl) ?_
    refine KT.step rfl rfl (K.assign rfl) ?_
    refine KT.nil ?_
    refine thenK_n ?_
    refine KC.seq ?_
    refine KC.seq ?_
    refine KC.region ?_
    refine KT.step rfl rfl (K.move rfl) ?_
    refine KT.step rfl rfl (K.lss rfl rfl) ?_
    refine KT.nil ?_
    refine thenK_n ?_
    refine KC.cond rfl (fun hc13 => ?_) (fun hc13 => ?_)
    · skip
      replace hc13 := of_decide_eq_true hc13
      refine KC.seq ?_
      refine KC.region ?_
      refine KT.step rfl rfl (K.assign rfl) ?_
      refine KT.nil ?_
      refine thenK_n ?_
      refine KC.ret ?_
      refine thenK_r ?_
      refine blockK_r ?_
      refine thenK_r ?_
      refine thenK_r ?_
      refine blockK_r ?_
      refine thenK_r ?_
      exact ⟨.inl rfl, _, rfl, fin_b (range_all_false (i := i) (by omega) (okS_false (by omega) (.inl hc13)))⟩
    · skip
      replace hc13 := of_decide_eq_false hc13
      refine KC.skip ?_
      refine thenK_n ?_
      refine KC.seq ?_
      refine KC.seq ?_
      refine KC.region ?_
      refine KT.step rfl rfl (K.move rfl) ?_
      refine KT.step rfl rfl (K.eql rfl rfl) ?_
      refine KT.step rfl rfl (K.move rfl) ?_
      refine KT.bcase (fun hb16 => ?_) (fun hb16 => ?_)
      · skip
        replace hb16 := of_decide_eq_true hb16
        refine KT.skip rfl rfl ?_
        refine KT.skip rfl rfl ?_
        refine KT.step rfl rfl (K.pick rfl (fun _ => rfl) (fun h => by cases h)) ?_
        refine KT.nil ?_
        refine thenK_n ?_
        refine KC.cond rfl (fun hc19 => ?_) (fun hc19 => ?_)
        · skip
          refine KC.exit ?_
          refine thenK_x ?_
          refine blockK_e ?_
          refine thenK_n ?_
          refine KC.region ?_
          refine KT.step rfl rfl (K.add rfl rfl (wrap_id (by omega))) ?_
          refine KT.step rfl rfl (K.move rfl) ?_
          refine KT.nil ?_
          refine thenK_n ?_
          refine ⟨i + 1, ⟨by omega, ?_⟩, by omega, rfl, by simp [Go.Vm.look, extK]⟩
          rw [range_all_succ, hall, Bool.true_and]
          exact okS_true (by omega) hc13 (.inl (by omega))
        · cases hc19
      · skip
        replace hb16 := of_decide_eq_false hb16
        have hpe : l.getD (i - 1) 0 = l[i - 1] := by simp [show i - 1 < l.length by omega]
        refine KT.step rfl rfl (K.move rfl) ?_
        refine KT.step rfl rfl (K.eql rfl rfl) ?_
        refine KT.step rfl rfl (K.pick rfl (fun h => by cases h) (fun _ => rfl)) ?_
        refine KT.nil ?_
        refine thenK_n ?_
        refine KC.cond rfl (fun hc19 => ?_) (fun hc19 => ?_)
        · skip
          replace hc19 := of_decide_eq_true hc19
          refine KC.exit ?_
          refine thenK_x ?_
          refine blockK_e ?_
          refine thenK_n ?_
          refine KC.region ?_
          refine KT.step rfl rfl (K.add rfl rfl (wrap_id (by omega))) ?_
          refine KT.step rfl rfl (K.move rfl) ?_
          refine KT.nil ?_
          refine thenK_n ?_
          refine ⟨i + 1, ⟨by omega, ?_⟩, by omega, rfl, by simp [Go.Vm.look, extK]⟩
          rw [range_all_succ, hall, Bool.true_and]
          exact okS_true (by omega) hc13 (.inr (.inl hc19))
        · skip
          replace hc19 := of_decide_eq_false hc19
          refine KC.skip ?_
          refine thenK_n ?_
          refine KC.seq ?_
          refine KC.region ?_
          refine KT.step rfl rfl (K.move rfl) ?_
          refine KT.step rfl rfl (K.move rfl) ?_
          refine KT.step rfl rfl (K.sub rfl rfl (show IntKind.i64.wrap ((i : Int) - 1) = ((i - 1 : Nat) : Int) from by rw [wrap_id (by omega)]; omega)) ?_
          refine KT.idxI rfl rfl rfl (by assumption) rfl (by omega) Try.underlying35 Try.size3 fun cs23 => ?_
          refine KT.step rfl rfl (K.load rfl Try.agg3) ?_
          refine KT.step rfl rfl (K.eql rfl rfl) ?_
          refine KT.step rfl rfl (K.move rfl) ?_
          refine KT.bcase (fun hb26 => ?_) (fun hb26 => ?_)
          · skip
            replace hb26 := of_decide_eq_true hb26
            refine KT.skip rfl rfl ?_
            refine KT.skip rfl rfl ?_
            refine KT.skip rfl rfl ?_
            refine KT.skip rfl rfl ?_
            refine KT.skip rfl rfl ?_
            refine KT.skip rfl rfl ?_
            refine KT.skip rfl rfl ?_
            refine KT.skip rfl rfl ?_
            refine KT.step rfl rfl (K.pick rfl (fun _ => rfl) (fun h => by cases h)) ?_
            refine KT.nil ?_
            refine thenK_n ?_
            refine KC.cond rfl (fun hc35 => ?_) (fun hc35 => ?_)
            · skip
              refine KC.seq ?_
              refine KC.region ?_
              refine KT.step rfl rfl (K.assign rfl) ?_
              refine KT.nil ?_
              refine thenK_n ?_
              refine KC.ret ?_
              refine blockK_r ?_
              refine thenK_r ?_
              refine thenK_r ?_
              refine blockK_r ?_
              refine thenK_r ?_
              exact ⟨.inl rfl, _, rfl, fin_b (range_all_false (i := i) (by omega) (okS_false (by omega) (.inr ⟨by omega, hc19, .inl (by rw [hpe]; exact hb26)⟩)))⟩
            · cases hc35
          · skip
            replace hb26 := of_decide_eq_false hb26
            refine KT.step rfl rfl (K.move rfl) ?_
            refine KT.step rfl rfl (K.move rfl) ?_
            refine KT.step rfl rfl (K.move rfl) ?_
            refine KT.step rfl rfl (K.sub rfl rfl (show IntKind.i64.wrap ((i : Int) - 1) = ((i - 1 : Nat) : Int) from by rw [wrap_id (by omega)]; omega)) ?_
            refine KT.idxI rfl rfl rfl (by assumption) rfl (by omega) Try.underlying35 Try.size3 fun cs31 => ?_
            refine KT.step rfl rfl (K.load rfl Try.agg3) ?_
            refine KT.step rfl rfl (K.rem rfl rfl hb26 rfl) ?_
            refine KT.step rfl rfl (K.neq rfl rfl) ?_
            refine KT.step rfl rfl (K.pick rfl (fun h => by cases h) (fun _ => rfl)) ?_
            refine KT.nil ?_
            refine thenK_n ?_
            refine KC.cond rfl (fun hc35 => ?_) (fun hc35 => ?_)
            · skip
              replace hc35 := of_decide_eq_true hc35
              refine KC.seq ?_
              refine KC.region ?_
              refine KT.step rfl rfl (K.assign rfl) ?_
              refine KT.nil ?_
              refine thenK_n ?_
              refine KC.ret ?_
              refine blockK_r ?_
              refine thenK_r ?_
              refine thenK_r ?_
              refine blockK_r ?_
              refine thenK_r ?_
              exact ⟨.inl rfl, _, rfl, fin_b (range_all_false (i := i) (by omega) (okS_false (by omega) (.inr ⟨by omega, hc19, .inr (by rw [hpe]; exact hc35)⟩)))⟩
            · skip
              replace hc35 := of_decide_eq_false hc35
              refine KC.skip ?_
              refine blockK_n ?_
              refine thenK_n ?_
              refine KC.region ?_
              refine KT.step rfl rfl (K.add rfl rfl (wrap_id (by omega))) ?_
              refine KT.step rfl rfl (K.move rfl) ?_
              refine KT.nil ?_
              refine thenK_n ?_
              refine ⟨i + 1, ⟨by omega, ?_⟩, by omega, rfl, by simp [Go.Vm.look, extK]⟩
              rw [range_all_succ, hall, Bool.true_and]
              exact okS_true (by omega) hc13 (.inr (.inr ⟨by rw [hpe]; exact hb26, by rw [hpe]; exact Classical.not_not.1 hc35⟩))
  · skip
    replace hc8 := of_decide_eq_false hc8
    refine KC.exit ?_
    refine thenK_x ?_
    refine thenK_x ?_
    refine blockK_e ?_
    refine thenK_n ?_
    refine KC.seq ?_
    refine KC.region ?_
    refine KT.step rfl rfl (K.assign rfl) ?_
    refine KT.nil ?_
    refine thenK_n ?_
    refine KC.ret ?_
    have : i = l.length := by omega
    subst this
    exact ⟨.inl rfl, _, rfl, fin_b hall⟩
set_option maxRecDepth 10000 in
theorem list61 {d : DV} {l : List Int} {n : Int} (hd : Ints d l) (hl : l.length ≤ 9223372036854775807) : DeepCall Try.prog 61 [d, DI n] (DB (smithB l && decide ((l.length : Int) = n))) := by
  refine deepCall_K 5 Try.func61 rfl (Nat.le_of_ble_eq_true rfl) fun M W0 => ?_
  refine KC.seq ?_
  refine KC.region ?_
  refine KT.step rfl rfl (K.assign rfl) ?_
  refine KT.nil ?_
  refine thenK_n ?_
  refine KC.seq ?_
  refine KC.seq ?_
  refine KC.region ?_
  refine KT.step rfl rfl (K.move rfl) ?_
  refine KT.step rfl rfl (K.len rfl (by assumption) Try.underlying35) ?_
  refine KT.step rfl rfl (K.move rfl) ?_
  refine KT.nil ?_
  refine thenK_n ?_
  refine KC.block ?_
  refine KC.loop (fun _ : Nat => []) (fun i => [(0, .d d), (1, .d (DI n)), (7, .d d), (8, .d (DI l.length)), (9, .d (DI i))]) (fun i => i ≤ l.length ∧ (List.range i).all (okS l) = true) (fun i => l.length - i) 0 ⟨Nat.zero_le _, rfl⟩ rfl (by simp [Go.Vm.look, extK, enterK]) ?_
  intro i hi
  obtain ⟨hi, hall⟩ := hi
  refine KC.seq ?_
  refine KC.region ?_
  refine KT.step rfl rfl (K.lss rfl rfl) ?_
  refine KT.nil ?_
  refine thenK_n ?_
  refine KC.seq ?_
  refine KC.cond rfl (fun hc10 => ?_) (fun hc10 => ?_)
  · skip
    replace hc10 := of_decide_eq_true hc10
    refine KC.skip ?_
    refine thenK_n ?_
    refine KC.seq ?_
    refine KC.block ?_
    refine KC.seq ?_
    refine KC.region ?_
    refine KT.step rfl rfl (K.move rfl) ?_
    refine KT.idxI rfl rfl rfl (by assumption) rfl (by omega) Try.underlying35 Try.size3 fun cs12 => ?_
    refine KT.step rfl rfl (K.load rfl Try.agg3) ?_
    refine KT.step rfl rfl (K.assign rfl) ?_
    refine KT.step rfl rfl (K.assign rfl) ?_
    refine KT.nil ?_
    refine thenK_n ?_
    refine KC.seq ?_
    refine KC.region ?_
    refine KT.step rfl rfl (K.move rfl) ?_
    refine KT.step rfl rfl (K.lss rfl rfl) ?_
    refine KT.step rfl rfl (K.move rfl) ?_
    refine KT.bcase (fun hb16 => ?_) (fun hb16 => ?_)
    · skip
      replace hb16 := of_decide_eq_true hb16
      refine KT.skip rfl rfl ?_
      refine KT.skip rfl rfl ?_
      refine KT.skip rfl rfl ?_
      refine KT.skip rfl rfl ?_
      refine KT.skip rfl rfl ?_
      refine KT.skip rfl rfl ?_
      refine KT.skip rfl rfl ?_
      refine KT.skip rfl rfl ?_
      refine KT.skip rfl rfl ?_
      refine KT.skip rfl rfl ?_
      refine KT.skip rfl rfl ?_
      refine KT.skip rfl rfl ?_
      refine KT.skip rfl rfl ?_
      refine KT.skip rfl rfl ?_
      refine KT.skip rfl rfl ?_
      refine KT.skip rfl rfl ?_
      refine KT.skip rfl rfl ?_
      refine KT.skip rfl rfl ?_
      refine KT.skip rfl rfl ?_
      refine KT.skip rfl rfl ?_
      refine KT.skip rfl rfl ?_
      refine KT.skip rfl rfl ?_
      refine KT.skip rfl rfl ?_
      refine KT.skip rfl rfl ?_
      refine KT.skip rfl rfl ?_
      refine KT.skip rfl rfl ?_
      refine KT.skip rfl rfl ?_
      refine KT.skip rfl rfl ?_
      refine KT.skip rfl rfl ?_
      refine KT.skip rfl rfl ?_
      refine KT.skip rfl rfl ?_
      refine KT.skip rfl rfl ?_
      refine KT.step rfl rfl (K.pick rfl (fun _ => rfl) (fun h => by cases h)) ?_
      refine KT.nil ?_
      refine thenK_n ?_
      refine KC.cond rfl (fun hc49 => ?_) (fun hc49 => ?_)
      · skip
        refine KC.seq ?_
        refine KC.region ?_
        refine KT.step rfl rfl (K.assign rfl) ?_
        refine KT.nil ?_
        refine thenK_n ?_
        refine KC.ret ?_
        refine blockK_r ?_
        refine thenK_r ?_
        refine thenK_r ?_
        refine blockK_r ?_
        refine thenK_r ?_
        exact ⟨.inl rfl, _, rfl, fin_b (by rw [show smithB l = false from range_all_false (i := i) (by omega) (okS_false (by omega) (.inl hb16))]; rfl)⟩
      · cases hc49
    · skip
      replace hb16 := of_decide_eq_false hb16
      refine KT.step rfl rfl (K.move rfl) ?_
      refine KT.step rfl rfl (K.gtr rfl rfl) ?_
      refine KT.step rfl rfl (K.move rfl) ?_
      refine KT.bcase (fun hb19 => ?_) (fun hb19 => ?_)
      · skip
        replace hb19 := of_decide_eq_true hb19
        have hpe : l.getD (i - 1) 0 = l[i - 1] := by simp [show i - 1 < l.length by omega]
        refine KT.step rfl rfl (K.move rfl) ?_
        refine KT.step rfl rfl (K.move rfl) ?_
        refine KT.step rfl rfl (K.sub rfl rfl (show IntKind.i64.wrap ((i : Int) - 1) = ((i - 1 : Nat) : Int) from by rw [wrap_id (by omega)]; omega)) ?_
        refine KT.idxI rfl rfl rfl (by assumption) rfl (by omega) Try.underlying35 Try.size3 fun cs23 => ?_
        refine KT.step rfl rfl (K.load rfl Try.agg3) ?_
        refine KT.step rfl rfl (K.eql rfl rfl) ?_
        refine KT.step rfl rfl (K.move rfl) ?_
        refine KT.bcase (fun hb26 => ?_) (fun hb26 => ?_)
        · skip
          replace hb26 := of_decide_eq_true hb26
          refine KT.step rfl rfl (K.move rfl) ?_
          refine KT.step rfl rfl (K.neq rfl rfl) ?_
          refine KT.step rfl rfl (K.pick rfl (fun _ => rfl) (fun h => by cases h)) ?_
          refine KT.step rfl rfl (K.move rfl) ?_
          refine KT.bcase (fun hb30 => ?_) (fun hb30 => ?_)
          · skip
            replace hb30 := of_decide_eq_true hb30
            refine KT.skip rfl rfl ?_
            refine KT.skip rfl rfl ?_
            refine KT.skip rfl rfl ?_
            refine KT.skip rfl rfl ?_
            refine KT.skip rfl rfl ?_
            refine KT.skip rfl rfl ?_
            refine KT.skip rfl rfl ?_
            refine KT.skip rfl rfl ?_
            refine KT.skip rfl rfl ?_
            refine KT.skip rfl rfl ?_
            refine KT.skip rfl rfl ?_
            refine KT.skip rfl rfl ?_
            refine KT.skip rfl rfl ?_
            refine KT.skip rfl rfl ?_
            refine KT.skip rfl rfl ?_
            refine KT.skip rfl rfl ?_
            refine KT.step rfl rfl (K.pick rfl (fun _ => rfl) (fun h => by cases h)) ?_
            refine KT.step rfl rfl (K.pick rfl (fun _ => rfl) (fun h => by cases h)) ?_
            refine KT.step rfl rfl (K.pick rfl (fun h => by cases h) (fun _ => rfl)) ?_
            refine KT.nil ?_
            refine thenK_n ?_
            refine KC.cond rfl (fun hc49 => ?_) (fun hc49 => ?_)
            · skip
              refine KC.seq ?_
              refine KC.region ?_
              refine KT.step rfl rfl (K.assign rfl) ?_
              refine KT.nil ?_
              refine thenK_n ?_
              refine KC.ret ?_
              refine blockK_r ?_
              refine thenK_r ?_
              refine thenK_r ?_
              refine blockK_r ?_
              refine thenK_r ?_
              exact ⟨.inl rfl, _, rfl, fin_b (by rw [show smithB l = false from range_all_false (i := i) (by omega) (okS_false (by omega) (.inr ⟨by omega, hb30, .inl (by rw [hpe]; exact hb26)⟩))]; rfl)⟩
            · cases hc49
          · skip
            replace hb30 := of_decide_eq_false hb30
            refine KT.step rfl rfl (K.move rfl) ?_
            refine KT.step rfl rfl (K.move rfl) ?_
            refine KT.step rfl rfl (K.sub rfl rfl (show IntKind.i64.wrap ((i : Int) - 1) = ((i - 1 : Nat) : Int) from by rw [wrap_id (by omega)]; omega)) ?_
            refine KT.idxI rfl rfl rfl (by assumption) rfl (by omega) Try.underlying35 Try.size3 fun cs34 => ?_
            refine KT.step rfl rfl (K.load rfl Try.agg3) ?_
            refine KT.step rfl rfl (K.neq rfl rfl) ?_
            refine KT.step rfl rfl (K.move rfl) ?_
            refine KT.bcase (fun hb37 => ?_) (fun hb37 => ?_)
            · skip
              replace hb37 := of_decide_eq_true hb37
              refine KT.step rfl rfl (K.move rfl) ?_
              refine KT.step rfl rfl (K.move rfl) ?_
              refine KT.step rfl rfl (K.move rfl) ?_
              refine KT.step rfl rfl (K.sub rfl rfl (show IntKind.i64.wrap ((i : Int) - 1) = ((i - 1 : Nat) : Int) from by rw [wrap_id (by omega)]; omega)) ?_
              refine KT.idxI rfl rfl rfl (by assumption) rfl (by omega) Try.underlying35 Try.size3 fun cs42 => ?_
              refine KT.step rfl rfl (K.load rfl Try.agg3) ?_
              refine KT.step rfl rfl (K.rem rfl rfl hb37 rfl) ?_
              refine KT.step rfl rfl (K.neq rfl rfl) ?_
              refine KT.step rfl rfl (K.pick rfl (fun _ => rfl) (fun h => by cases h)) ?_
              refine KT.step rfl rfl (K.pick rfl (fun h => by cases h) (fun _ => rfl)) ?_
              refine KT.step rfl rfl (K.pick rfl (fun _ => rfl) (fun h => by cases h)) ?_
              refine KT.step rfl rfl (K.pick rfl (fun h => by cases h) (fun _ => rfl)) ?_
              refine KT.nil ?_
              refine thenK_n ?_
              refine KC.cond rfl (fun hc49 => ?_) (fun hc49 => ?_)
              · skip
                replace hc49 := of_decide_eq_true hc49
                refine KC.seq ?_
                refine KC.region ?_
                refine KT.step rfl rfl (K.assign rfl) ?_
                refine KT.nil ?_
                refine thenK_n ?_
                refine KC.ret ?_
                refine blockK_r ?_
                refine thenK_r ?_
                refine thenK_r ?_
                refine blockK_r ?_
                refine thenK_r ?_
                exact absurd hb26 hb37
              · skip
                replace hc49 := of_decide_eq_false hc49
                refine KC.skip ?_
                refine blockK_n ?_
                refine thenK_n ?_
                refine KC.region ?_
                refine KT.step rfl rfl (K.add rfl rfl (wrap_id (by omega))) ?_
                refine KT.step rfl rfl (K.move rfl) ?_
                refine KT.nil ?_
                refine thenK_n ?_
                exact absurd hb26 hb37
            · skip
              replace hb37 := of_decide_eq_false hb37
              refine KT.skip rfl rfl ?_
              refine KT.skip rfl rfl ?_
              refine KT.skip rfl rfl ?_
              refine KT.skip rfl rfl ?_
              refine KT.skip rfl rfl ?_
              refine KT.skip rfl rfl ?_
              refine KT.skip rfl rfl ?_
              refine KT.skip rfl rfl ?_
              refine KT.step rfl rfl (K.pick rfl (fun h => by cases h) (fun _ => rfl)) ?_
              refine KT.step rfl rfl (K.pick rfl (fun h => by cases h) (fun _ => rfl)) ?_
              refine KT.step rfl rfl (K.pick rfl (fun _ => rfl) (fun h => by cases h)) ?_
              refine KT.step rfl rfl (K.pick rfl (fun h => by cases h) (fun _ => rfl)) ?_
              refine KT.nil ?_
              refine thenK_n ?_
              refine KC.cond rfl (fun hc49 => ?_) (fun hc49 => ?_)
              · cases hc49
              · skip
                refine KC.skip ?_
                refine blockK_n ?_
                refine thenK_n ?_
                refine KC.region ?_
                refine KT.step rfl rfl (K.add rfl rfl (wrap_id (by omega))) ?_
                refine KT.step rfl rfl (K.move rfl) ?_
                refine KT.nil ?_
                refine thenK_n ?_
                refine ⟨i + 1, ⟨by omega, ?_⟩, by omega, rfl, by simp [Go.Vm.look, extK]⟩
                rw [range_all_succ, hall, Bool.true_and]
                exact okS_true (by omega) hb16 (.inr (.inl (Classical.not_not.1 hb30)))
        · skip
          replace hb26 := of_decide_eq_false hb26
          refine KT.skip rfl rfl ?_
          refine KT.skip rfl rfl ?_
          refine KT.step rfl rfl (K.pick rfl (fun h => by cases h) (fun _ => rfl)) ?_
          refine KT.step rfl rfl (K.move rfl) ?_
          refine KT.step rfl rfl (K.move rfl) ?_
          refine KT.step rfl rfl (K.move rfl) ?_
          refine KT.step rfl rfl (K.sub rfl rfl (show IntKind.i64.wrap ((i : Int) - 1) = ((i - 1 : Nat) : Int) from by rw [wrap_id (by omega)]; omega)) ?_
          refine KT.idxI rfl rfl rfl (by assumption) rfl (by omega) Try.underlying35 Try.size3 fun cs34 => ?_
          refine KT.step rfl rfl (K.load rfl Try.agg3) ?_
          refine KT.step rfl rfl (K.neq rfl rfl) ?_
          refine KT.step rfl rfl (K.move rfl) ?_
          refine KT.bcase (fun hb37 => ?_) (fun hb37 => ?_)
          · skip
            replace hb37 := of_decide_eq_true hb37
            refine KT.step rfl rfl (K.move rfl) ?_
            refine KT.step rfl rfl (K.move rfl) ?_
            refine KT.step rfl rfl (K.move rfl) ?_
            refine KT.step rfl rfl (K.sub rfl rfl (show IntKind.i64.wrap ((i : Int) - 1) = ((i - 1 : Nat) : Int) from by rw [wrap_id (by omega)]; omega)) ?_
            refine KT.idxI rfl rfl rfl (by assumption) rfl (by omega) Try.underlying35 Try.size3 fun cs42 => ?_
            refine KT.step rfl rfl (K.load rfl Try.agg3) ?_
            refine KT.step rfl rfl (K.rem rfl rfl hb37 rfl) ?_
            refine KT.step rfl rfl (K.neq rfl rfl) ?_
            refine KT.step rfl rfl (K.pick rfl (fun _ => rfl) (fun h => by cases h)) ?_
            refine KT.step rfl rfl (K.pick rfl (fun h => by cases h) (fun _ => rfl)) ?_
            refine KT.step rfl rfl (K.pick rfl (fun _ => rfl) (fun h => by cases h)) ?_
            refine KT.step rfl rfl (K.pick rfl (fun h => by cases h) (fun _ => rfl)) ?_
            refine KT.nil ?_
            refine thenK_n ?_
            refine KC.cond rfl (fun hc49 => ?_) (fun hc49 => ?_)
            · skip
              replace hc49 := of_decide_eq_true hc49
              refine KC.seq ?_
              refine KC.region ?_
              refine KT.step rfl rfl (K.assign rfl) ?_
              refine KT.nil ?_
              refine thenK_n ?_
              refine KC.ret ?_
              refine blockK_r ?_
              refine thenK_r ?_
              refine thenK_r ?_
              refine blockK_r ?_
              refine thenK_r ?_
              exact ⟨.inl rfl, _, rfl, fin_b (by rw [show smithB l = false from range_all_false (i := i) (by omega) (okS_false (by omega) (.inr ⟨by omega, fun h => hc49 (by rw [h]; exact Int.zero_tmod _), .inr (by rw [hpe]; exact hc49)⟩))]; rfl)⟩
            · skip
              replace hc49 := of_decide_eq_false hc49
              refine KC.skip ?_
              refine blockK_n ?_
              refine thenK_n ?_
              refine KC.region ?_
              refine KT.step rfl rfl (K.add rfl rfl (wrap_id (by omega))) ?_
              refine KT.step rfl rfl (K.move rfl) ?_
              refine KT.nil ?_
              refine thenK_n ?_
              refine ⟨i + 1, ⟨by omega, ?_⟩, by omega, rfl, by simp [Go.Vm.look, extK]⟩
              rw [range_all_succ, hall, Bool.true_and]
              exact okS_true (by omega) hb16 (.inr (.inr ⟨by rw [hpe]; exact hb26, by rw [hpe]; exact Classical.not_not.1 hc49⟩))
          · skip
            replace hb37 := of_decide_eq_false hb37
            refine KT.skip rfl rfl ?_
            refine KT.skip rfl rfl ?_
            refine KT.skip rfl rfl ?_
            refine KT.skip rfl rfl ?_
            refine KT.skip rfl rfl ?_
            refine KT.skip rfl rfl ?_
            refine KT.skip rfl rfl ?_
            refine KT.skip rfl rfl ?_
            refine KT.step rfl rfl (K.pick rfl (fun h => by cases h) (fun _ => rfl)) ?_
            refine KT.step rfl rfl (K.pick rfl (fun h => by cases h) (fun _ => rfl)) ?_
            refine KT.step rfl rfl (K.pick rfl (fun _ => rfl) (fun h => by cases h)) ?_
            refine KT.step rfl rfl (K.pick rfl (fun h => by cases h) (fun _ => rfl)) ?_
            refine KT.nil ?_
            refine thenK_n ?_
            refine KC.cond rfl (fun hc49 => ?_) (fun hc49 => ?_)
            · cases hc49
            · skip
              refine KC.skip ?_
              refine blockK_n ?_
              refine thenK_n ?_
              refine KC.region ?_
              refine KT.step rfl rfl (K.add rfl rfl (wrap_id (by omega))) ?_
              refine KT.step rfl rfl (K.move rfl) ?_
              refine KT.nil ?_
              refine thenK_n ?_
              exact absurd hb26 hb37
      · skip
        replace hb19 := of_decide_eq_false hb19
        refine KT.skip rfl rfl ?_
        refine KT.skip rfl rfl ?_
        refine KT.skip rfl rfl ?_
        refine KT.skip rfl rfl ?_
        refine KT.skip rfl rfl ?_
        refine KT.skip rfl rfl ?_
        refine KT.skip rfl rfl ?_
        refine KT.skip rfl rfl ?_
        refine KT.skip rfl rfl ?_
        refine KT.skip rfl rfl ?_
        refine KT.skip rfl rfl ?_
        refine KT.skip rfl rfl ?_
        refine KT.skip rfl rfl ?_
        refine KT.skip rfl rfl ?_
        refine KT.skip rfl rfl ?_
        refine KT.skip rfl rfl ?_
        refine KT.skip rfl rfl ?_
        refine KT.skip rfl rfl ?_
        refine KT.skip rfl rfl ?_
        refine KT.skip rfl rfl ?_
        refine KT.skip rfl rfl ?_
        refine KT.skip rfl rfl ?_
        refine KT.skip rfl rfl ?_
        refine KT.skip rfl rfl ?_
        refine KT.skip rfl rfl ?_
        refine KT.skip rfl rfl ?_
        refine KT.skip rfl rfl ?_
        refine KT.skip rfl rfl ?_
        refine KT.step rfl rfl (K.pick rfl (fun h => by cases h) (fun _ => rfl)) ?_
        refine KT.step rfl rfl (K.pick rfl (fun h => by cases h) (fun _ => rfl)) ?_
        refine KT.nil ?_
        refine thenK_n ?_
        refine KC.cond rfl (fun hc49 => ?_) (fun hc49 => ?_)
        · cases hc49
        · skip
          refine KC.skip ?_
          refine blockK_n ?_
          refine thenK_n ?_
          refine KC.region ?_
          refine KT.step rfl rfl (K.add rfl rfl (wrap_id (by omega))) ?_
          refine KT.step rfl rfl (K.move rfl) ?_
          refine KT.nil ?_
          refine thenK_n ?_
          refine ⟨i + 1, ⟨by omega, ?_⟩, by omega, rfl, by simp [Go.Vm.look, extK]⟩
          rw [range_all_succ, hall, Bool.true_and]
          exact okS_true (by omega) hb16 (.inl (by omega))
  · skip
    replace hc10 := of_decide_eq_false hc10
    refine KC.exit ?_
    refine thenK_x ?_
    refine thenK_x ?_
    refine blockK_e ?_
    refine thenK_n ?_
    refine KC.seq ?_
    refine KC.region ?_
    refine KT.step rfl rfl (K.move rfl) ?_
    refine KT.step rfl rfl (K.len rfl (by assumption) Try.underlying35) ?_
    refine KT.step rfl rfl (K.move rfl) ?_
    refine KT.step rfl rfl (K.eql rfl rfl) ?_
    refine KT.step rfl rfl (K.assign rfl) ?_
    refine KT.nil ?_
    refine thenK_n ?_
    refine KC.ret ?_
    have : i = l.length := by omega
    subst this
    exact ⟨.inl rfl, _, rfl, fin_b (show (smithB l && decide ((l.length : Int) = n)) = decide ((l.length : Int) = n) by rw [show smithB l = true from hall]; simp)⟩
end Go.Proofs.Ytlomhajhoecoiaa
