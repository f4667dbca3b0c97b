/-
  CONTRACTS for LatticeChecks: what big numbers are worth.
-/
import Derived.Test.YtlomhajhoecoiaaChkG
namespace Go.Proofs.Ytlomhajhoecoiaa
open Go.Vm Go.Big

theorem sgn_abs (neg : Bool) (l : List Nat) : (sgnV neg l).natAbs = val l := by unfold sgnV; cases neg <;> simp
theorem above_self (l : List Nat) : aboveB l l = false := by simp [aboveB]
theorem val_pos {a : List Nat} (ca : Big.Can a) (h : a.length ≠ 0) : 0 < val a := by
  have h1 := val_ge ca (by omega)
  have h2 : 0 < B ^ (a.length - 1) := Big.pow_pos' _
  omega
theorem equal_list {na : Bool} {a : List Nat} {n : Int} (h : n.natAbs < B * B) (da : Dig a) (ca : Big.Can a) (e : sgnV na a = n) : a = dig2 n.natAbs := dig2_uniq h (by rw [← e, sgn_abs]) da ca
theorem val_nil {a : List Nat} (h : a.length = 0) : val a = 0 := by
  have : a = [] := List.length_eq_zero_iff.1 h
  subst this; rfl
set_option maxRecDepth 10000 in
theorem equal85 {na : Bool} {ma : DV} {a : List Nat} {n : Int} (hma : Mag ma a) (da : Dig a) (ca : Big.Can a) (hla : a.length ≤ 1000) (h1 : -9223372036854775808 ≤ n) (h2 : n ≤ 9223372036854775807) : DeepCall Try.prog 85 [.agg [DB na, ma], DI n] (DB (decide (sgnV na a = n))) := by
  have hN : n.natAbs < B * B := by simp only [B]; omega
  obtain ⟨vl, dl, cl⟩ := dig2_val hN
  have hml := mag_slOf (dig2 n.natAbs)
  have hsl := SlD.of hml
  have hll : (dig2 n.natAbs).length ≤ 2 := by unfold dig2; split; simp; split <;> simp
  refine deepCall_K 5 Try.func85 rfl (Nat.le_of_ble_eq_true rfl) fun M W0 => ?_
  refine KC.seq ?_
  refine KC.region ?_
  refine KT.step rfl rfl (K.box rfl) ?_
  refine KT.step rfl rfl (K.assign rfl) ?_
  refine KT.nil ?_
  refine thenK_n ?_
  refine KC.seq ?_
  refine KC.region ?_
  refine KT.step rfl rfl (K.move rfl) ?_
  refine KT.step rfl rfl (K.call1 rfl plainTry_86 (number86 h1 h2)) ?_
  refine KT.step rfl rfl (K.alloc Try.zero87) ?_
  refine KT.step rfl rfl (K.storeN (v := .d (.agg [DB (decide (n < 0)), slOf ((dig2 n.natAbs).map U32)])) rfl rfl rfl (by simp [cellsX, Value.cells]) (by simp only [cellsX, List.map_cons, List.all_cons, hsl.one]; rfl) Try.size87) ?_
  refine KT.nil ?_
  refine thenK_n ?_
  refine KC.seq ?_
  refine KC.region ?_
  refine KT.step rfl rfl (K.fieldAddrO rfl Try.fld87_1 Try.size85) ?_
  refine KT.step rfl rfl (K.loadO rfl rfl (by simp) rfl Try.agg85) ?_
  refine KT.step rfl rfl (K.len rfl hma Try.underlying85) ?_
  refine KT.step rfl rfl (K.eql rfl rfl) ?_
  refine KT.step rfl rfl (K.move rfl) ?_
  refine KT.bcase (fun hb12 => ?_) (fun hb12 => ?_)
  · skip
    replace hb12 := of_decide_eq_true hb12
    refine KT.skip rfl rfl ?_
    refine KT.skip rfl rfl ?_
    refine KT.skip rfl rfl ?_
    refine KT.skip rfl rfl ?_
    refine KT.skip rfl rfl ?_
    refine KT.step rfl rfl (K.pick rfl (fun _ => rfl) (fun h => by cases h)) ?_
    refine KT.step rfl rfl (K.move rfl) ?_
    refine KT.step rfl rfl (K.fieldAddrO rfl Try.fld87_1 Try.size85) ?_
    refine KT.step rfl rfl (K.loadO rfl rfl (by simp) rfl Try.agg85) ?_
    refine KT.step rfl rfl (K.fieldAddrO rfl Try.fld87_1 Try.size85) ?_
    refine KT.step rfl rfl (K.loadO rfl rfl (by simp) rfl Try.agg85) ?_
    refine KT.step rfl rfl (K.call2 rfl rfl plainTry_105 (above105 hma hml da dl (by omega) (by omega))) ?_
    refine KT.step rfl rfl (K.not rfl) ?_
    refine KT.step rfl rfl (K.pick rfl (fun _ => rfl) (fun h => by cases h)) ?_
    refine KT.step rfl rfl (K.move rfl) ?_
    refine KT.bcase (fun hb27 => ?_) (fun hb27 => ?_)
    · skip
      refine KT.step rfl rfl (K.fieldAddrO rfl Try.fld87_1 Try.size85) ?_
      refine KT.step rfl rfl (K.loadO rfl rfl (by simp) rfl Try.agg85) ?_
      refine KT.step rfl rfl (K.fieldAddrO rfl Try.fld87_1 Try.size85) ?_
      refine KT.step rfl rfl (K.loadO rfl rfl (by simp) rfl Try.agg85) ?_
      refine KT.step rfl rfl (K.call2 rfl rfl plainTry_105 (above105 hml hma dl da (by omega) (by omega))) ?_
      refine KT.step rfl rfl (K.not rfl) ?_
      refine KT.step rfl rfl (K.pick rfl (fun _ => rfl) (fun h => by cases h)) ?_
      refine KT.step rfl rfl (K.assign rfl) ?_
      refine KT.nil ?_
      refine thenK_n ?_
      refine KC.ret ?_
      refine ⟨.inl rfl, _, rfl, fin_b ?_⟩
      cases hx : aboveB (dig2 n.natAbs) a with
      | true =>
        refine decide_eq_false fun e => ?_
        have he := equal_list hN da ca e
        rw [← he, above_self] at hx
        cases hx
      | false =>
        refine decide_eq_true ?_
        have hy : aboveB a (dig2 n.natAbs) = false := by simpa using hb27
        have q1 := above_le cl da hy
        have q2 := above_le ca dl hx
        have hv : val a = n.natAbs := by omega
        have hz : val a = 0 := val_nil (by omega)
        have hn0 : n = 0 := by omega
        unfold sgnV; cases na <;> simp <;> omega
    · skip
      refine KT.skip rfl rfl ?_
      refine KT.skip rfl rfl ?_
      refine KT.skip rfl rfl ?_
      refine KT.skip rfl rfl ?_
      refine KT.skip rfl rfl ?_
      refine KT.skip rfl rfl ?_
      refine KT.step rfl rfl (K.pick rfl (fun h => by cases h) (fun _ => rfl)) ?_
      refine KT.step rfl rfl (K.assign rfl) ?_
      refine KT.nil ?_
      refine thenK_n ?_
      refine KC.ret ?_
      refine ⟨.inl rfl, _, rfl, fin_b (decide_eq_false fun e => ?_)⟩
      have he := equal_list hN da ca e
      rw [← he, above_self] at hb27
      simp at hb27
  · skip
    replace hb12 := of_decide_eq_false hb12
    refine KT.step rfl rfl (K.fieldAddrO rfl Try.fld87_0 Try.size4) ?_
    refine KT.step rfl rfl (K.loadO rfl rfl (by simp) rfl Try.agg4) ?_
    refine KT.step rfl rfl (K.fieldAddrO rfl Try.fld87_0 Try.size4) ?_
    refine KT.step rfl rfl (K.loadO rfl rfl (by simp) rfl Try.agg4) ?_
    refine KT.step rfl rfl (K.eqB Try.underlying4 rfl rfl) ?_
    refine KT.step rfl rfl (K.pick rfl (fun h => by cases h) (fun _ => rfl)) ?_
    refine KT.step rfl rfl (K.move rfl) ?_
    refine KT.bcase (fun hb19 => ?_) (fun hb19 => ?_)
    · skip
      refine KT.step rfl rfl (K.fieldAddrO rfl Try.fld87_1 Try.size85) ?_
      refine KT.step rfl rfl (K.loadO rfl rfl (by simp) rfl Try.agg85) ?_
      refine KT.step rfl rfl (K.fieldAddrO rfl Try.fld87_1 Try.size85) ?_
      refine KT.step rfl rfl (K.loadO rfl rfl (by simp) rfl Try.agg85) ?_
      refine KT.step rfl rfl (K.call2 rfl rfl plainTry_105 (above105 hma hml da dl (by omega) (by omega))) ?_
      refine KT.step rfl rfl (K.not rfl) ?_
      refine KT.step rfl rfl (K.pick rfl (fun _ => rfl) (fun h => by cases h)) ?_
      refine KT.step rfl rfl (K.move rfl) ?_
      refine KT.bcase (fun hb27 => ?_) (fun hb27 => ?_)
      · skip
        refine KT.step rfl rfl (K.fieldAddrO rfl Try.fld87_1 Try.size85) ?_
        refine KT.step rfl rfl (K.loadO rfl rfl (by simp) rfl Try.agg85) ?_
        refine KT.step rfl rfl (K.fieldAddrO rfl Try.fld87_1 Try.size85) ?_
        refine KT.step rfl rfl (K.loadO rfl rfl (by simp) rfl Try.agg85) ?_
        refine KT.step rfl rfl (K.call2 rfl rfl plainTry_105 (above105 hml hma dl da (by omega) (by omega))) ?_
        refine KT.step rfl rfl (K.not rfl) ?_
        refine KT.step rfl rfl (K.pick rfl (fun _ => rfl) (fun h => by cases h)) ?_
        refine KT.step rfl rfl (K.assign rfl) ?_
        refine KT.nil ?_
        refine thenK_n ?_
        refine KC.ret ?_
        refine ⟨.inl rfl, _, rfl, fin_b ?_⟩
        cases hx : aboveB (dig2 n.natAbs) a with
        | true =>
          refine decide_eq_false fun e => ?_
          have he := equal_list hN da ca e
          rw [← he, above_self] at hx
          cases hx
        | false =>
          refine decide_eq_true ?_
          have hy : aboveB a (dig2 n.natAbs) = false := by simpa using hb27
          have q1 := above_le cl da hy
          have q2 := above_le ca dl hx
          have hv : val a = n.natAbs := by omega
          have hs : na = decide (n < 0) := by simpa using hb19
          unfold sgnV
          subst hs
          by_cases h0 : n < 0
          · simp [h0]; omega
          · simp [h0]; omega
      · skip
        refine KT.skip rfl rfl ?_
        refine KT.skip rfl rfl ?_
        refine KT.skip rfl rfl ?_
        refine KT.skip rfl rfl ?_
        refine KT.skip rfl rfl ?_
        refine KT.skip rfl rfl ?_
        refine KT.step rfl rfl (K.pick rfl (fun h => by cases h) (fun _ => rfl)) ?_
        refine KT.step rfl rfl (K.assign rfl) ?_
        refine KT.nil ?_
        refine thenK_n ?_
        refine KC.ret ?_
        refine ⟨.inl rfl, _, rfl, fin_b (decide_eq_false fun e => ?_)⟩
        have he := equal_list hN da ca e
        rw [← he, above_self] at hb27
        simp at hb27
    · skip
      refine KT.skip rfl rfl ?_
      refine KT.skip rfl rfl ?_
      refine KT.skip rfl rfl ?_
      refine KT.skip rfl rfl ?_
      refine KT.skip rfl rfl ?_
      refine KT.skip rfl rfl ?_
      refine KT.step rfl rfl (K.pick rfl (fun h => by cases h) (fun _ => rfl)) ?_
      refine KT.step rfl rfl (K.move rfl) ?_
      refine KT.skip rfl rfl ?_
      refine KT.skip rfl rfl ?_
      refine KT.skip rfl rfl ?_
      refine KT.skip rfl rfl ?_
      refine KT.skip rfl rfl ?_
      refine KT.skip rfl rfl ?_
      refine KT.step rfl rfl (K.pick rfl (fun h => by cases h) (fun _ => rfl)) ?_
      refine KT.step rfl rfl (K.assign rfl) ?_
      refine KT.nil ?_
      refine thenK_n ?_
      refine KC.ret ?_
      refine ⟨.inl rfl, _, rfl, fin_b (decide_eq_false fun e => ?_)⟩
      have hp := val_pos ca (by omega)
      unfold sgnV at e
      cases na <;> simp at hb19 e <;> omega

theorem big_len {d : DV} {z : Int} (h : BigZ d z) (hz : z.natAbs < B ^ 30) : ∃ neg m l, d = .agg [DB neg, m] ∧ Mag m l ∧ Dig l ∧ Big.Can l ∧ sgnV neg l = z ∧ l.length ≤ 30 := by
  obtain ⟨neg, l, hv, rfl⟩ := h
  have := hv.len hz
  cases hv with
  | mk hm hd hc => exact ⟨_, _, _, rfl, hm, hd, hc, rfl, this⟩
theorem numberZ {n : Int} (h1 : -9223372036854775808 ≤ n) (h2 : n ≤ 9223372036854775807) : ∃ r, DeepCall Try.prog 86 [DI n] r ∧ BigZ r n := by
  obtain ⟨vl, dl, cl⟩ := dig2_val (m := n.natAbs) (by simp only [B]; omega)
  refine ⟨_, number86 h1 h2, _, _, .mk (mag_slOf _) dl cl, ?_⟩
  unfold sgnV
  rw [vl]
  by_cases h : n < 0
  · simp [h]; omega
  · simp [h]; omega
theorem sumZc {d e : DV} {x y : Int} (hx : BigZ d x) (hy : BigZ e y) (bx : x.natAbs < B ^ 30) (by' : y.natAbs < B ^ 30) : ∃ r, DeepCall Try.prog 87 [d, e] r ∧ BigZ r (x + y) := by
  obtain ⟨na, ma, a, rfl, hma, da, ca, rfl, la⟩ := big_len hx bx
  obtain ⟨nb, mb, b, rfl, hmb, db, cb, rfl, lb⟩ := big_len hy by'
  refine ⟨_, sum87 hma hmb da db (by omega) (by omega), ?_⟩
  unfold sumD
  cases hn : (na != nb) with
  | true =>
    rw [if_pos rfl]
    have hne : na = !nb := by cases na <;> cases nb <;> simp at hn ⊢
    cases hab : aboveB b a with
    | true =>
      rw [if_pos rfl]
      obtain ⟨q1, q2⟩ := above_ge cb da hab
      refine ⟨_, _, .mk (minusD_mag b a) ((minL_dig b a).take _) (trim_can _), ?_⟩
      have hv := minus_trim db da q1 q2
      unfold sgnV
      rw [hv]
      subst hne
      cases nb <;> simp <;> omega
    | false =>
      rw [if_neg (by simp)]
      obtain ⟨q1, q2⟩ := above_le ca db hab
      refine ⟨_, _, .mk (minusD_mag a b) ((minL_dig a b).take _) (trim_can _), ?_⟩
      have hv := minus_trim da db q1 q2
      unfold sgnV
      rw [hv]
      subst hne
      cases nb <;> simp <;> omega
  | false =>
    rw [if_neg (by simp)]
    have hne : na = nb := by cases na <;> cases nb <;> simp at hn ⊢
    refine ⟨_, _, .mk (sumM_mag a b) ((sumL_dig a b).take _) (trim_can _), ?_⟩
    have hv := sumL_val da db
    rw [← trim_val] at hv
    unfold sgnV
    rw [hv]
    subst hne
    cases na <;> simp <;> omega
theorem timesZc {d e : DV} {x y : Int} (hx : BigZ d x) (hy : BigZ e y) (bx : x.natAbs < B ^ 30) (by' : y.natAbs < B ^ 30) : ∃ r, DeepCall Try.prog 88 [d, e] r ∧ BigZ r (x * y) := by
  obtain ⟨na, ma, a, rfl, hma, da, ca, rfl, la⟩ := big_len hx bx
  obtain ⟨nb, mb, b, rfl, hmb, db, cb, rfl, lb⟩ := big_len hy by'
  refine ⟨_, times88 hma hmb da db (by omega) (by omega), _, _, .mk (timM_mag a b) ((timL_dig da db).take _) (trim_can _), ?_⟩
  have hv := timL_val da db
  rw [← trim_val] at hv
  unfold sgnV
  rw [hv]
  cases na <;> cases nb <;> simp [Int.natCast_mul, Int.neg_mul, Int.mul_neg]
theorem equalZ {d : DV} {x n : Int} (hx : BigZ d x) (bx : x.natAbs < B ^ 30) (h1 : -9223372036854775808 ≤ n) (h2 : n ≤ 9223372036854775807) : DeepCall Try.prog 85 [d, DI n] (DB (decide (x = n))) := by
  obtain ⟨na, ma, a, rfl, hma, da, ca, rfl, la⟩ := big_len hx bx
  exact equal85 hma da ca (by omega) h1 h2
end Go.Proofs.Ytlomhajhoecoiaa
