import Derived.Test.YthbnnffmhnjpjaaCyRf
/-
  Times: the reference: divisor, the greatest mean.
-/
namespace Go.Proofs.Ythbnnffmhnjpjaa
open Go.Vm Go.Cy Go.RowKit

theorem gcd_tmod (c d : Int) : Int.gcd d (Int.tmod c d) = Int.gcd c d := by
  unfold Int.gcd
  rw [Int.natAbs_tmod, Nat.gcd_comm d.natAbs, ← Nat.gcd_rec, Nat.gcd_comm]
set_option maxRecDepth 10000 in
theorem rdivisor73 {a b : Int} (ha : a.natAbs ≤ 1000000000 ∧ b.natAbs ≤ 1000000000) : DeepCall Try.prog 73 [DI a, DI b] (DI (Int.gcd a b : Nat)) := by
  refine deepCall_K 5 Try.func73 rfl (Nat.le_of_ble_eq_true rfl) fun M W0 => ?_
  refine KC.seq ?_
  refine KC.region ?_
  refine KT.step rfl rfl (K.assign rfl) ?_
  refine KT.nil ?_
  refine thenK_n ?_
  refine KC.seq ?_
  refine KC.block ?_
  refine KC.loop (fun _ : Int × Int => []) (fun p => [(0, .d (DI p.1)), (1, .d (DI p.2))]) (fun p => Int.gcd p.1 p.2 = Int.gcd a b ∧ p.1.natAbs ≤ 1000000000 ∧ p.2.natAbs ≤ 1000000000) (fun p => p.2.natAbs) (a, b) ⟨rfl, ha⟩ rfl (by simp [Go.Vm.look, extK, enterK]) ?_
  intro p hp
  obtain ⟨c, d⟩ := p
  obtain ⟨hp, hc, hd⟩ := hp
  simp only at hp hc hd ⊢
  refine KC.seq ?_
  refine KC.seq ?_
  refine KC.region ?_
  refine KT.step rfl rfl (K.move rfl) ?_
  refine KT.step rfl rfl (K.neq rfl rfl) ?_
  refine KT.nil ?_
  refine thenK_n ?_
  refine KC.cond rfl (fun hc6 => ?_) (fun hc6 => ?_)
  · skip
    replace hc6 := of_decide_eq_true hc6
    refine KC.skip ?_
    refine thenK_n ?_
    refine KC.block ?_
    refine KC.draw Try.mixed ?_
    refine KT.step rfl rfl (K.move rfl) ?_
    refine KT.step rfl rfl (K.move rfl) ?_
    refine KT.step rfl rfl (K.move rfl) ?_
    refine KT.step rfl rfl (K.rem rfl rfl (by omega) rfl) ?_
    refine KT.step rfl rfl (K.assign rfl) ?_
    refine KT.step rfl rfl (K.assign rfl) ?_
    refine KT.nil ?_
    refine ⟨by kernel_rfl, ?_⟩
    refine blockK_n ?_
    refine thenK_n ?_
    have hlt : (Int.tmod c d).natAbs < d.natAbs := by rw [Int.natAbs_tmod]; exact Nat.mod_lt _ (by omega)
    exact ⟨(d, Int.tmod c d), ⟨by rw [← hp]; exact gcd_tmod c d, hd, by omega⟩, hlt, rfl, by simp [Go.Vm.look, extK]⟩
  · skip
    replace hc6 := of_decide_eq_false hc6
    refine KC.exit ?_
    refine thenK_x ?_
    refine thenK_x ?_
    refine blockK_e ?_
    refine thenK_n ?_
    refine KC.seq ?_
    refine KC.region ?_
    refine KT.step rfl rfl (K.move rfl) ?_
    refine KT.step rfl rfl (K.move rfl) ?_
    refine KT.step rfl rfl (K.unI rfl (show IntKind.i64.wrap (0 - c) = -c from by rw [Int.zero_sub]; exact wrap_id (by omega))) ?_
    refine KT.step rfl rfl (K.max2 rfl rfl) ?_
    rw [max_abs]
    refine KT.step rfl rfl (K.assign rfl) ?_
    refine KT.nil ?_
    refine thenK_n ?_
    refine KC.ret ?_
    obtain rfl : d = 0 := by omega
    rw [Int.gcd_zero_right] at hp
    exact ⟨.inl rfl, _, rfl, fin_d (by rw [hp])⟩

def bestD (b : List Nat) : DV := if b = [] then Dnil else wayD b
theorem K.eqBest {P : Program} {σ : List VObj} {kn : Kn} {dst : Option Tmp} {ty : TypeId} {pos : String} {af : Array Edge} {g : Option (Nat × Bool)} {x : Operand} {t u e : TypeId} {b : List Nat} (hx : evK kn x = some (.d (bestD b))) (ht : P.underlying t = some (.slice e)) :
    KEv P ⟨dst, .binOp .eql t x (.const (.slice none 0 0)) u, ty, pos, af, g⟩ σ kn (.d (DB (decide (b = [])))) σ 0 := by
  by_cases h : b = []
  · subst h; exact K.eqNilNil hx ht
  · rw [decide_eq_false h]
    unfold bestD at hx
    rw [if_neg h] at hx
    exact K.eqNil hx ht
/-- The loop's numbers are small. -/
def MB (s : Int × Int × List Nat) : Prop := (-6000 ≤ s.1 ∧ s.1 ≤ 6000) ∧ (1 ≤ s.2.1 ∧ s.2.1 ≤ 6)
theorem cyc_bd {n : Nat} {a : Nat → Nat → Int} (ha : GoodM 1000 a) (hn : n ≤ 6) {c : List Nat} (hc : c ∈ cycsN n a n) : (-6000 ≤ wtS a (cI c) c.length ∧ wtS a (cI c) c.length ≤ 6000) ∧ 1 ≤ c.length ∧ c.length ≤ 6 ∧ rweight n a (cI c) = wtS a (cI c) c.length := by
  obtain ⟨s, h1, h2, h3⟩ := mem_cycs.1 hc
  have hl := ((mem_extN s c).1 h2).1
  have h4 := wtS_bd ha (c := cI c) (by omega) (k := c.length) fun q hq => (h3 q (by rw [cI_len]; exact hq)).2.2.2
  have e := rw_yes h3
  rw [cI_len] at e
  exact ⟨by omega, by omega, by omega, e⟩
theorem step_MB {a : Nat → Nat → Int} {s : Int × Int × List Nat} {c : List Nat} (h : MB s) (h1 : -6000 ≤ wtS a (cI c) c.length ∧ wtS a (cI c) c.length ≤ 6000) (h2 : 1 ≤ c.length ∧ c.length ≤ 6) : MB (mStep a s c) := by
  unfold mStep
  split
  · exact ⟨h1, by simp only; omega⟩
  · exact h
def mPart (a : Nat → Nat → Int) (L : List (List Nat)) (i : Nat) : Int × Int × List Nat := mFold a (L.take i)
theorem mPart_succ {a : Nat → Nat → Int} {L : List (List Nat)} {i : Nat} (h : i < L.length) : mPart a L (i + 1) = mStep a (mPart a L i) L[i] := by
  unfold mPart mFold
  rw [List.take_succ_eq_append_getElem h, List.foldl_append]; rfl
set_option maxHeartbeats 1600000 in
set_option maxRecDepth 10000 in
theorem rmean57 {d : DV} {n : Nat} {a : Nat → Nat → Int} (hext : ∀ s, s < 6 → DeepCall Try.prog 102 [DI (n : Nat), DI ((s + 1 : Nat) : Int)] (waysD (extN n (s + 1)))) (hd : Mat d (genM n n a)) (h1 : 1 ≤ n) (hn : n ≤ 6) (ha : GoodM 1000 a) : DeepCall Try.prog 57 [d] (.tup [DI (lowI ((mFold a (cycsN n a n)).1, (mFold a (cycsN n a n)).2.1)).1, DI (lowI ((mFold a (cycsN n a n)).1, (mFold a (cycsN n a n)).2.1)).2, bestD (mFold a (cycsN n a n)).2.2]) := by
  refine deepCall_K 5 Try.func57 rfl (Nat.le_of_ble_eq_true rfl) fun M W0 => ?_
  refine KC.seq ?_
  refine KC.region ?_
  refine KT.step rfl rfl (K.assign rfl) ?_
  refine KT.step rfl rfl (K.assign rfl) ?_
  refine KT.step rfl rfl (K.assign rfl) ?_
  refine KT.nil ?_
  refine thenK_n ?_
  refine KC.seq ?_
  refine KC.region ?_
  refine KT.step rfl rfl (K.assign rfl) ?_
  refine KT.step rfl rfl (K.assign rfl) ?_
  refine KT.nil ?_
  refine thenK_n ?_
  refine KC.seq ?_
  refine KC.region ?_
  refine KT.step rfl rfl (K.assign rfl) ?_
  refine KT.nil ?_
  refine thenK_n ?_
  refine KC.seq ?_
  refine KC.seq ?_
  refine KC.region ?_
  refine KT.step rfl rfl (K.move rfl) ?_
  refine KT.step rfl rfl (K.call1 rfl plainTry_90 (cycles90 hext hd h1 hn (fun i j => (ha i j).mono (by omega)))) ?_
  refine KT.step rfl rfl (K.len rfl (waysD_vec (cycsN n a n)) Try.underlying22) ?_
  refine KT.step rfl rfl (K.move rfl) ?_
  refine KT.nil ?_
  refine thenK_n ?_
  refine KC.block ?_
  have hLl := cycsN_len (a := a) hn (Nat.le_refl n)
  have e0 : mPart a (cycsN n a n) 0 = (0, 1, []) := by unfold mPart; rw [List.take_zero]; rfl
  refine KC.loop (fun _ : Nat => []) (fun i => [(0, .d d), (5, .d (DI (mPart a (cycsN n a n) i).1)), (6, .d (DI (mPart a (cycsN n a n) i).2.1)), (7, .d (bestD (mPart a (cycsN n a n) i).2.2)), (14, .d (waysD (cycsN n a n))), (15, .d (DI ((cycsN n a n).length : Nat))), (16, .d (DI (i : Nat)))]) (fun i => i ≤ (cycsN n a n).length ∧ MB (mPart a (cycsN n a n) i)) (fun i => (cycsN n a n).length - i) 0 ⟨Nat.zero_le _, by rw [e0]; exact ⟨by decide, by decide⟩⟩ rfl (by simp [Go.Vm.look, extK, enterK, e0, bestD]) ?_
  intro i hi
  obtain ⟨hi, hM1, hM2⟩ := hi
  refine KC.seq ?_
  refine KC.region ?_
  refine KT.step rfl rfl (K.lss rfl rfl) ?_
  refine KT.nil ?_
  refine thenK_n ?_
  refine KC.seq ?_
  refine KC.cond rfl (fun hc17 => ?_) (fun hc17 => ?_)
  · skip
    replace hc17 := of_decide_eq_true hc17
    refine KC.skip ?_
    refine thenK_n ?_
    refine KC.seq ?_
    refine KC.block ?_
    refine KC.seq ?_
    refine KC.region ?_
    refine KT.idx rfl rfl rfl (waysD_vec (cycsN n a n)) rfl (by omega) Try.underlying22 Try.size33 fun c18 cs18 hq18 => ?_
    subst hq18
    refine KT.step rfl rfl (K.load rfl Try.agg33) ?_
    refine KT.step rfl rfl (K.assign rfl) ?_
    refine KT.nil ?_
    refine thenK_n ?_
    refine KC.seq ?_
    refine KC.region ?_
    have hmem := List.getElem_mem (l := (cycsN n a n)) (n := i) (by omega)
    obtain ⟨w1, w2, w3, w4⟩ := cyc_bd ha hn hmem
    refine KT.step rfl rfl (K.move rfl) ?_
    refine KT.step rfl rfl (K.move rfl) ?_
    refine KT.step rfl rfl (K.call2 rfl rfl plainTry_65 (weight65 hd (wayD_ints _) (by rw [cI_len]; omega) h1 (by omega) (fun i j => (ha i j).mono (by omega)))) ?_
    refine KT.step rfl rfl (K.move rfl) ?_
    rw [w4]
    refine KT.step rfl rfl (K.extract rfl rfl) ?_
    refine KT.step rfl rfl (K.extract rfl rfl) ?_
    refine KT.step rfl rfl (K.assign rfl) ?_
    refine KT.step rfl rfl (K.assign rfl) ?_
    refine KT.nil ?_
    refine thenK_n ?_
    refine KC.seq ?_
    refine KC.region ?_
    refine KT.step rfl rfl (K.move rfl) ?_
    refine KT.step rfl rfl (K.eqBest rfl Try.underlying33) ?_
    refine KT.step rfl rfl (K.move rfl) ?_
    refine KT.bcase (fun hb28 => ?_) (fun hb28 => ?_)
    · skip
      refine KT.skip rfl rfl ?_
      refine KT.skip rfl rfl ?_
      refine KT.skip rfl rfl ?_
      refine KT.skip rfl rfl ?_
      refine KT.skip rfl rfl ?_
      refine KT.skip rfl rfl ?_
      refine KT.skip rfl rfl ?_
      refine KT.skip rfl rfl ?_
      refine KT.step rfl rfl (K.pick rfl (fun _ => rfl) (fun h => by cases h)) ?_
      refine KT.nil ?_
      refine thenK_n ?_
      refine KC.cond rfl (fun hc37 => ?_) (fun hc37 => ?_)
      · skip
        refine KC.region ?_
        refine KT.step rfl rfl (K.move rfl) ?_
        refine KT.step rfl rfl (K.move rfl) ?_
        refine KT.step rfl rfl (K.len rfl (wayD_ints _) Try.underlying33) ?_
        rw [cI_len]
        refine KT.step rfl rfl (K.move rfl) ?_
        refine KT.step rfl rfl (K.assign rfl) ?_
        refine KT.step rfl rfl (K.assign rfl) ?_
        refine KT.step rfl rfl (K.assign rfl) ?_
        refine KT.nil ?_
        refine blockK_n ?_
        refine thenK_n ?_
        refine KC.region ?_
        refine KT.step rfl rfl (K.add rfl rfl (wrap_id (by omega))) ?_
        refine KT.step rfl rfl (K.move rfl) ?_
        refine KT.nil ?_
        refine thenK_n ?_
        have hstep : mPart a (cycsN n a n) (i + 1) = (wtS a (cI ((cycsN n a n)[i])) ((cycsN n a n)[i]).length, ((((cycsN n a n)[i]).length : Nat) : Int), (cycsN n a n)[i]) := by
          rw [mPart_succ (by omega)]
          exact if_pos (.inl (of_decide_eq_true hb28))
        refine ⟨i + 1, ⟨by omega, by rw [mPart_succ (by omega)]; exact step_MB ⟨hM1, hM2⟩ w1 ⟨w2, w3⟩⟩, by omega, rfl, ?_⟩
        rw [hstep]
        have hb : bestD ((cycsN n a n)[i]) = wayD ((cycsN n a n)[i]) := if_neg (by intro h; rw [h] at w2; simp at w2)
        simp [Go.Vm.look, extK, hb]
      · cases hc37
    · skip
      refine KT.step rfl rfl (K.move rfl) ?_
      refine KT.step rfl rfl (K.move rfl) ?_
      have hm1 := mul_bd (a := 6000) (b := 6) w1 (show -6 ≤ (mPart a (cycsN n a n) i).2.1 ∧ (mPart a (cycsN n a n) i).2.1 ≤ 6 by omega) (by omega) (by omega)
      have hm2 := mul_bd (a := 6000) (b := 6) hM1 (show -6 ≤ ((((cycsN n a n)[i]).length : Nat) : Int) ∧ ((((cycsN n a n)[i]).length : Nat) : Int) ≤ 6 by omega) (by omega) (by omega)
      refine KT.step rfl rfl (K.mul rfl rfl (wrap_id (by omega))) ?_
      refine KT.step rfl rfl (K.move rfl) ?_
      refine KT.step rfl rfl (K.move rfl) ?_
      refine KT.step rfl rfl (K.len rfl (wayD_ints _) Try.underlying33) ?_
      rw [cI_len]
      refine KT.step rfl rfl (K.mul rfl rfl (wrap_id (by omega))) ?_
      refine KT.step rfl rfl (K.gtr rfl rfl) ?_
      refine KT.step rfl rfl (K.pick rfl (fun h => by cases h) (fun _ => rfl)) ?_
      refine KT.nil ?_
      refine thenK_n ?_
      refine KC.cond rfl (fun hc37 => ?_) (fun hc37 => ?_)
      · skip
        replace hc37 := of_decide_eq_true hc37
        refine KC.region ?_
        refine KT.step rfl rfl (K.move rfl) ?_
        refine KT.step rfl rfl (K.move rfl) ?_
        refine KT.step rfl rfl (K.len rfl (wayD_ints _) Try.underlying33) ?_
        rw [cI_len]
        refine KT.step rfl rfl (K.move rfl) ?_
        refine KT.step rfl rfl (K.assign rfl) ?_
        refine KT.step rfl rfl (K.assign rfl) ?_
        refine KT.step rfl rfl (K.assign rfl) ?_
        refine KT.nil ?_
        refine blockK_n ?_
        refine thenK_n ?_
        refine KC.region ?_
        refine KT.step rfl rfl (K.add rfl rfl (wrap_id (by omega))) ?_
        refine KT.step rfl rfl (K.move rfl) ?_
        refine KT.nil ?_
        refine thenK_n ?_
        have hstep : mPart a (cycsN n a n) (i + 1) = (wtS a (cI ((cycsN n a n)[i])) ((cycsN n a n)[i]).length, ((((cycsN n a n)[i]).length : Nat) : Int), (cycsN n a n)[i]) := by
          rw [mPart_succ (by omega)]
          exact if_pos (.inr hc37)
        refine ⟨i + 1, ⟨by omega, by rw [mPart_succ (by omega)]; exact step_MB ⟨hM1, hM2⟩ w1 ⟨w2, w3⟩⟩, by omega, rfl, ?_⟩
        rw [hstep]
        have hb : bestD ((cycsN n a n)[i]) = wayD ((cycsN n a n)[i]) := if_neg (by intro h; rw [h] at w2; simp at w2)
        simp [Go.Vm.look, extK, hb]
      · skip
        replace hc37 := of_decide_eq_false hc37
        refine KC.skip ?_
        refine blockK_n ?_
        refine thenK_n ?_
        refine KC.region ?_
        refine KT.step rfl rfl (K.add rfl rfl (wrap_id (by omega))) ?_
        refine KT.step rfl rfl (K.move rfl) ?_
        refine KT.nil ?_
        refine thenK_n ?_
        have hstep : mPart a (cycsN n a n) (i + 1) = (mPart a (cycsN n a n) i) := by
          rw [mPart_succ (by omega)]
          exact if_neg (by
            rintro (k | k)
            · exact of_decide_eq_false hb28 k
            · exact hc37 k)
        refine ⟨i + 1, ⟨by omega, by rw [hstep]; exact ⟨hM1, hM2⟩⟩, by omega, rfl, ?_⟩
        rw [hstep]
        simp [Go.Vm.look, extK]
  · skip
    replace hc17 := of_decide_eq_false hc17
    refine KC.exit ?_
    refine thenK_x ?_
    refine thenK_x ?_
    refine blockK_e ?_
    refine thenK_n ?_
    refine KC.seq ?_
    refine KC.region ?_
    have hg : 0 < Int.gcd (mPart a (cycsN n a n) i).1 (mPart a (cycsN n a n) i).2.1 := Int.gcd_pos_iff.2 (.inr (by omega))
    have q1 := tdiv_bd hg (B := 6000) hM1
    have q2 := tdiv_bd (a := (mPart a (cycsN n a n) i).2.1) (B := 6) hg (by omega)
    refine KT.step rfl rfl (K.move rfl) ?_
    refine KT.step rfl rfl (K.move rfl) ?_
    refine KT.step rfl rfl (K.call2 rfl rfl plainTry_73 (rdivisor73 (by omega))) ?_
    refine KT.step rfl rfl (K.assign rfl) ?_
    refine KT.nil ?_
    refine thenK_n ?_
    refine KC.seq ?_
    refine KC.draw Try.mixed ?_
    refine KT.step rfl rfl (K.move rfl) ?_
    refine KT.step rfl rfl (K.move rfl) ?_
    refine KT.step rfl rfl (K.quo rfl rfl (by omega) (wrap_id (by omega))) ?_
    refine KT.step rfl rfl (K.move rfl) ?_
    refine KT.step rfl rfl (K.move rfl) ?_
    refine KT.step rfl rfl (K.quo rfl rfl (by omega) (wrap_id (by omega))) ?_
    refine KT.step rfl rfl (K.move rfl) ?_
    refine KT.step rfl rfl (K.assign rfl) ?_
    refine KT.step rfl rfl (K.assign rfl) ?_
    refine KT.step rfl rfl (K.assign rfl) ?_
    refine KT.nil ?_
    refine ⟨by kernel_rfl, ?_⟩
    refine thenK_n ?_
    refine KC.ret ?_
    obtain rfl : i = (cycsN n a n).length := by omega
    exact ⟨.inl rfl, _, rfl, by unfold mPart; rw [List.take_length]; rfl⟩
end Go.Proofs.Ythbnnffmhnjpjaa

