/-
  CONTRACTS for LatticeChecks: an int as a big number; sums of big numbers.
-/
import Derived.Test.YtlomhajhoecoiaaChkD
namespace Go.Proofs.Ytlomhajhoecoiaa
open Go.Vm Go.Big

def dig2 (m : Nat) : List Nat := if m = 0 then [] else if m < B then [m] else [m % B, m / B]
theorem dig2_val {m : Nat} (h : m < B * B) : val (dig2 m) = m ∧ Dig (dig2 m) ∧ Big.Can (dig2 m) := by
  unfold dig2
  split
  · rename_i h0; subst h0; exact ⟨rfl, fun d h => by simp at h, fun h => by simp at h⟩
  · split
    · rename_i h0 h1
      exact ⟨by simp [val], fun d hd => by simp at hd; subst hd; exact h1, fun _ => by simpa using h0⟩
    · rename_i h0 h1
      have h2 : m / B < B := by rw [Nat.div_lt_iff_lt_mul (by decide)]; exact h
      have h3 : 0 < m / B := Nat.div_pos (by omega) (by decide)
      exact ⟨by simp only [val]; have := Nat.mod_add_div m B; omega, fun d hd => by
        simp at hd; rcases hd with rfl | rfl
        · exact Nat.mod_lt _ (by decide)
        · exact h2, fun _ => by simp only [List.length_cons, List.length_nil]; simp; omega⟩
theorem dig2_uniq {m : Nat} {l : List Nat} (h : m < B * B) (hv : val l = m) (hd : Dig l) (hc : Big.Can l) : l = dig2 m := by
  obtain ⟨h1, h2, h3⟩ := dig2_val h
  have hv' : val l = val (dig2 m) := by rw [hv, h1]
  exact val_inj (len_eq hc h3 hd h2 hv') hd h2 hv'
theorem build87 (b : Bool) : pureRun Try.prog (Instr.build 87 #[(0, .bool b)]) = some (.agg #[.bool b, .slice none 0 0]) := by kernel_rfl
def digX (l : List Nat) : List XV := l.map fun n => .d (U32 n)
structure NumI (neg : Bool) (N : Nat) (σ : List VObj) (x : XV) (m : Nat) (l : List Nat) : Prop where
  h0 : σ[0]? = some ⟨[.d (DB false), .d Dnil], 0⟩
  h1 : σ[1]? = some ⟨[.d (DB neg), x], 0⟩
  own : OwnK 1 σ x (digX l)
  id0 : ∀ j, idX x = some j → 2 ≤ j
  nil : l = [] → x = .d Dnil
  sum : val l + B ^ l.length * m = N
  dig : Dig l
  can : m = 0 → Big.Can l
theorem bytes96 : bytesT Try.prog 96 ≤ 65536 := of_decide_eq_true (by kernel_rfl)
theorem cells96 : (zeroT Try.prog 96).map (·.cells.size) = some 1 := by kernel_rfl
theorem deep_dig {σ : List VObj} {k : Nat} {x : XV} {l : List Nat} (h : OwnK 1 σ x (digX l)) (hne : l = [] → x = .d Dnil) : deepen (freezeAll σ) (k + 2) x = some (slOf (l.map U32)) := by
  generalize hc : digX l = cells at h
  cases h with
  | nil =>
    have : l = [] := by cases l <;> simp [digX] at hc ⊢
    subst this; rfl
  | @sl id n cells ho hn =>
    subst hc
    have hn' : n = l.length := by simp [digX] at hn; omega
    subst hn'
    have hd : l ≠ [] := fun e => by have := hne e; cases this
    have e0 : digX l = (l.map U32).map XV.d := by simp [digX]
    rw [deepen_osl (ob := ⟨digX l, 1⟩) (by simp [freezeAll, ho]) rfl (by simp [digX]), List.drop_zero, List.take_of_length_le (by simp [digX]), e0, mapM_deep]
    cases l with
    | nil => exact absurd rfl hd
    | cons a l => simp [slOf]
theorem freezeIds_other {σ : List VObj} {ids : List Nat} {j : Nat} (h : j ∉ ids) : (freezeIds σ ids)[j]? = σ[j]? := by
  simp only [freezeIds, List.getElem?_mapIdx]
  cases σ[j]? with
  | none => rfl
  | some o => simp [h]
theorem freeze_dig {σ : List VObj} {x : XV} {l : List Nat} (h : OwnK 1 σ x (digX l)) (hne : l = [] → x = .d Dnil) : ∃ ids, (∀ j ∈ ids, idX x = some j) ∧ (([x] : List XV).mapM (deepen (freezeIds σ ids) 5)) = some [slOf (l.map U32)] := by
  generalize hc : digX l = cells at h
  cases h with
  | nil =>
    have : l = [] := by cases l <;> simp [digX] at hc ⊢
    subst this; exact ⟨[], (fun j h => by simp at h), rfl⟩
  | @sl id n cells ho hn =>
    subst hc
    have hn' : n = l.length := by simp [digX] at hn; omega
    subst hn'
    have hd : l ≠ [] := fun e => by have := hne e; cases this
    have e0 : digX l = (l.map U32).map XV.d := by simp [digX]
    refine ⟨[id], (fun j h => by simp at h; subst h; rfl), ?_⟩
    rw [List.mapM_cons, deepen_osl (ob := ⟨digX l, 1⟩) (by simp [freezeIds, ho]) rfl (by simp [digX]), List.drop_zero, List.take_of_length_le (by simp [digX]), e0, mapM_deep]
    cases l with
    | nil => exact absurd rfl hd
    | cons a l => simp [slOf]
theorem negU {n : Int} (h : n < 0) (h2 : -9223372036854775808 ≤ n) : IntKind.u64.wrap (0 - (((n % 2 ^ 64).toNat : Nat) : Int)) = (n.natAbs : Int) := by
  rw [wrapUI]; omega
set_option maxRecDepth 10000 in
theorem number86 {n : Int} (h1 : -9223372036854775808 ≤ n) (h2 : n ≤ 9223372036854775807) : DeepCall Try.prog 86 [DI n] (.agg [DB (decide (n < 0)), slOf ((dig2 n.natAbs).map U32)]) := by
  refine deepCall_K 5 Try.func86 rfl (Nat.le_of_ble_eq_true rfl) fun M W0 => ?_
  refine KC.seq ?_
  refine KC.region ?_
  refine KT.step rfl rfl (K.alloc Try.zero87) ?_
  refine KT.nil ?_
  refine thenK_n ?_
  refine KC.seq ?_
  refine KC.region ?_
  refine KT.step rfl rfl (K.move rfl) ?_
  refine KT.step rfl rfl (K.lss rfl rfl) ?_
  refine KT.step rfl rfl (K.buildL rfl (build87 _)) ?_
  refine KT.step rfl rfl (K.alloc Try.zero87) ?_
  refine KT.step rfl rfl (K.storeN rfl rfl rfl (by simp [cellsX, Value.cells]) (by simp [cellsX, Value.cells, oneX, Value.oneCell']) Try.size87) ?_
  refine KT.nil ?_
  refine thenK_n ?_
  refine KC.seq ?_
  refine KC.region ?_
  refine KT.step rfl rfl (K.move rfl) ?_
  refine KT.step rfl rfl (K.conv rfl Try.underlying3 Try.underlying103 (wrapUI _)) ?_
  refine KT.step rfl rfl (K.assign rfl) ?_
  refine KT.nil ?_
  refine thenK_n ?_
  refine KC.seq ?_
  refine KC.seq ?_
  refine KC.region ?_
  refine KT.step rfl rfl (K.move rfl) ?_
  refine KT.step rfl rfl (K.lss rfl rfl) ?_
  refine KT.nil ?_
  refine thenK_n ?_
  refine KC.cond rfl (fun hc11 => ?_) (fun hc11 => ?_)
  · skip
    replace hc11 := of_decide_eq_true hc11
    refine KC.region ?_
    refine KT.step rfl rfl (K.move rfl) ?_
    refine KT.step rfl rfl (K.unI rfl (negU hc11 h1)) ?_
    refine KT.step rfl rfl (K.assign rfl) ?_
    refine KT.nil ?_
    refine thenK_n ?_
    refine KC.seq ?_
    refine KC.block ?_
    refine KC.loop (fun p : List VObj × XV × Nat × List Nat => p.1) (fun p => [(2, .optr 0 0), (3, .optr 1 0), (4, .d (U p.2.2.1))]) (fun p => NumI (decide (n < 0)) n.natAbs p.1 p.2.1 p.2.2.1 p.2.2.2) (fun p => p.2.2.1) ([⟨[.d (DB false), .d Dnil], 0⟩, ⟨[.d (DB (decide (n < 0))), .d Dnil], 0⟩], .d Dnil, n.natAbs, []) ⟨rfl, rfl, .nil, (fun j h => by cases h), fun _ => rfl, by simp [val], fun d h => by simp at h, fun _ h => by simp at h⟩ rfl (by simp [Go.Vm.look, extK, enterK]) ?_
    intro p hp
    obtain ⟨σ0, x0, m, l⟩ := p
    obtain ⟨h0, g1, own, id0, nil, hsum, hdig, hcan⟩ := hp
    simp only at h0 g1 own id0 nil hsum hdig hcan ⊢
    have hmN : m < 2 ^ 64 := by
      have : 1 * m ≤ B ^ l.length * m := Nat.mul_le_mul_right _ (pow_pos' _)
      omega
    refine KC.seq ?_
    refine KC.seq ?_
    refine KC.region ?_
    refine KT.step rfl rfl (K.move rfl) ?_
    refine KT.step rfl rfl (K.gtr rfl rfl) ?_
    refine KT.nil ?_
    refine thenK_n ?_
    refine KC.cond rfl (fun hc15 => ?_) (fun hc15 => ?_)
    · skip
      replace hc15 := of_decide_eq_true hc15
      have hm0 : 0 < m := by omega
      have g2 := (List.getElem?_eq_some_iff.1 g1).1
      have hll : l.length ≤ 100 := by
        rcases Nat.lt_or_ge 100 l.length with h | h
        · exfalso
          have a1 : B ^ 100 ≤ B ^ l.length := Nat.pow_le_pow_right (by decide) (by omega)
          have a2 : B ^ l.length * 1 ≤ B ^ l.length * m := Nat.mul_le_mul_left _ hm0
          have a3 : 2 ^ 64 < B ^ 100 := by decide
          omega
        · exact h
      refine KC.skip ?_
      refine thenK_n ?_
      refine KC.seq ?_
      refine KC.block ?_
      refine KC.region ?_
      refine KT.step rfl rfl (K.fieldAddrO rfl Try.fld87_1 Try.size85) ?_
      refine KT.step rfl rfl (K.loadO rfl g1 (by simp) rfl Try.agg85) ?_
      refine KT.step rfl rfl (K.move rfl) ?_
      refine KT.step rfl rfl (K.conv rfl Try.underlying103 Try.underlying96 (wrapU32 _)) ?_
      refine KT.step rfl rfl (K.build1' (v := .d (U32 (m % B))) rfl rfl Try.underlying85 Try.one96) ?_
      refine KT.appK (k := 1) (vs := [.d (U32 (m % B))]) rfl rfl rfl rfl (own.pushed _) (by simp) rfl rfl (by simp [digX]; omega) Try.underlying85 Try.size96 bytes96 cells96 (by omega) fun σ1 x1 ho1 k1 w1 => ?_
      have a1 : σ1[1]? = some ⟨[.d (DB (decide (n < 0))), x0], 0⟩ := by rw [k1 1 (fun e => by have := id0 _ e; omega) (by simp; omega), List.getElem?_append_left g2]; exact g1
      refine KT.step rfl rfl (K.fieldAddrO rfl Try.fld87_1 Try.size85) ?_
      refine KT.storeG rfl rfl rfl rfl a1 (by simp) ho1.cells.1 ho1.cells.2 Try.size85 fun σ2 l2 u2 v2 => ?_
      refine KT.nil ?_
      refine blockK_n ?_
      refine thenK_n ?_
      refine KC.region ?_
      refine KT.step rfl rfl (K.move rfl) ?_
      refine KT.step rfl rfl (K.shrU (b := 32) rfl rfl (by decide)) ?_
      refine KT.step rfl rfl (K.assign rfl) ?_
      refine KT.nil ?_
      refine thenK_n ?_
      refine ⟨(σ2, x1, m / B, l ++ [m % B]), ⟨?_, u2, ?_, ?_, ?_, ?_, ?_, ?_⟩, ?_, rfl, by simp [Go.Vm.look, extK, B]⟩
      · rw [v2 0 (by omega), k1 0 (fun e => by have := id0 _ e; omega) (by simp), List.getElem?_append_left (by omega)]; exact h0
      · have e1 : digX (l ++ [m % B]) = digX l ++ [.d (U32 (m % B))] := by simp [digX]
        simp only [e1]
        exact ho1.keep fun j hj => v2 j (by obtain ⟨j', a1, a2⟩ := w1; rw [a1] at hj; cases hj; simp at a2; omega)
      · intro j hj; obtain ⟨j', a1, a2⟩ := w1; rw [a1] at hj; cases hj; simp at a2; omega
      · intro e; simp at e
      · simp only
        rw [val_append, List.length_append, List.length_singleton, Nat.pow_succ]
        have := Nat.mod_add_div m B
        generalize m % B = r at this ⊢
        generalize m / B = q at this ⊢
        subst this
        simp only [val]
        rw [← hsum]; grind
      · intro d hd; rw [List.mem_append] at hd; rcases hd with hd | hd
        · exact hdig d hd
        · simp at hd; subst hd; exact Nat.mod_lt _ (by decide)
      · simp only
        intro e _
        have hlt : m < B := by
          rcases Nat.lt_or_ge m B with h | h
          · exact h
          · have h9 := Nat.div_pos h (show 0 < B by decide)
            rw [e] at h9; omega
        have h8 : m % B = m := Nat.mod_eq_of_lt hlt
        simp [h8]; omega
      · simp only
        exact Nat.div_lt_self (by omega) (by decide)
    · skip
      replace hc15 := of_decide_eq_false hc15
      obtain rfl : m = 0 := by omega
      obtain rfl : l = dig2 n.natAbs := dig2_uniq (by simp only [B]; omega) (by simpa using hsum) hdig (hcan rfl)
      refine KC.exit ?_
      refine thenK_x ?_
      refine thenK_x ?_
      refine blockK_e ?_
      refine thenK_n ?_
      refine KC.seq ?_
      refine KC.region ?_
      refine KT.step rfl rfl (K.loadOAgg (m := 2) rfl g1 (by simp) Try.agg87 Try.size87 (by simp)) ?_
      refine KT.step rfl rfl (K.storeN (v := aggX [.d (DB (decide (n < 0))), x0]) rfl rfl h0 (by rw [cellsX_aggX]; simp) (by rw [cellsX_aggX]; simp only [List.all_cons, own.cells.2]; rfl) (by rw [cellsX_aggX]; exact Try.size87)) ?_
      refine KT.nil ?_
      refine thenK_n ?_
      refine KC.ret ?_
      rw [cellsX_aggX]
      refine ⟨.inl rfl, _, resK_agg (m := 2) rfl rfl (by rw [List.getElem?_set, if_pos rfl, if_pos (List.getElem?_eq_some_iff.1 h0).1]) (by simp) Try.agg87 Try.size87 (by simp [splice]), ?_⟩
      have own' : OwnK 1 (σ0.set 0 ⟨splice [.d (DB false), .d Dnil] 0 [.d (DB (decide (n < 0))), x0], 0⟩) x0 (digX (dig2 n.natAbs)) := own.keep fun j hj => by rw [List.getElem?_set, if_neg (fun e => by have := id0 j hj; omega)]
      rw [show (List.take 2 (List.drop 0 (splice [XV.d (DB false), .d Dnil] 0 [.d (DB (decide (n < 0))), x0]))) = [.d (DB (decide (n < 0))), x0] from rfl, deepen_aggX, List.mapM_cons, List.mapM_cons, deep_dig own' nil]
      rfl
  · skip
    replace hc11 := of_decide_eq_false hc11
    have e64 : Int.toNat (n % (2 : Int) ^ 64) = n.natAbs := by omega
    rw [e64]
    refine KC.skip ?_
    refine thenK_n ?_
    refine KC.seq ?_
    refine KC.block ?_
    refine KC.loop (fun p : List VObj × XV × Nat × List Nat => p.1) (fun p => [(2, .optr 0 0), (3, .optr 1 0), (4, .d (U p.2.2.1))]) (fun p => NumI (decide (n < 0)) n.natAbs p.1 p.2.1 p.2.2.1 p.2.2.2) (fun p => p.2.2.1) ([⟨[.d (DB false), .d Dnil], 0⟩, ⟨[.d (DB (decide (n < 0))), .d Dnil], 0⟩], .d Dnil, n.natAbs, []) ⟨rfl, rfl, .nil, (fun j h => by cases h), fun _ => rfl, by simp [val], fun d h => by simp at h, fun _ h => by simp at h⟩ rfl (by simp [Go.Vm.look, extK, enterK]) ?_
    intro p hp
    obtain ⟨σ0, x0, m, l⟩ := p
    obtain ⟨h0, g1, own, id0, nil, hsum, hdig, hcan⟩ := hp
    simp only at h0 g1 own id0 nil hsum hdig hcan ⊢
    have hmN : m < 2 ^ 64 := by
      have : 1 * m ≤ B ^ l.length * m := Nat.mul_le_mul_right _ (pow_pos' _)
      omega
    refine KC.seq ?_
    refine KC.seq ?_
    refine KC.region ?_
    refine KT.step rfl rfl (K.move rfl) ?_
    refine KT.step rfl rfl (K.gtr rfl rfl) ?_
    refine KT.nil ?_
    refine thenK_n ?_
    refine KC.cond rfl (fun hc15 => ?_) (fun hc15 => ?_)
    · skip
      replace hc15 := of_decide_eq_true hc15
      have hm0 : 0 < m := by omega
      have g2 := (List.getElem?_eq_some_iff.1 g1).1
      have hll : l.length ≤ 100 := by
        rcases Nat.lt_or_ge 100 l.length with h | h
        · exfalso
          have a1 : B ^ 100 ≤ B ^ l.length := Nat.pow_le_pow_right (by decide) (by omega)
          have a2 : B ^ l.length * 1 ≤ B ^ l.length * m := Nat.mul_le_mul_left _ hm0
          have a3 : 2 ^ 64 < B ^ 100 := by decide
          omega
        · exact h
      refine KC.skip ?_
      refine thenK_n ?_
      refine KC.seq ?_
      refine KC.block ?_
      refine KC.region ?_
      refine KT.step rfl rfl (K.fieldAddrO rfl Try.fld87_1 Try.size85) ?_
      refine KT.step rfl rfl (K.loadO rfl g1 (by simp) rfl Try.agg85) ?_
      refine KT.step rfl rfl (K.move rfl) ?_
      refine KT.step rfl rfl (K.conv rfl Try.underlying103 Try.underlying96 (wrapU32 _)) ?_
      refine KT.step rfl rfl (K.build1' (v := .d (U32 (m % B))) rfl rfl Try.underlying85 Try.one96) ?_
      refine KT.appK (k := 1) (vs := [.d (U32 (m % B))]) rfl rfl rfl rfl (own.pushed _) (by simp) rfl rfl (by simp [digX]; omega) Try.underlying85 Try.size96 bytes96 cells96 (by omega) fun σ1 x1 ho1 k1 w1 => ?_
      have a1 : σ1[1]? = some ⟨[.d (DB (decide (n < 0))), x0], 0⟩ := by rw [k1 1 (fun e => by have := id0 _ e; omega) (by simp; omega), List.getElem?_append_left g2]; exact g1
      refine KT.step rfl rfl (K.fieldAddrO rfl Try.fld87_1 Try.size85) ?_
      refine KT.storeG rfl rfl rfl rfl a1 (by simp) ho1.cells.1 ho1.cells.2 Try.size85 fun σ2 l2 u2 v2 => ?_
      refine KT.nil ?_
      refine blockK_n ?_
      refine thenK_n ?_
      refine KC.region ?_
      refine KT.step rfl rfl (K.move rfl) ?_
      refine KT.step rfl rfl (K.shrU (b := 32) rfl rfl (by decide)) ?_
      refine KT.step rfl rfl (K.assign rfl) ?_
      refine KT.nil ?_
      refine thenK_n ?_
      refine ⟨(σ2, x1, m / B, l ++ [m % B]), ⟨?_, u2, ?_, ?_, ?_, ?_, ?_, ?_⟩, ?_, rfl, by simp [Go.Vm.look, extK, B]⟩
      · rw [v2 0 (by omega), k1 0 (fun e => by have := id0 _ e; omega) (by simp), List.getElem?_append_left (by omega)]; exact h0
      · have e1 : digX (l ++ [m % B]) = digX l ++ [.d (U32 (m % B))] := by simp [digX]
        simp only [e1]
        exact ho1.keep fun j hj => v2 j (by obtain ⟨j', a1, a2⟩ := w1; rw [a1] at hj; cases hj; simp at a2; omega)
      · intro j hj; obtain ⟨j', a1, a2⟩ := w1; rw [a1] at hj; cases hj; simp at a2; omega
      · intro e; simp at e
      · simp only
        rw [val_append, List.length_append, List.length_singleton, Nat.pow_succ]
        have := Nat.mod_add_div m B
        generalize m % B = r at this ⊢
        generalize m / B = q at this ⊢
        subst this
        simp only [val]
        rw [← hsum]; grind
      · intro d hd; rw [List.mem_append] at hd; rcases hd with hd | hd
        · exact hdig d hd
        · simp at hd; subst hd; exact Nat.mod_lt _ (by decide)
      · simp only
        intro e _
        have hlt : m < B := by
          rcases Nat.lt_or_ge m B with h | h
          · exact h
          · have h9 := Nat.div_pos h (show 0 < B by decide)
            rw [e] at h9; omega
        have h8 : m % B = m := Nat.mod_eq_of_lt hlt
        simp [h8]; omega
      · simp only
        exact Nat.div_lt_self (by omega) (by decide)
    · skip
      replace hc15 := of_decide_eq_false hc15
      obtain rfl : m = 0 := by omega
      obtain rfl : l = dig2 n.natAbs := dig2_uniq (by simp only [B]; omega) (by simpa using hsum) hdig (hcan rfl)
      refine KC.exit ?_
      refine thenK_x ?_
      refine thenK_x ?_
      refine blockK_e ?_
      refine thenK_n ?_
      refine KC.seq ?_
      refine KC.region ?_
      refine KT.step rfl rfl (K.loadOAgg (m := 2) rfl g1 (by simp) Try.agg87 Try.size87 (by simp)) ?_
      refine KT.step rfl rfl (K.storeN (v := aggX [.d (DB (decide (n < 0))), x0]) rfl rfl h0 (by rw [cellsX_aggX]; simp) (by rw [cellsX_aggX]; simp only [List.all_cons, own.cells.2]; rfl) (by rw [cellsX_aggX]; exact Try.size87)) ?_
      refine KT.nil ?_
      refine thenK_n ?_
      refine KC.ret ?_
      rw [cellsX_aggX]
      refine ⟨.inl rfl, _, resK_agg (m := 2) rfl rfl (by rw [List.getElem?_set, if_pos rfl, if_pos (List.getElem?_eq_some_iff.1 h0).1]) (by simp) Try.agg87 Try.size87 (by simp [splice]), ?_⟩
      have own' : OwnK 1 (σ0.set 0 ⟨splice [.d (DB false), .d Dnil] 0 [.d (DB (decide (n < 0))), x0], 0⟩) x0 (digX (dig2 n.natAbs)) := own.keep fun j hj => by rw [List.getElem?_set, if_neg (fun e => by have := id0 j hj; omega)]
      rw [show (List.take 2 (List.drop 0 (splice [XV.d (DB false), .d Dnil] 0 [.d (DB (decide (n < 0))), x0]))) = [.d (DB (decide (n < 0))), x0] from rfl, deepen_aggX, List.mapM_cons, List.mapM_cons, deep_dig own' nil]
      rfl
end Go.Proofs.Ytlomhajhoecoiaa
