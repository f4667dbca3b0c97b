import Derived.Test.YtdilkpcnkhedlaaBbB
import Derived.Test.YtdilkpcnkhedlaaBbA
import Derived.Test.YtdilkpcnkhedlaaBbM
import Derived.Test.YtdilkpcnkhedlaaVmZm
/-
  Batch: jobs in reverse order.
-/
namespace Go.Proofs.Ytdilkpcnkhedlaa
open Go.Vm Go.Ht Go.Ba
theorem plainTry_41 : plainFn Try.prog 41 = true := by kernel_rfl
theorem plainTry_42 : plainFn Try.prog 42 = true := by kernel_rfl
theorem plainTry_12 : plainFn Try.prog 12 = true := by kernel_rfl
/-- An own copy of a row of pairs. -/
def RowX (lo : Nat) (σ : List VObj) (x : XV) (ks : List (Int × Int)) : Prop :=
  (x = .d Dnil ∧ ks = []) ∨ ∃ id ex, x = .osl id 0 ks.length 2 ks.length ex ∧ σ[id]? = some ⟨(ks.flatMap c2).map .d, 0⟩ ∧ lo ≤ id
set_option maxRecDepth 10000 in
theorem clone41_nil {M : Nat → Prop} {W0 : World} {σ : List VObj} : InCall Try.prog M W0 41 σ [.d Dnil] (fun σ2 x2 => (∀ j, j < σ.length → σ2[j]? = σ[j]?) ∧ RowX σ.length σ2 x2 []) := by
  refine inCall_K Try.func41 rfl (Nat.le_of_ble_eq_true rfl) ?_
  refine KC.seq ?_
  refine KC.region ?_
  refine KT.step rfl rfl (K.assign rfl) ?_
  refine KT.nil ?_
  refine thenK_n ?_
  refine KC.seq ?_
  refine KC.seq ?_
  refine KC.region ?_
  refine KT.step rfl rfl (K.move rfl) ?_
  refine KT.step rfl rfl (K.eqNilNil rfl Try.underlying70) ?_
  refine KT.nil ?_
  refine thenK_n ?_
  refine KC.cond rfl (fun hc4 => ?_) (fun hc4 => ?_)
  · skip
    refine KC.seq ?_
    refine KC.region ?_
    refine KT.step rfl rfl (K.assign rfl) ?_
    refine KT.nil ?_
    refine thenK_n ?_
    refine KC.ret ?_
    refine thenK_r ?_
    exact ⟨.inl rfl, _, rfl, fun _ _ => rfl, .inl ⟨rfl, rfl⟩⟩
  · cases hc4
set_option maxRecDepth 10000 in
theorem clone41_zero {M : Nat → Prop} {W0 : World} {σ : List VObj} {cap : Option Nat} : InCall Try.prog M W0 41 σ [.d (.sl [] 0 cap)] (fun σ2 x2 => (∀ j, j < σ.length → σ2[j]? = σ[j]?) ∧ RowX σ.length σ2 x2 []) := by
  refine inCall_K Try.func41 rfl (Nat.le_of_ble_eq_true rfl) ?_
  refine KC.seq ?_
  refine KC.region ?_
  refine KT.step rfl rfl (K.assign rfl) ?_
  refine KT.nil ?_
  refine thenK_n ?_
  refine KC.seq ?_
  refine KC.seq ?_
  refine KC.region ?_
  refine KT.step rfl rfl (K.move rfl) ?_
  refine KT.step rfl rfl (K.eqNil rfl Try.underlying70) ?_
  refine KT.nil ?_
  refine thenK_n ?_
  refine KC.cond rfl (fun hc4 => ?_) (fun hc4 => ?_)
  · cases hc4
  · skip
    refine KC.skip ?_
    refine thenK_n ?_
    refine KC.seq ?_
    refine KC.region ?_
    refine KT.step rfl rfl (K.build0P Try.underlying70 Try.size73 Try.zero73) ?_
    refine KT.step rfl rfl (K.move rfl) ?_
    refine KT.step rfl rfl (K.append0 rfl rfl Try.underlying70 Try.size73) ?_
    refine KT.step rfl rfl (K.assign rfl) ?_
    refine KT.nil ?_
    refine thenK_n ?_
    refine KC.ret ?_
    exact ⟨.inl rfl, _, rfl, fun j hj => List.getElem?_append_left hj, .inr ⟨σ.length, true, rfl, by simp, Nat.le_refl _⟩⟩
set_option maxRecDepth 10000 in
theorem clone41_all {M : Nat → Prop} {W0 : World} {σ : List VObj} {ks : List (Int × Int)} {cap : Option Nat} (h0 : ks.length ≠ 0) (hl : ks.length ≤ 1048576) : InCall Try.prog M W0 41 σ [.d (.sl (ks.flatMap c2) ks.length cap)] (fun σ2 x2 => (∀ j, j < σ.length → σ2[j]? = σ[j]?) ∧ RowX σ.length σ2 x2 ks) := by
  refine inCall_K Try.func41 rfl (Nat.le_of_ble_eq_true rfl) ?_
  refine KC.seq ?_
  refine KC.region ?_
  refine KT.step rfl rfl (K.assign rfl) ?_
  refine KT.nil ?_
  refine thenK_n ?_
  refine KC.seq ?_
  refine KC.seq ?_
  refine KC.region ?_
  refine KT.step rfl rfl (K.move rfl) ?_
  refine KT.step rfl rfl (K.eqNil rfl Try.underlying70) ?_
  refine KT.nil ?_
  refine thenK_n ?_
  refine KC.cond rfl (fun hc4 => ?_) (fun hc4 => ?_)
  · cases hc4
  · skip
    refine KC.skip ?_
    refine thenK_n ?_
    refine KC.seq ?_
    refine KC.region ?_
    refine KT.step rfl rfl (K.build0P Try.underlying70 Try.size73 Try.zero73) ?_
    refine KT.step rfl rfl (K.move rfl) ?_
    refine KT.step rfl rfl (K.appAllP rfl rfl (List.getElem?_concat_length ..) (flat_len c2_len ks) (flat_one ks) h0 (by omega) Try.underlying70 Try.size73 (of_decide_eq_true (by kernel_rfl)) (by kernel_rfl)) ?_
    refine KT.step rfl rfl (K.assign rfl) ?_
    refine KT.nil ?_
    refine thenK_n ?_
    refine KC.ret ?_
    exact ⟨.inl rfl, _, rfl, fun j hj => by rw [List.append_assoc, List.getElem?_append_left hj], .inr ⟨_, false, rfl, (List.getElem?_concat_length ..), by simp⟩⟩
theorem clone41 {M : Nat → Prop} {W0 : World} {σ : List VObj} {d : DV} {ks : List (Int × Int)} (hd : PrD d ks) (hl : ks.length ≤ 1048576) : InCall Try.prog M W0 41 σ [.d d] (fun σ2 x2 => (∀ j, j < σ.length → σ2[j]? = σ[j]?) ∧ RowX σ.length σ2 x2 ks) := by
  cases hd with
  | nil => exact clone41_nil
  | sl =>
    by_cases h0 : ks.length = 0
    · have : ks = [] := List.length_eq_zero_iff.1 h0
      subst this; exact clone41_zero
    · exact clone41_all h0 hl
set_option maxHeartbeats 1000000 in
set_option maxRecDepth 10000 in
theorem rev42 {σ : List VObj} {id : Nat} {ex : Bool} {ks : List (Int × Int)} (ho : σ[id]? = some ⟨(ks.flatMap c2).map .d, 0⟩) (hn : ks.length ≤ 1048576) : OwnCall Try.prog 42 σ [.osl id 0 ks.length 2 ks.length ex] (σ.set id ⟨(ks.reverse.flatMap c2).map .d, 0⟩) (.tup []) := by
  refine ownCall_K Try.func42 rfl (Nat.le_of_ble_eq_true rfl) fun M W0 => ?_
  refine KC.seq ?_
  refine KC.region ?_
  refine KT.step rfl rfl (K.move rfl) ?_
  refine KT.step rfl rfl (K.lenO rfl Try.underlying70) ?_
  refine KT.step rfl rfl (K.sub rfl rfl (wrap_id (by omega))) ?_
  refine KT.step rfl rfl (K.assign rfl) ?_
  refine KT.step rfl rfl (K.assign rfl) ?_
  refine KT.nil ?_
  refine thenK_n ?_
  refine KC.block ?_
  have h0 : σ = σ.set id ⟨(ks.flatMap c2).map .d, 0⟩ := by rw [Go.Vm.set_same ho]
  refine KC.loop (fun p : Nat × List (Int × Int) => σ.set id ⟨(p.2.flatMap c2).map .d, 0⟩) (fun p => [(0, .osl id 0 ks.length 2 ks.length ex), (2, .d (DI (p.1 : Nat))), (3, .d (DI ((ks.length : Int) - 1 - p.1)))]) (fun p => 2 * p.1 ≤ ks.length + 1 ∧ p.2.length = ks.length ∧ (∀ j, p.2[j]? = if j < p.1 ∨ ks.length ≤ j + p.1 then ks.reverse[j]? else ks[j]?)) (fun p => ks.length - p.1) (0, ks) ⟨Nat.zero_le _, rfl, fun j => by
    by_cases h : ks.length ≤ j
    · rw [if_pos (.inr (by simpa using h)), List.getElem?_eq_none h, List.getElem?_eq_none (by simpa using h)]
    · rw [if_neg (by simp; omega)]⟩ h0 (by simp [Go.Vm.look, extK, enterK]) ?_
  intro p hp
  obtain ⟨k, cs⟩ := p
  obtain ⟨hk, hlen, hget⟩ := hp
  simp only at hk hlen hget ⊢
  refine KC.seq ?_
  refine KC.seq ?_
  refine KC.region ?_
  refine KT.step rfl rfl (K.move rfl) ?_
  refine KT.step rfl rfl (K.move rfl) ?_
  refine KT.step rfl rfl (K.lss rfl rfl) ?_
  refine KT.nil ?_
  refine thenK_n ?_
  refine KC.cond rfl (fun hc9 => ?_) (fun hc9 => ?_)
  · skip
    replace hc9 := of_decide_eq_true hc9
    have hk2 : 2 * k + 1 < ks.length := by omega
    refine KC.skip ?_
    refine thenK_n ?_
    refine KC.seq ?_
    refine KC.block ?_
    refine KC.draw Try.mixed ?_
    refine KT.step rfl rfl (K.move rfl) ?_
    refine KT.step rfl rfl (K.move rfl) ?_
    refine KT.step rfl rfl (K.move rfl) ?_
    refine KT.step rfl rfl (K.move rfl) ?_
    refine KT.step rfl rfl (K.move rfl) ?_
    refine KT.step rfl rfl (K.move rfl) ?_
    refine KT.step rfl rfl (K.idxOK (m := ks.length - 1 - k) (k := 2) rfl (by exact congrArg (fun z => some (XV.d (DI z))) (show (ks.length : Int) - 1 - (k : Int) = ((ks.length - 1 - k : Nat) : Int) by omega)) (by omega) Try.underlying70 Try.size73) ?_
    refine KT.step rfl rfl (K.loadEl rfl (List.getElem?_set_self (lt_of_get ho)) (by omega) Try.agg73 Try.size73) ?_
    refine KT.step rfl rfl (K.move rfl) ?_
    refine KT.step rfl rfl (K.move rfl) ?_
    refine KT.step rfl rfl (K.idxOK (m := k) (k := 2) rfl rfl (by omega) Try.underlying70 Try.size73) ?_
    refine KT.step rfl rfl (K.loadEl rfl (List.getElem?_set_self (lt_of_get ho)) (by omega) Try.agg73 Try.size73) ?_
    refine KT.step rfl rfl (K.idxOK (m := k) (k := 2) rfl rfl (by omega) Try.underlying70 Try.size73) ?_
    refine KT.step rfl rfl (K.storeEl rfl rfl (List.getElem?_set_self (lt_of_get ho)) (by omega) Try.size73) ?_
    refine KT.step rfl rfl (K.idxOK (m := ks.length - 1 - k) (k := 2) rfl (by exact congrArg (fun z => some (XV.d (DI z))) (show (ks.length : Int) - 1 - (k : Int) = ((ks.length - 1 - k : Nat) : Int) by omega)) (by omega) Try.underlying70 Try.size73) ?_
    refine KT.step rfl rfl (K.storeEl rfl rfl (List.getElem?_set_self (by rw [List.length_set]; exact lt_of_get ho)) (by rw [List.length_set]; omega) Try.size73) ?_
    refine KT.nil ?_
    refine ⟨by kernel_rfl, ?_⟩
    refine blockK_n ?_
    refine thenK_n ?_
    refine KC.region ?_
    refine KT.step rfl rfl (K.move rfl) ?_
    refine KT.step rfl rfl (K.add rfl rfl (wrap_id (by omega))) ?_
    refine KT.step rfl rfl (K.move rfl) ?_
    refine KT.step rfl rfl (K.sub rfl rfl (wrap_id (by omega))) ?_
    refine KT.step rfl rfl (K.assign rfl) ?_
    refine KT.step rfl rfl (K.assign rfl) ?_
    refine KT.nil ?_
    refine thenK_n ?_
    refine ⟨(k + 1, (cs.set k cs[ks.length - 1 - k]).set (ks.length - 1 - k) cs[k]), ⟨by simp only; omega, by simp; exact hlen, fun j => ?_⟩, by simp only; omega, ?_, by simp [Go.Vm.look, extK]; omega⟩
    · simp only
      have g1 : cs[k]? = ks[k]? := by rw [hget k, if_neg (by omega)]
      have g2 : cs[ks.length - 1 - k]? = ks[ks.length - 1 - k]? := by rw [hget _, if_neg (by omega)]
      rw [List.getElem?_set, List.getElem?_set, List.length_set]
      by_cases e1 : ks.length - 1 - k = j
      · rw [if_pos e1, if_pos (by omega), if_pos (by omega)]
        rw [← List.getElem?_eq_getElem (by omega), g1, List.getElem?_reverse (by omega)]
        congr 1; omega
      · rw [if_neg e1]
        by_cases e2 : k = j
        · rw [if_pos e2, if_pos (by omega), if_pos (by omega)]
          rw [← List.getElem?_eq_getElem (by omega), g2, List.getElem?_reverse (by omega)]
          congr 1; omega
        · rw [if_neg e2, hget j]
          by_cases h : j < k ∨ ks.length ≤ j + k
          · rw [if_pos h, if_pos (by omega)]
          · rw [if_neg h, if_neg (by omega)]
    · rw [List.set_set, List.set_set]
  · skip
    replace hc9 := of_decide_eq_false hc9
    refine KC.exit ?_
    refine thenK_x ?_
    refine thenK_x ?_
    refine blockK_e ?_
    refine ⟨.inr rfl, rfl, ?_⟩
    have e : cs = ks.reverse := by
      apply List.ext_getElem?
      intro j
      rw [hget j]
      by_cases h : j < k ∨ ks.length ≤ j + k
      · rw [if_pos h]
      · rw [if_neg h, List.getElem?_reverse (by omega)]
        congr 1; omega
    rw [e]
set_option maxRecDepth 10000 in
theorem rev_nil : DeepCall Try.prog 42 [Dnil] (.tup []) := by
  refine deepCall_K 5 Try.func42 rfl (Nat.le_of_ble_eq_true rfl) fun M W0 => ?_
  refine KC.seq ?_
  refine KC.region ?_
  refine KT.step rfl rfl (K.move rfl) ?_
  refine KT.step rfl rfl (K.len (R := IsI) (l := []) rfl .nil Try.underlying70) ?_
  refine KT.step rfl rfl (K.sub rfl rfl (c := -1) rfl) ?_
  refine KT.step rfl rfl (K.assign rfl) ?_
  refine KT.step rfl rfl (K.assign rfl) ?_
  refine KT.nil ?_
  refine thenK_n ?_
  refine KC.block ?_
  refine KC.loop (fun _ : Nat => []) (fun _ => [(2, .d (DI 0)), (3, .d (DI (-1)))]) (fun _ => True) (fun _ => 0) 0 trivial rfl (by simp [Go.Vm.look, extK, enterK]) ?_
  intro k hk
  refine KC.seq ?_
  refine KC.seq ?_
  refine KC.region ?_
  refine KT.step rfl rfl (K.move rfl) ?_
  refine KT.step rfl rfl (K.move rfl) ?_
  refine KT.step rfl rfl (K.lss rfl rfl) ?_
  refine KT.nil ?_
  refine thenK_n ?_
  refine KC.cond rfl (fun hc9 => ?_) (fun hc9 => ?_)
  · skip
    exact absurd (of_decide_eq_true hc9) (by decide)
  · skip
    replace hc9 := of_decide_eq_false hc9
    refine KC.exit ?_
    refine thenK_x ?_
    refine thenK_x ?_
    refine blockK_e ?_
    exact ⟨.inr rfl, _, rfl, rfl⟩
/-- The jobs that the law reverses. -/
def dsV (ds : List DV) : DV := match ds with | [] => Dnil | _ => .sl ds ds.length none
theorem dsV_ok {ds : List DV} {L : List (List (Int × Int))} (hl : ds.length = L.length) (h : ∀ k (h1 : k < ds.length) (h2 : k < L.length), PrD ds[k] L[k]) : JbD (dsV ds) L := by
  cases ds with
  | nil =>
    have : L = [] := List.length_eq_zero_iff.1 hl.symm
    subst this; exact .nil
  | cons d ds =>
    show JbD (.sl (d :: ds) (d :: ds).length none) L
    rw [hl]
    exact .sl hl fun i c y hc hy => by
      have h1 := (List.getElem?_eq_some_iff.1 hc).1
      have h2 := (List.getElem?_eq_some_iff.1 hy).1
      rw [List.getElem?_eq_getElem h1] at hc
      rw [List.getElem?_eq_getElem h2] at hy
      cases hc; cases hy
      exact h i h1 h2
theorem own_tellD {σ : List VObj} {x : XV} {ds : List DV} {N : Int} (h : OwnK 1 σ x (ds.map .d)) (hne : ds = [] → x = .d Dnil) : ∃ ids, deepen (freezeIds σ ids) 6 (aggX [.d (DI N), x]) = some (.agg [DI N, dsV ds]) := by
  cases ds with
  | nil => rw [hne rfl]; exact ⟨[], rfl⟩
  | cons d ds =>
    generalize hc : (d :: ds).map XV.d = cs at h
    have hcl := congrArg List.length hc
    rw [List.length_map] at hcl
    cases h with
    | nil => simp at hcl
    | @sl id n cells h hn =>
      subst hc
      rw [List.length_map, Nat.mul_one] at hn
      refine ⟨[id], ?_⟩
      show (([.d (DI N), .osl id 0 n 1 n false] : List XV).mapM (deepen (freezeIds σ [id]) 5)).map DV.agg = _
      rw [List.mapM_cons, List.mapM_cons, dfn3 h hn, ← hn]; rfl
theorem bs_take {N : Int} {J : List (List (Int × Int))} : bsN N (revJ (J.take 5)) = bsN N J ∧ bsE N (revJ (J.take 5)) = bsE N J := by
  rw [rev_bs.1, rev_bs.2]
  by_cases h : J.length ≤ 5
  · rw [List.take_of_length_le h]; exact ⟨rfl, rfl⟩
  · have e1 : shopB N J = false := by
      rw [← Bool.not_eq_true, shopB_iff]
      intro hS
      have := hS.j3
      omega
    have e2 : shopB N (J.take 5) = false := by
      rw [← Bool.not_eq_true, shopB_iff]
      intro hS
      have := hS.j3
      rw [List.length_take] at this
      omega
    obtain ⟨a, b, _⟩ := bs_no e1
    obtain ⟨a2, b2, _⟩ := bs_no e2
    rw [a, b, a2, b2]; exact ⟨rfl, rfl⟩
set_option maxHeartbeats 2000000 in
set_option maxRecDepth 10000 in
theorem law12 {N : Int} {jd : DV} {J : List (List (Int × Int))} (hd : JbD jd J) (hl : J.length ≤ 9223372036854775807) (hr : ∀ j ∈ J, j.length ≤ 9223372036854775807) (hM : ∀ j ∈ J, j.length ≤ 1048576) : DeepCall Try.prog 12 [.agg [DI N, jd]] (DB true) := by
  refine deepCall_K 5 Try.func12 rfl (Nat.le_of_ble_eq_true rfl) fun M W0 => ?_
  refine KC.seq ?_
  refine KC.region ?_
  refine KT.step rfl rfl (K.box rfl) ?_
  refine KT.step rfl rfl (K.assign rfl) ?_
  refine KT.nil ?_
  refine thenK_n ?_
  refine KC.seq ?_
  refine KC.region ?_
  refine KT.step rfl rfl (K.loadOA [DI N, jd] rfl rfl (by decide) Try.agg24 Try.size24 rfl) ?_
  refine KT.step rfl rfl (K.call1 rfl plainTry_17 (of17 hd hl hr)) ?_
  refine KT.step rfl rfl (K.call1 rfl plainTry_24 (best_cut (N := N))) ?_
  refine KT.step rfl rfl (K.move rfl) ?_
  refine KT.step rfl rfl (K.extract rfl rfl) ?_
  refine KT.step rfl rfl (K.extract rfl rfl) ?_
  refine KT.step rfl rfl (K.extract rfl rfl) ?_
  refine KT.step rfl rfl (K.assign rfl) ?_
  refine KT.step rfl rfl (K.assign rfl) ?_
  refine KT.step rfl rfl (K.assign rfl) ?_
  refine KT.nil ?_
  refine thenK_n ?_
  refine KC.seq ?_
  refine KC.region ?_
  refine KT.step rfl rfl (K.alloc Try.zero24) ?_
  refine KT.nil ?_
  refine thenK_n ?_
  refine KC.seq ?_
  refine KC.region ?_
  refine KT.step rfl rfl (K.fieldAddrO rfl Try.fld24_0 Try.size3) ?_
  refine KT.step rfl rfl (K.loadO (y := .d (DI N)) rfl rfl (by simp) rfl Try.agg3) ?_
  refine KT.step rfl rfl (K.fieldAddrO rfl Try.fld24_0 Try.size3) ?_
  refine KT.step rfl rfl (K.storeO (cells := [.d (DI 0), .d Dnil]) rfl rfl rfl (by simp) rfl rfl Try.size3) ?_
  refine KT.nil ?_
  refine thenK_n ?_
  refine KC.seq ?_
  refine KC.seq ?_
  refine KC.region ?_
  refine KT.step rfl rfl (K.fieldAddrO rfl Try.fld24_1 Try.size22) ?_
  refine KT.step rfl rfl (K.loadO (y := .d jd) rfl rfl (by simp) rfl Try.agg22) ?_
  refine KT.step rfl rfl (K.len rfl hd Try.underlying22) ?_
  refine KT.step rfl rfl (K.move rfl) ?_
  refine KT.nil ?_
  refine thenK_n ?_
  refine KC.block ?_
  refine KC.loop (fun p : List VObj × XV × List DV × Nat => p.1) (fun p => [(4, .d (DI (bsN N J))), (5, .d (DI (bsE N J))), (6, .optr 1 0), (23, .d jd), (24, .d (DI (J.length : Nat))), (25, .d (DI (p.2.2.2 : Nat)))]) (fun p => p.2.2.2 ≤ J.length ∧ p.2.2.2 ≤ 5 ∧ p.1[1]? = some ⟨[.d (DI N), p.2.1], 0⟩ ∧ OwnK 1 p.1 p.2.1 (p.2.2.1.map .d) ∧ (∀ j, idX p.2.1 = some j → 2 ≤ j) ∧ (p.2.2.1 = [] → p.2.1 = .d Dnil) ∧ p.2.2.1.length = p.2.2.2 ∧ ∀ k (h1 : k < p.2.2.1.length) (h2 : k < J.length), PrD p.2.2.1[k] J[k].reverse) (fun p => J.length - p.2.2.2) (_, .d Dnil, [], 0) ⟨Nat.zero_le _, Nat.zero_le _, rfl, .nil, fun j hj => (by cases hj), fun _ => rfl, rfl, fun k h1 => (by simp at h1)⟩ rfl (by simp [Go.Vm.look, extK, enterK]) ?_
  intro p hp
  obtain ⟨σ0, x0, ds, i⟩ := p
  obtain ⟨hi, hi5', y1, o0, d0, n0, hdl, hds⟩ := hp
  simp only at hi hi5' y1 o0 d0 n0 hdl hds ⊢
  refine KC.seq ?_
  refine KC.region ?_
  refine KT.step rfl rfl (K.lss rfl rfl) ?_
  refine KT.nil ?_
  refine thenK_n ?_
  refine KC.seq ?_
  refine KC.cond rfl (fun hc26 => ?_) (fun hc26 => ?_)
  · skip
    replace hc26 := of_decide_eq_true hc26
    have hil : i < J.length := by omega
    have hri := hM _ (List.getElem_mem hil)
    refine KC.skip ?_
    refine thenK_n ?_
    refine KC.seq ?_
    refine KC.block ?_
    refine KC.seq ?_
    refine KC.region ?_
    refine KT.step rfl rfl (K.move rfl) ?_
    refine KT.idx rfl rfl rfl hd rfl (by omega) Try.underlying22 Try.size70 fun c28 cs28 hj => ?_
    refine KT.step rfl rfl (K.load rfl Try.agg70) ?_
    refine KT.step rfl rfl (K.assign rfl) ?_
    refine KT.step rfl rfl (K.assign rfl) ?_
    refine KT.nil ?_
    refine thenK_n ?_
    refine KC.seq ?_
    refine KC.seq ?_
    refine KC.region ?_
    refine KT.step rfl rfl (K.move rfl) ?_
    refine KT.step rfl rfl (K.gtr rfl rfl) ?_
    refine KT.nil ?_
    refine thenK_n ?_
    refine KC.cond rfl (fun hc31 => ?_) (fun hc31 => ?_)
    · skip
      replace hc31 := of_decide_eq_true hc31
      refine KC.exit ?_
      refine thenK_x ?_
      refine blockK_x (by decide) ?_
      refine thenK_x ?_
      refine thenK_x ?_
      refine blockK_e ?_
      refine thenK_n ?_
      refine KC.seq ?_
      refine KC.region ?_
      have eex : i = J.length ∨ i = 5 := by omega
      have hti : J.take i = J.take 5 := by
        rcases eex with e | e
        · rw [e, List.take_of_length_le (Nat.le_refl _), List.take_of_length_le (by omega)]
        · rw [e]
      have hJb : JbD (dsV ds) (revJ (J.take 5)) := by
        rw [← hti]
        refine dsV_ok (by unfold revJ; rw [List.length_map, List.length_take]; omega) fun k h1 h2 => ?_
        simp only [revJ, List.getElem_map, List.getElem_take]
        exact hds k h1 (by omega)
      refine KT.step rfl rfl (K.loadOAgg (m := 2) (ob := ⟨[.d (DI N), x0], 0⟩) rfl y1 (by simp) Try.agg24 Try.size24 (by simp)) ?_
      obtain ⟨ids, hdp⟩ := own_tellD (N := N) o0 n0
      refine KT.step rfl rfl (K.callZ (xs := [aggX [.d (DI N), x0]]) (ds := [.agg [DI N, dsV ds]]) ids 6 rfl plainTry_17 (by rw [List.mapM_cons, hdp]; rfl) (of17 hJb (by unfold revJ; rw [List.length_map, List.length_take]; omega) (fun j hj => by obtain ⟨q, hq, rfl⟩ := List.mem_map.1 hj; rw [List.length_reverse]; exact hr q (List.mem_of_mem_take hq)))) ?_
      refine KT.step rfl rfl (K.call1 rfl plainTry_24 ((by have h := best_cut (N := N) (J := revJ (J.take 5)); rw [bs_take.1, bs_take.2] at h; exact h))) ?_
      refine KT.step rfl rfl (K.move rfl) ?_
      refine KT.step rfl rfl (K.extract rfl rfl) ?_
      refine KT.step rfl rfl (K.extract rfl rfl) ?_
      refine KT.step rfl rfl (K.extract rfl rfl) ?_
      refine KT.step rfl rfl (K.assign rfl) ?_
      refine KT.step rfl rfl (K.assign rfl) ?_
      refine KT.step rfl rfl (K.assign rfl) ?_
      refine KT.nil ?_
      refine thenK_n ?_
      refine KC.seq ?_
      refine KC.region ?_
      refine KT.step rfl rfl (K.move rfl) ?_
      refine KT.step rfl rfl (K.move rfl) ?_
      refine KT.step rfl rfl (K.eql rfl rfl) ?_
      refine KT.step rfl rfl (K.move rfl) ?_
      refine KT.bcase (fun hb53 => ?_) (fun hb53 => ?_)
      · skip
        replace hb53 := of_decide_eq_true hb53
        refine KT.step rfl rfl (K.move rfl) ?_
        refine KT.step rfl rfl (K.move rfl) ?_
        refine KT.step rfl rfl (K.eql rfl rfl) ?_
        refine KT.step rfl rfl (K.pick rfl (fun _ => rfl) (fun h => by cases h)) ?_
        refine KT.step rfl rfl (K.move rfl) ?_
        refine KT.bcase (fun hb58 => ?_) (fun hb58 => ?_)
        · skip
          replace hb58 := of_decide_eq_true hb58
          refine KT.step rfl rfl (K.call0 plainTry_23 (awake23)) ?_
          refine KT.step rfl rfl (K.pick rfl (fun _ => rfl) (fun h => by cases h)) ?_
          refine KT.step rfl rfl (K.assign rfl) ?_
          refine KT.nil ?_
          refine thenK_n ?_
          refine KC.ret ?_
          exact ⟨.inl rfl, _, rfl, fin_d rfl⟩
        · skip
          exact absurd rfl (of_decide_eq_false hb58)
      · skip
        exact absurd rfl (of_decide_eq_false hb53)
    · skip
      replace hc31 := of_decide_eq_false hc31
      have hi5 : i ≤ 4 := by omega
      refine KC.skip ?_
      refine thenK_n ?_
      refine KC.seq ?_
      refine KC.regionL ?_
      refine KL.step rfl rfl (K.move rfl) ?_
      refine KL.call rfl rfl rfl rfl rfl plainTry_41 (clone41 hj (by omega)) fun σ2 x2 hq => ?_
      obtain ⟨q1, hrow⟩ := hq
      refine KL.step rfl rfl (K.assign rfl) ?_
      refine KL.nil ?_
      refine thenK_n ?_
      refine KC.seq ?_
      have hq9 : True := trivial
      refine KC.region ?_
      refine KT.step rfl rfl (K.move rfl) ?_
      rcases hrow with ⟨rfl, hks⟩ | ⟨id, ex, rfl, hs, hid⟩
      · skip
        refine KT.step rfl rfl (K.call1 rfl plainTry_42 rev_nil) ?_
        refine KT.nil ?_
        refine thenK_n ?_
        have w1 : σ2[1]? = some ⟨[.d (DI N), x0], 0⟩ := (q1 1 (lt_of_get y1)).trans y1
        have wx := o0.keep (σ' := σ2) fun j hj => q1 j (o0.lt hj)
        refine KC.region ?_
        refine KT.step rfl rfl (K.fieldAddrO rfl Try.fld24_1 Try.size22) ?_
        refine KT.step rfl rfl (K.loadO rfl w1 (by simp) rfl Try.agg22) ?_
        refine KT.step rfl rfl (K.move rfl) ?_
        refine KT.step rfl rfl (K.buildC (k := 1) (cs := [.d Dnil]) rfl rfl rfl Try.underlying22 Try.size70 Try.one70.zero (by decide)) ?_
        refine KT.appK (k := 1) rfl rfl rfl rfl (wx.pushed _) (List.getElem?_concat_length ..) rfl rfl (by rw [List.length_map]; omega) Try.underlying22 Try.size70 (of_decide_eq_true (by kernel_rfl)) (by kernel_rfl) (by decide) fun σ4 x4 ho4 k4 w4 => ?_
        obtain ⟨j4, w5, w6⟩ := w4
        rw [List.length_append] at w6
        have hw1 := lt_of_get w1
        have t1 := (k4 1 (fun h => by have := d0 1 h; omega) (by rw [List.length_append]; omega)).trans (get_left w1)
        refine KT.step rfl rfl (K.fieldAddrO rfl Try.fld24_1 Try.size22) ?_
        refine KT.storeG rfl rfl rfl rfl t1 (by simp) ho4.cells.1 ho4.cells.2 Try.size22 fun σ5 l5 u5 v5 => ?_
        have ho5 := ho4.keep (σ' := σ5) fun j hj => v5 j (by rw [w5] at hj; cases hj; omega)
        refine KT.nil ?_
        refine blockK_n ?_
        refine thenK_n ?_
        have hq11 : True := trivial
        refine KC.region ?_
        refine KT.step rfl rfl (K.add rfl rfl (wrap_id (by omega))) ?_
        refine KT.step rfl rfl (K.move rfl) ?_
        refine KT.nil ?_
        refine thenK_n ?_
        refine ⟨(σ5, x4, ds ++ [Dnil], i + 1), ⟨by simp only; omega, by simp only; omega, u5, ?_, fun j hj => ?_, fun h => ?_, by simp [hdl], fun k h1 h2 => ?_⟩, by simp only; omega, rfl, by simp [Go.Vm.look, extK]⟩
        · simp only
          rw [List.map_append]
          exact ho5
        · simp only at hj; rw [w5] at hj; cases hj; omega
        · simp at h
        · simp only at h1 ⊢
          by_cases e : k < ds.length
          · rw [List.getElem_append_left e]; exact hds k e h2
          · have hk : k = i := by simp at h1; omega
            subst hk
            rw [List.getElem_append_right (by omega)]
            simp only [hdl, Nat.sub_self, List.getElem_cons_zero]
            rw [hks]; exact .nil
      · skip
        refine KT.step rfl rfl (K.callO rfl plainTry_42 (rev42 hs (by omega))) ?_
        refine KT.nil ?_
        refine thenK_n ?_
        have hidl := lt_of_get hs
        have hy1l := lt_of_get y1
        have w1 : (σ2.set id ⟨(J[i].reverse.flatMap c2).map .d, 0⟩)[1]? = some ⟨[.d (DI N), x0], 0⟩ := by rw [List.getElem?_set_ne (by omega)]; exact (q1 1 (lt_of_get y1)).trans y1
        have wx := o0.keep (σ' := σ2.set id ⟨(J[i].reverse.flatMap c2).map .d, 0⟩) fun j hj => by
          have := o0.lt hj
          rw [List.getElem?_set_ne (by omega)]; exact q1 j (o0.lt hj)
        have wr : (σ2.set id ⟨(J[i].reverse.flatMap c2).map .d, 0⟩)[id]? = some ⟨(J[i].reverse.flatMap c2).map .d, 0⟩ := List.getElem?_set_self hidl
        refine KC.region ?_
        refine KT.step rfl rfl (K.fieldAddrO rfl Try.fld24_1 Try.size22) ?_
        refine KT.step rfl rfl (K.loadO rfl w1 (by simp) rfl Try.agg22) ?_
        refine KT.step rfl rfl (K.move rfl) ?_
        refine KT.step rfl rfl (K.buildC (k := 1) (cs := [.osl id 0 J[i].length 2 J[i].length ex]) rfl rfl rfl Try.underlying22 Try.size70 Try.one70.zero (by decide)) ?_
        refine KT.appK (k := 1) rfl rfl rfl rfl (wx.pushed _) (List.getElem?_concat_length ..) rfl rfl (by rw [List.length_map]; omega) Try.underlying22 Try.size70 (of_decide_eq_true (by kernel_rfl)) (by kernel_rfl) (by decide) fun σ4 x4 ho4 k4 w4 => ?_
        obtain ⟨j4, w5, w6⟩ := w4
        rw [List.length_append] at w6
        have hw1 := lt_of_get w1
        have t1 := (k4 1 (fun h => by have := d0 1 h; omega) (by rw [List.length_append]; omega)).trans (get_left w1)
        refine KT.step rfl rfl (K.fieldAddrO rfl Try.fld24_1 Try.size22) ?_
        refine KT.storeG rfl rfl rfl rfl t1 (by simp) ho4.cells.1 ho4.cells.2 Try.size22 fun σ5 l5 u5 v5 => ?_
        have ho5 := ho4.keep (σ' := σ5) fun j hj => v5 j (by rw [w5] at hj; cases hj; omega)
        have s5 := (v5 id (by omega)).trans ((k4 id (fun h => by have := o0.lt h; omega) (by rw [List.length_append]; have := lt_of_get wr; omega)).trans (get_left wr))
        refine KT.nil ?_
        refine blockK_n ?_
        refine thenK_n ?_
        refine KC.tellK (w := 2) (L := J[i].length) ho5 (ds := J[i].reverse.flatMap c2) s5 (by rw [flat_len c2_len, List.length_reverse]) (fun h => by rw [w5] at h; cases h; have := lt_of_get wr; omega) fun σ6 g1 g2 g3 => ?_
        have t6 := (g3 1 (by omega) (fun h => by rw [w5] at h; cases h; omega)).trans u5
        refine KC.region ?_
        refine KT.step rfl rfl (K.add rfl rfl (wrap_id (by omega))) ?_
        refine KT.step rfl rfl (K.move rfl) ?_
        refine KT.nil ?_
        refine thenK_n ?_
        refine ⟨(σ6, x4, ds ++ [.sl (J[i].reverse.flatMap c2) J[i].length (if ex = true then some J[i].length else none)], i + 1), ⟨by simp only; omega, by simp only; omega, t6, ?_, fun j hj => ?_, fun h => ?_, by simp [hdl], fun k h1 h2 => ?_⟩, by simp only; omega, rfl, by simp [Go.Vm.look, extK]⟩
        · simp only
          rw [List.map_append]
          exact g1
        · simp only at hj; rw [w5] at hj; cases hj; omega
        · simp at h
        · simp only at h1 ⊢
          by_cases e : k < ds.length
          · rw [List.getElem_append_left e]; exact hds k e h2
          · have hk : k = i := by simp at h1; omega
            subst hk
            rw [List.getElem_append_right (by omega)]
            simp only [hdl, Nat.sub_self, List.getElem_cons_zero]
            have hlr : J[k].reverse.length = J[k].length := List.length_reverse
            rw [← hlr]; exact .sl
  · skip
    replace hc26 := of_decide_eq_false hc26
    skip
    refine KC.exit ?_
    refine thenK_x ?_
    refine thenK_x ?_
    refine blockK_e ?_
    refine thenK_n ?_
    refine KC.seq ?_
    refine KC.region ?_
    have eex : i = J.length ∨ i = 5 := by omega
    have hti : J.take i = J.take 5 := by
      rcases eex with e | e
      · rw [e, List.take_of_length_le (Nat.le_refl _), List.take_of_length_le (by omega)]
      · rw [e]
    have hJb : JbD (dsV ds) (revJ (J.take 5)) := by
      rw [← hti]
      refine dsV_ok (by unfold revJ; rw [List.length_map, List.length_take]; omega) fun k h1 h2 => ?_
      simp only [revJ, List.getElem_map, List.getElem_take]
      exact hds k h1 (by omega)
    refine KT.step rfl rfl (K.loadOAgg (m := 2) (ob := ⟨[.d (DI N), x0], 0⟩) rfl y1 (by simp) Try.agg24 Try.size24 (by simp)) ?_
    obtain ⟨ids, hdp⟩ := own_tellD (N := N) o0 n0
    refine KT.step rfl rfl (K.callZ (xs := [aggX [.d (DI N), x0]]) (ds := [.agg [DI N, dsV ds]]) ids 6 rfl plainTry_17 (by rw [List.mapM_cons, hdp]; rfl) (of17 hJb (by unfold revJ; rw [List.length_map, List.length_take]; omega) (fun j hj => by obtain ⟨q, hq, rfl⟩ := List.mem_map.1 hj; rw [List.length_reverse]; exact hr q (List.mem_of_mem_take hq)))) ?_
    refine KT.step rfl rfl (K.call1 rfl plainTry_24 ((by have h := best_cut (N := N) (J := revJ (J.take 5)); rw [bs_take.1, bs_take.2] at h; exact h))) ?_
    refine KT.step rfl rfl (K.move rfl) ?_
    refine KT.step rfl rfl (K.extract rfl rfl) ?_
    refine KT.step rfl rfl (K.extract rfl rfl) ?_
    refine KT.step rfl rfl (K.extract rfl rfl) ?_
    refine KT.step rfl rfl (K.assign rfl) ?_
    refine KT.step rfl rfl (K.assign rfl) ?_
    refine KT.step rfl rfl (K.assign rfl) ?_
    refine KT.nil ?_
    refine thenK_n ?_
    refine KC.seq ?_
    refine KC.region ?_
    refine KT.step rfl rfl (K.move rfl) ?_
    refine KT.step rfl rfl (K.move rfl) ?_
    refine KT.step rfl rfl (K.eql rfl rfl) ?_
    refine KT.step rfl rfl (K.move rfl) ?_
    refine KT.bcase (fun hb53 => ?_) (fun hb53 => ?_)
    · skip
      replace hb53 := of_decide_eq_true hb53
      refine KT.step rfl rfl (K.move rfl) ?_
      refine KT.step rfl rfl (K.move rfl) ?_
      refine KT.step rfl rfl (K.eql rfl rfl) ?_
      refine KT.step rfl rfl (K.pick rfl (fun _ => rfl) (fun h => by cases h)) ?_
      refine KT.step rfl rfl (K.move rfl) ?_
      refine KT.bcase (fun hb58 => ?_) (fun hb58 => ?_)
      · skip
        replace hb58 := of_decide_eq_true hb58
        refine KT.step rfl rfl (K.call0 plainTry_23 (awake23)) ?_
        refine KT.step rfl rfl (K.pick rfl (fun _ => rfl) (fun h => by cases h)) ?_
        refine KT.step rfl rfl (K.assign rfl) ?_
        refine KT.nil ?_
        refine thenK_n ?_
        refine KC.ret ?_
        exact ⟨.inl rfl, _, rfl, fin_d rfl⟩
      · skip
        exact absurd rfl (of_decide_eq_false hb58)
    · skip
      exact absurd rfl (of_decide_eq_false hb53)
end Go.Proofs.Ytdilkpcnkhedlaa

