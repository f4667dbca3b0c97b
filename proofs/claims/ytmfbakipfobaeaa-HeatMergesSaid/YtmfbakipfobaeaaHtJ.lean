import Derived.Test.YtmfbakipfobaeaaHtI
import Derived.Test.YtmfbakipfobaeaaHtX
/-
  Heat: copies of streams.
-/
namespace Go.Proofs.Ytmfbakipfobaeaa
open Go.Vm Go.Ht
theorem plainTry_43 : plainFn Try.prog 43 = true := by kernel_rfl
theorem plainTry_44 : plainFn Try.prog 44 = true := by kernel_rfl
set_option maxRecDepth 10000 in
theorem all_d : ∀ (cs : List DV), (∀ x ∈ cs, oneX (.d x) = true) → (cs.map XV.d).all oneX = true := fun cs h => by
  rw [List.all_map, List.all_eq_true]; exact h
set_option maxRecDepth 10000 in
theorem clone43 {σ : List VObj} {l : List Sm} {cap : Option Nat} (h0 : l.length ≠ 0) (hl : l.length ≤ 1073741824) :
    OwnCall Try.prog 43 σ [.d (.sl (l.flatMap c3) l.length cap)] (σ ++ [⟨[], 0⟩, ⟨(l.flatMap c3).map .d, 0⟩]) (.osl (σ.length + 1) 0 l.length 3 l.length false) := by
  refine ownCall_K Try.func43 rfl (Nat.le_of_ble_eq_true rfl) fun M W0 => ?_
  refine KC.seq ?_
  refine KC.region ?_
  refine KT.step rfl rfl (K.assign rfl) ?_
  refine KT.nil ?_
  refine thenK_n ?_
  refine KC.seq ?_
  refine KC.seq ?_
  refine KC.region ?_
  refine KT.step rfl rfl (K.move rfl) ?_
  refine KT.step rfl rfl (K.eqNil rfl Try.underlying22) ?_
  refine KT.nil ?_
  refine thenK_n ?_
  refine KC.cond rfl (fun hc4 => ?_) (fun hc4 => ?_)
  · cases hc4
  · skip
    refine KC.skip ?_
    refine thenK_n ?_
    refine KC.seq ?_
    refine KC.region ?_
    refine KT.step rfl rfl (K.build0K Try.underlying22 Try.size63 Try.zero63) ?_
    refine KT.step rfl rfl (K.move rfl) ?_
    refine KT.step rfl rfl (K.appAllK rfl rfl (List.getElem?_concat_length ..) (flat_len c3_len l) (all_d _ fun x hx => by obtain ⟨s, _, hs⟩ := List.mem_flatMap.1 hx; simp [c3] at hs; rcases hs with rfl | rfl | rfl <;> rfl) h0 hl Try.underlying22 Try.size63 (of_decide_eq_true (by kernel_rfl)) (by kernel_rfl)) ?_
    refine KT.step rfl rfl (K.assign rfl) ?_
    refine KT.nil ?_
    refine thenK_n ?_
    refine KC.ret ?_
    refine ⟨.inl rfl, ?_, by simp⟩
    show some (XV.osl (σ ++ [(⟨[], 0⟩ : VObj)]).length 0 l.length 3 l.length false) = _
    rw [List.length_append]; rfl
set_option maxRecDepth 10000 in
theorem reverse44 {σ : List VObj} {id lo : Nat} {ex : Bool} {l : List Sm} (ho : σ[id]? = some ⟨(l.flatMap c3).map .d, 0⟩) (hn : l.length ≤ 1000000) : OwnCall Try.prog 44 σ [.osl id 0 l.length 3 lo ex] (σ.set id ⟨(l.reverse.flatMap c3).map .d, 0⟩) (.tup []) := by
  refine ownCall_K Try.func44 rfl (Nat.le_of_ble_eq_true rfl) fun M W0 => ?_
  refine KC.seq ?_
  refine KC.region ?_
  refine KT.step rfl rfl (K.move rfl) ?_
  refine KT.step rfl rfl (K.lenO rfl Try.underlying22) ?_
  refine KT.step rfl rfl (K.sub rfl rfl (wrap_id (by omega))) ?_
  refine KT.step rfl rfl (K.assign rfl) ?_
  refine KT.step rfl rfl (K.assign rfl) ?_
  refine KT.nil ?_
  refine thenK_n ?_
  refine KC.block ?_
  have h0 : σ = σ.set id ⟨((revG l 0).flatMap c3).map .d, 0⟩ := by rw [revG_zero, Go.Vm.set_same ho]
  refine KC.loop (fun k : Nat => σ.set id ⟨((revG l k).flatMap c3).map .d, 0⟩) (fun k => [(0, .osl id 0 l.length 3 lo ex), (2, .d (DI (k : Nat))), (3, .d (DI ((l.length : Int) - 1 - k)))]) (fun k => 2 * k ≤ l.length) (fun k => l.length - k) 0 (Nat.zero_le _) h0 (by simp [Go.Vm.look, extK, enterK]) ?_
  intro k hk
  refine KC.seq ?_
  refine KC.seq ?_
  refine KC.region ?_
  refine KT.step rfl rfl (K.move rfl) ?_
  refine KT.step rfl rfl (K.move rfl) ?_
  refine KT.step rfl rfl (K.lss rfl rfl) ?_
  refine KT.nil ?_
  refine thenK_n ?_
  refine KC.cond rfl (fun hc9 => ?_) (fun hc9 => ?_)
  · skip
    replace hc9 := of_decide_eq_true hc9
    refine KC.skip ?_
    refine thenK_n ?_
    refine KC.seq ?_
    refine KC.block ?_
    refine KC.draw Try.mixed ?_
    refine KT.step rfl rfl (K.move rfl) ?_
    refine KT.step rfl rfl (K.move rfl) ?_
    refine KT.step rfl rfl (K.move rfl) ?_
    refine KT.step rfl rfl (K.move rfl) ?_
    refine KT.step rfl rfl (K.move rfl) ?_
    refine KT.step rfl rfl (K.move rfl) ?_
    refine KT.step rfl rfl (K.idxOK (m := l.length - 1 - k) rfl (congrArg (fun z => some (XV.d (DI z))) (show (l.length : Int) - 1 - (k : Int) = ((l.length - 1 - k : Nat) : Int) by omega)) (by omega) Try.underlying22 Try.size63) ?_
    refine KT.step rfl rfl (K.loadOP (ds := (revG l k).flatMap c3) rfl (List.getElem?_set_self (lt_of_get ho)) (by decide) Try.agg63 Try.size63 (by rw [flat_len c3_len, revG_len]; omega)) ?_
    rw [show ((((revG l k).flatMap c3).drop (0 + (l.length - 1 - k) * 3)).take 3) = c3 (l[l.length - 1 - k]'(by omega)) by rw [Nat.zero_add, flat_drop c3_len _ _ (by rw [revG_len]; omega), List.take_append_of_le_length (by rw [c3_len]; exact Nat.le_refl _), List.take_of_length_le (by rw [c3_len]; exact Nat.le_refl _), revG_mid (by omega) (by omega)]]
    refine KT.step rfl rfl (K.move rfl) ?_
    refine KT.step rfl rfl (K.move rfl) ?_
    refine KT.step rfl rfl (K.idxOK (m := k) rfl rfl (by omega) Try.underlying22 Try.size63) ?_
    refine KT.step rfl rfl (K.loadOP (ds := (revG l k).flatMap c3) rfl (List.getElem?_set_self (lt_of_get ho)) (by decide) Try.agg63 Try.size63 (by rw [flat_len c3_len, revG_len]; omega)) ?_
    rw [show ((((revG l k).flatMap c3).drop (0 + (k) * 3)).take 3) = c3 (l[k]'(by omega)) by rw [Nat.zero_add, flat_drop c3_len _ _ (by rw [revG_len]; omega), List.take_append_of_le_length (by rw [c3_len]; exact Nat.le_refl _), List.take_of_length_le (by rw [c3_len]; exact Nat.le_refl _), revG_mid (by omega) (by omega)]]
    refine KT.step rfl rfl (K.idxOK (m := k) rfl rfl (by omega) Try.underlying22 Try.size63) ?_
    refine KT.step rfl rfl (K.storeN (cells := ((revG l k).flatMap c3).map .d) (v := .d (.agg (c3 (l[l.length - 1 - k]'(by omega))))) rfl rfl (List.getElem?_set_self (lt_of_get ho)) (show 0 + (k) * 3 + 3 ≤ _ by rw [List.length_map, flat_len c3_len, revG_len]; omega) rfl Try.size63) ?_
    rw [show splice (((revG l k).flatMap c3).map XV.d) (0 + (k) * 3) (cellsX (.d (.agg (c3 (l[l.length - 1 - k]'(by omega)))))) = (((revG l k).set (k) (l[l.length - 1 - k]'(by omega))).flatMap c3).map .d from (by rw [Nat.zero_add]; exact flat_spliceD c3_len (by rw [revG_len]; omega))]
    refine KT.step rfl rfl (K.idxOK (m := l.length - 1 - k) rfl (congrArg (fun z => some (XV.d (DI z))) (show (l.length : Int) - 1 - (k : Int) = ((l.length - 1 - k : Nat) : Int) by omega)) (by omega) Try.underlying22 Try.size63) ?_
    refine KT.step rfl rfl (K.storeN (cells := (((revG l k).set k (l[l.length - 1 - k]'(by omega))).flatMap c3).map .d) (v := .d (.agg (c3 (l[k]'(by omega))))) rfl rfl (List.getElem?_set_self (by rw [List.length_set]; exact lt_of_get ho)) (show 0 + (l.length - 1 - k) * 3 + 3 ≤ _ by rw [List.length_map, flat_len c3_len, List.length_set, revG_len]; omega) rfl Try.size63) ?_
    rw [show splice ((((revG l k).set k (l[l.length - 1 - k]'(by omega))).flatMap c3).map XV.d) (0 + (l.length - 1 - k) * 3) (cellsX (.d (.agg (c3 (l[k]'(by omega)))))) = ((((revG l k).set k (l[l.length - 1 - k]'(by omega))).set (l.length - 1 - k) (l[k]'(by omega))).flatMap c3).map .d from (by rw [Nat.zero_add]; exact flat_spliceD c3_len (by rw [List.length_set, revG_len]; omega))]
    refine KT.nil ?_
    refine ⟨by kernel_rfl, ?_⟩
    refine blockK_n ?_
    refine thenK_n ?_
    refine KC.region ?_
    refine KT.step rfl rfl (K.move rfl) ?_
    refine KT.step rfl rfl (K.add rfl rfl (wrap_id (by omega))) ?_
    refine KT.step rfl rfl (K.move rfl) ?_
    refine KT.step rfl rfl (K.sub rfl rfl (wrap_id (by omega))) ?_
    refine KT.step rfl rfl (K.assign rfl) ?_
    refine KT.step rfl rfl (K.assign rfl) ?_
    refine KT.nil ?_
    refine thenK_n ?_
    refine ⟨k + 1, by omega, by omega, ?_, by simp [Go.Vm.look, extK]; omega⟩
    rw [List.set_set, List.set_set, revG_succ (by omega)]
  · skip
    replace hc9 := of_decide_eq_false hc9
    refine KC.exit ?_
    refine thenK_x ?_
    refine thenK_x ?_
    refine blockK_e ?_
    refine ⟨.inr rfl, rfl, ?_⟩
    rw [revG_full (by omega)]
end Go.Proofs.Ytmfbakipfobaeaa

