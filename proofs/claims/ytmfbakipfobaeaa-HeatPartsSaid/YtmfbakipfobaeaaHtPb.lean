import Derived.Test.YtmfbakipfobaeaaHtPa
import Derived.Test.YtmfbakipfobaeaaVmW
/-
  Heat: copies of numbers.
-/
namespace Go.Proofs.Ytmfbakipfobaeaa
open Go.Vm Go.Ht
theorem ints_form {d : DV} {l : List Int} (h : Ints d l) : (d = Dnil ∧ l = []) ∨ ∃ cap, d = .sl (ints l) l.length cap := by
  cases h with
  | nil => exact .inl ⟨rfl, rfl⟩
  | @sl cs _ cap hn h =>
    refine .inr ⟨cap, ?_⟩
    have e := Go.Vm.ints_cells hn h
    rw [e]; rfl
theorem ints_one {l : List Int} : ((ints l).map XV.d).all oneX = true := by
  unfold ints; rw [List.all_map, List.all_map, List.all_eq_true]; intro x _; rfl
set_option maxRecDepth 10000 in
theorem clone42_own {σ : List VObj} {l : List Int} {cap : Option Nat} (h0 : l.length ≠ 0) (hl : l.length ≤ 1073741824) :
    OwnCall Try.prog 42 σ [.d (.sl (ints l) l.length cap)] (σ ++ [⟨[], 0⟩, ⟨xs l, 0⟩]) (.osl (σ.length + 1) 0 l.length 1 l.length false) := by
  refine ownCall_K Try.func42 rfl (Nat.le_of_ble_eq_true rfl) fun M W0 => ?_
  refine KC.seq ?_
  refine KC.region ?_
  refine KT.step rfl rfl (K.assign rfl) ?_
  refine KT.nil ?_
  refine thenK_n ?_
  refine KC.seq ?_
  refine KC.seq ?_
  refine KC.region ?_
  refine KT.step rfl rfl (K.move rfl) ?_
  refine KT.step rfl rfl (K.eqNil rfl Try.underlying23) ?_
  refine KT.nil ?_
  refine thenK_n ?_
  refine KC.cond rfl (fun hc4 => ?_) (fun hc4 => ?_)
  · cases hc4
  · skip
    refine KC.skip ?_
    refine thenK_n ?_
    refine KC.seq ?_
    refine KC.region ?_
    refine KT.step rfl rfl (K.build0 Try.underlying23 Try.one3) ?_
    refine KT.step rfl rfl (K.move rfl) ?_
    refine KT.step rfl rfl (K.appAll rfl rfl (List.getElem?_concat_length ..) (by simp [ints]) (by rw [List.take_of_length_le (by simp [ints])]; exact ints_one) h0 hl Try.underlying23 Try.one3) ?_
    refine KT.step rfl rfl (K.assign rfl) ?_
    refine KT.nil ?_
    refine thenK_n ?_
    refine KC.ret ?_
    refine ⟨.inl rfl, ?_, by rw [List.take_of_length_le (by simp [ints]), xs_ints]; simp⟩
    show some (XV.osl (σ ++ [(⟨[], 0⟩ : VObj)]).length 0 l.length 1 l.length false) = _
    rw [List.length_append]; rfl
set_option maxRecDepth 10000 in
theorem grow81_pos {σ : List VObj} {m : Nat} (hm : 0 < m) (hm2 : m ≤ 1073741824) : OwnCall Try.prog 81 σ [.d Dnil, .d (DI m)] (σ ++ [⟨List.replicate m (.d (.lit (.int .i64 0))), 0⟩]) (.osl σ.length 0 0 1 m false) := by
  refine ownCall_K Try.func81 rfl (Nat.le_of_ble_eq_true rfl) fun M W0 => ?_
  refine KC.seq ?_
  refine KC.region ?_
  refine KT.step rfl rfl (K.assign rfl) ?_
  refine KT.nil ?_
  refine thenK_n ?_
  refine KC.seq ?_
  refine KC.seq ?_
  refine KC.region ?_
  refine KT.step rfl rfl (K.move rfl) ?_
  refine KT.step rfl rfl (K.lss' (c := false) rfl rfl (decide_eq_false (by omega))) ?_
  refine KT.nil ?_
  refine thenK_n ?_
  refine KC.cond rfl (fun hc6 => ?_) (fun hc6 => ?_)
  · cases hc6
  · skip
    refine KC.skip ?_
    refine thenK_n ?_
    refine KC.seq ?_
    refine KC.seq ?_
    refine KC.region ?_
    refine KT.step rfl rfl (K.move rfl) ?_
    refine KT.step rfl rfl (K.move rfl) ?_
    refine KT.step rfl rfl (K.capNil rfl Try.underlying23) ?_
    refine KT.step rfl rfl (K.move rfl) ?_
    refine KT.step rfl rfl (K.len (l := ([] : List Int)) (R := IsI) rfl .nil Try.underlying23) ?_
    refine KT.step rfl rfl (K.sub (c := 0) rfl rfl rfl) ?_
    refine KT.step rfl rfl (K.sub (c := (m : Int)) rfl rfl (by rw [Int.sub_zero]; exact wrap_id (by omega))) ?_
    refine KT.step rfl rfl (K.assign rfl) ?_
    refine KT.nil ?_
    refine thenK_n ?_
    refine KC.seq ?_
    refine KC.region ?_
    refine KT.step rfl rfl (K.move rfl) ?_
    refine KT.step rfl rfl (K.gtr' (c := true) rfl rfl (decide_eq_true (by omega))) ?_
    refine KT.nil ?_
    refine thenK_n ?_
    refine KC.cond rfl (fun hc16 => ?_) (fun hc16 => ?_)
    · skip
      refine KC.region ?_
      refine KT.step rfl rfl (K.move rfl) ?_
      refine KT.step rfl rfl (K.move rfl) ?_
      refine KT.step rfl rfl (K.capNil rfl Try.underlying23) ?_
      refine KT.step rfl rfl (K.takeV (d := Dnil) (xs := ([] : List Int)) (Q := IsI) (m := 0) rfl .nil rfl (Nat.le_refl 0) Try.underlying23 Try.size3) ?_
      refine KT.step rfl rfl (K.move rfl) ?_
      refine KT.step rfl rfl (K.appZ rfl rfl hm hm2 Try.underlying23 Try.underlying3 (by decide) Try.one3) ?_
      refine KT.step rfl rfl (K.move rfl) ?_
      refine KT.step rfl rfl (K.len (l := ([] : List Int)) (R := IsI) rfl .nil Try.underlying23) ?_
      refine KT.step rfl rfl (K.cut0 rfl rfl Try.underlying23 Try.size3) ?_
      refine KT.step rfl rfl (K.assign rfl) ?_
      refine KT.nil ?_
      refine thenK_n ?_
      refine KC.seq ?_
      refine KC.region ?_
      refine KT.step rfl rfl (K.move rfl) ?_
      refine KT.step rfl rfl (K.assign rfl) ?_
      refine KT.nil ?_
      refine thenK_n ?_
      refine KC.ret ?_
      exact ⟨.inl rfl, rfl, rfl⟩
    · cases hc16
def pre (l : List (List Int)) (i : Nat) : List Int := (l.take i).flatten
theorem pre_succ {l : List (List Int)} {i : Nat} (h : i < l.length) : pre l (i + 1) = pre l i ++ l[i] := by
  rw [pre, List.take_succ_eq_append_getElem h, List.flatten_append]; simp [pre]
theorem pre_full {l : List (List Int)} {i : Nat} (h : l.length ≤ i) : pre l i = l.flatten := by rw [pre, List.take_of_length_le h]
theorem pre_le {l : List (List Int)} (i : Nat) : (pre l i).length ≤ l.flatten.length := by
  have : l.flatten = pre l i ++ (l.drop i).flatten := by rw [pre, ← List.flatten_append, List.take_append_drop]
  rw [this]; simp
def catC (l : List (List Int)) (N i : Nat) : List XV := ((ints (pre l i)).map XV.d) ++ List.replicate (N - (pre l i).length) (.d (.lit (.int .i64 0)))
theorem catC_step {l : List (List Int)} {i : Nat} (h : i < l.length) : splice (catC l l.flatten.length i) (0 + (pre l i).length) ((ints l[i]).map XV.d) = catC l l.flatten.length (i + 1) := by
  have h1 := pre_le (l := l) (i + 1)
  rw [pre_succ h, List.length_append] at h1
  rw [Nat.zero_add, catC, catC, pre_succ h, splice]
  unfold ints
  rw [List.take_append_of_le_length (by simp), List.take_of_length_le (by simp)]
  rw [List.drop_append, List.drop_eq_nil_of_le (by simp), List.nil_append, List.drop_replicate]
  simp only [List.map_append, List.length_append, List.length_map, List.append_assoc]
  congr 3
  omega
theorem catC_len {l : List (List Int)} (i : Nat) : (catC l l.flatten.length i).length = l.flatten.length := by
  have := pre_le (l := l) i
  simp only [catC, List.length_append, List.length_map, List.length_replicate, ints]; omega
theorem catC_end {l : List (List Int)} : catC l l.flatten.length l.length = xs l.flatten := by
  rw [catC, pre_full (Nat.le_refl _), xs_ints]; simp
theorem ints_row {cs : List DV} {len : Nat} {cap : Option Nat} {l : List Int} (h : Ints (.sl cs len cap) l) : cs = ints l := by
  rcases ints_form h with ⟨e, _⟩ | ⟨c, e⟩
  · cases e
  · cases e; rfl
theorem ints_nil {l : List Int} (h : Ints Dnil l) : ints l = [] := by
  rcases ints_form h with ⟨_, e⟩ | ⟨c, e⟩
  · rw [e]; rfl
  · cases e
theorem set_last {α : Type} {A : List α} {a b : α} : (A ++ [a]).set A.length b = A ++ [b] := by
  rw [List.set_append_right _ _ (Nat.le_refl _), Nat.sub_self]; rfl
set_option maxRecDepth 10000 in
theorem concat75 {σ : List VObj} {d : DV} {l : List (List Int)} (hd : Mat d l) (hl : l.length ≤ 9223372036854775807) (hN : 0 < l.flatten.length) (hN2 : l.flatten.length ≤ 1073741824) : OwnCall Try.prog 75 σ [.d d] (σ ++ [⟨xs l.flatten, 0⟩]) (.osl σ.length 0 l.flatten.length 1 l.flatten.length false) := by
  refine ownCall_K Try.func75 rfl (Nat.le_of_ble_eq_true rfl) fun M W0 => ?_
  refine KC.seq ?_
  refine KC.region ?_
  refine KT.step rfl rfl (K.assign rfl) ?_
  refine KT.nil ?_
  refine thenK_n ?_
  refine KC.seq ?_
  refine KC.region ?_
  refine KT.step rfl rfl (K.assign rfl) ?_
  refine KT.nil ?_
  refine thenK_n ?_
  refine KC.seq ?_
  refine KC.seq ?_
  refine KC.region ?_
  refine KT.step rfl rfl (K.move rfl) ?_
  refine KT.step rfl rfl (K.len rfl (by assumption) Try.underlying118) ?_
  refine KT.step rfl rfl (K.move rfl) ?_
  refine KT.nil ?_
  refine thenK_n ?_
  refine KC.block ?_
  refine KC.loop (fun _ : Nat => σ) (fun i => [(0, .d d), (3, .d (DI (pre l i).length)), (9, .d d), (10, .d (DI l.length)), (11, .d (DI i))]) (fun i => i ≤ l.length) (fun i => l.length - i) 0 (Nat.zero_le _) rfl (by simp [Go.Vm.look, extK, enterK, pre]) ?_
  intro i hi
  refine KC.seq ?_
  refine KC.region ?_
  refine KT.step rfl rfl (K.lss rfl rfl) ?_
  refine KT.nil ?_
  refine thenK_n ?_
  refine KC.seq ?_
  refine KC.cond rfl (fun hc12 => ?_) (fun hc12 => ?_)
  · skip
    replace hc12 := of_decide_eq_true hc12
    have hlt : i < l.length := by omega
    have hle := pre_le (l := l) (i + 1)
    rw [pre_succ hlt, List.length_append] at hle
    refine KC.skip ?_
    refine thenK_n ?_
    refine KC.seq ?_
    refine KC.block ?_
    refine KC.seq ?_
    refine KC.region ?_
    refine KT.idx rfl rfl rfl (by assumption) rfl (by omega) Try.underlying118 Try.size23 fun c13 cs13 hq13 => ?_
    refine KT.step rfl rfl (K.load rfl Try.agg23) ?_
    refine KT.step rfl rfl (K.assign rfl) ?_
    refine KT.nil ?_
    refine thenK_n ?_
    refine KC.seq ?_
    refine KC.region ?_
    refine KT.step rfl rfl (K.move rfl) ?_
    refine KT.step rfl rfl (K.move rfl) ?_
    refine KT.step rfl rfl (K.len rfl (by assumption) Try.underlying23) ?_
    refine KT.step rfl rfl (K.add rfl rfl (wrap_id (by omega))) ?_
    refine KT.step rfl rfl (K.assign rfl) ?_
    refine KT.nil ?_
    refine thenK_n ?_
    refine KC.seq ?_
    refine KC.region ?_
    refine KT.step rfl rfl (K.move rfl) ?_
    refine KT.step rfl rfl (K.lss' (c := false) rfl rfl (decide_eq_false (by omega))) ?_
    refine KT.nil ?_
    refine thenK_n ?_
    refine KC.cond rfl (fun hc20 => ?_) (fun hc20 => ?_)
    · cases hc20
    · skip
      refine KC.skip ?_
      refine blockK_n ?_
      refine thenK_n ?_
      refine KC.region ?_
      refine KT.step rfl rfl (K.add rfl rfl (wrap_id (by omega))) ?_
      refine KT.step rfl rfl (K.move rfl) ?_
      refine KT.nil ?_
      refine thenK_n ?_
      refine ⟨i + 1, by omega, by omega, rfl, ?_⟩
      simp only [pre_succ hlt, List.length_append, Int.natCast_add]
      simp [Go.Vm.look, extK]
  · skip
    replace hc12 := of_decide_eq_false hc12
    have : i = l.length := by omega
    subst this
    refine KC.exit ?_
    refine thenK_x ?_
    refine thenK_x ?_
    refine blockK_e ?_
    refine thenK_n ?_
    refine KC.seq ?_
    refine KC.region ?_
    refine KT.step rfl rfl (K.move rfl) ?_
    rw [pre_full (Nat.le_refl _)]
    refine KT.step rfl rfl (K.callO (xs := [.d Dnil, .d (DI l.flatten.length)]) rfl plainTry_81 (grow81_pos hN hN2)) ?_
    refine KT.step rfl rfl (K.assign rfl) ?_
    refine KT.nil ?_
    refine thenK_n ?_
    refine KC.seq ?_
    refine KC.seq ?_
    refine KC.region ?_
    refine KT.step rfl rfl (K.move rfl) ?_
    refine KT.step rfl rfl (K.len rfl (by assumption) Try.underlying118) ?_
    refine KT.step rfl rfl (K.move rfl) ?_
    refine KT.nil ?_
    refine thenK_n ?_
    refine KC.block ?_
    refine KC.loop (fun i => σ ++ [⟨catC l l.flatten.length i, 0⟩]) (fun i => [(6, .osl σ.length 0 (pre l i).length 1 l.flatten.length false), (25, .d d), (26, .d (DI l.length)), (27, .d (DI i))]) (fun i => i ≤ l.length) (fun i => l.length - i) 0 (Nat.zero_le _) (by simp [catC, pre, ints]) (by simp [Go.Vm.look, extK, pre]) ?_
    intro i hi
    refine KC.seq ?_
    refine KC.region ?_
    refine KT.step rfl rfl (K.lss rfl rfl) ?_
    refine KT.nil ?_
    refine thenK_n ?_
    refine KC.seq ?_
    refine KC.cond rfl (fun hc28 => ?_) (fun hc28 => ?_)
    · skip
      replace hc28 := of_decide_eq_true hc28
      have hlt : i < l.length := by omega
      have hle := pre_le (l := l) (i + 1)
      rw [pre_succ hlt, List.length_append] at hle
      refine KC.skip ?_
      refine thenK_n ?_
      refine KC.seq ?_
      refine KC.block ?_
      refine KC.seq ?_
      refine KC.region ?_
      refine KT.idx rfl rfl rfl (by assumption) rfl (by omega) Try.underlying118 Try.size23 fun c29 cs29 hq29 => ?_
      refine KT.step rfl rfl (K.load rfl Try.agg23) ?_
      refine KT.step rfl rfl (K.assign rfl) ?_
      refine KT.nil ?_
      refine thenK_n ?_
      refine KC.region ?_
      refine KT.step rfl rfl (K.move rfl) ?_
      refine KT.step rfl rfl (K.move rfl) ?_
      refine KT.step rfl rfl (K.appIn (row := ints l[i]) rfl rfl hq29 (fun cs cap h => by rw [h] at hq29; exact ints_row hq29) (fun h => by rw [h] at hq29; exact ints_nil hq29) ints_one (List.getElem?_concat_length ..) (by omega) (by rw [catC_len]; omega) Try.underlying23 Try.size3) ?_
      refine KT.step rfl rfl (K.assign rfl) ?_
      refine KT.nil ?_
      refine blockK_n ?_
      refine thenK_n ?_
      refine KC.region ?_
      refine KT.step rfl rfl (K.add rfl rfl (wrap_id (by omega))) ?_
      refine KT.step rfl rfl (K.move rfl) ?_
      refine KT.nil ?_
      refine thenK_n ?_
      refine ⟨i + 1, by omega, by omega, ?_, ?_⟩
      · rw [← catC_step hlt, set_last]
      · simp only [pre_succ hlt, List.length_append]
        simp [Go.Vm.look, extK]
    · skip
      replace hc28 := of_decide_eq_false hc28
      have : i = l.length := by omega
      subst this
      refine KC.exit ?_
      refine thenK_x ?_
      refine thenK_x ?_
      refine blockK_e ?_
      refine thenK_n ?_
      refine KC.seq ?_
      refine KC.region ?_
      refine KT.step rfl rfl (K.move rfl) ?_
      refine KT.step rfl rfl (K.assign rfl) ?_
      refine KT.nil ?_
      refine thenK_n ?_
      refine KC.ret ?_
      rw [pre_full (Nat.le_refl _), catC_end]
      exact ⟨.inl rfl, rfl, rfl⟩
end Go.Proofs.Ytmfbakipfobaeaa

