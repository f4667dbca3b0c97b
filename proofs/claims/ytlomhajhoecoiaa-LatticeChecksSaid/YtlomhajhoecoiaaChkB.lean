/-
  CONTRACTS for LatticeChecks: rows put together.
-/
import Derived.Test.YtlomhajhoecoiaaChkA
import Derived.Test.YtlomhajhoecoiaaVmW
namespace Go.Proofs.Ytlomhajhoecoiaa
open Go.Vm
theorem plainTry_114 : plainFn Try.prog 114 = true := by kernel_rfl
set_option maxRecDepth 10000 in
theorem grow114_zero {σ : List VObj} {m : Nat} (hm : m = 0) : OwnCall Try.prog 114 σ [.d Dnil, .d (DI m)] σ (.d Dnil) := by
  refine ownCall_K Try.func114 rfl (Nat.le_of_ble_eq_true rfl) fun M W0 => ?_
  refine KC.seq ?_
  refine KC.region ?_
  refine KT.step rfl rfl (K.assign rfl) ?_
  refine KT.nil ?_
  refine thenK_n ?_
  refine KC.seq ?_
  refine KC.seq ?_
  refine KC.region ?_
  refine KT.step rfl rfl (K.move rfl) ?_
  refine KT.step rfl rfl (K.lss' (c := false) rfl rfl (decide_eq_false (by omega))) ?_
  refine KT.nil ?_
  refine thenK_n ?_
  refine KC.cond rfl (fun hc6 => ?_) (fun hc6 => ?_)
  · cases hc6
  · skip
    refine KC.skip ?_
    refine thenK_n ?_
    refine KC.seq ?_
    refine KC.seq ?_
    refine KC.region ?_
    refine KT.step rfl rfl (K.move rfl) ?_
    refine KT.step rfl rfl (K.move rfl) ?_
    refine KT.step rfl rfl (K.capNil rfl Try.underlying35) ?_
    refine KT.step rfl rfl (K.move rfl) ?_
    refine KT.step rfl rfl (K.len (l := ([] : List Int)) (R := IsI) rfl .nil Try.underlying35) ?_
    refine KT.step rfl rfl (K.sub (c := 0) rfl rfl rfl) ?_
    refine KT.step rfl rfl (K.sub (c := (m : Int)) rfl rfl (by rw [Int.sub_zero]; exact wrap_id (by omega))) ?_
    refine KT.step rfl rfl (K.assign rfl) ?_
    refine KT.nil ?_
    refine thenK_n ?_
    refine KC.seq ?_
    refine KC.region ?_
    refine KT.step rfl rfl (K.move rfl) ?_
    refine KT.step rfl rfl (K.gtr' (c := false) rfl rfl (decide_eq_false (by omega))) ?_
    refine KT.nil ?_
    refine thenK_n ?_
    refine KC.cond rfl (fun hc16 => ?_) (fun hc16 => ?_)
    · cases hc16
    · skip
      refine KC.skip ?_
      refine thenK_n ?_
      refine KC.seq ?_
      refine KC.region ?_
      refine KT.step rfl rfl (K.move rfl) ?_
      refine KT.step rfl rfl (K.assign rfl) ?_
      refine KT.nil ?_
      refine thenK_n ?_
      refine KC.ret ?_
      exact ⟨.inl rfl, rfl, rfl⟩
set_option maxRecDepth 10000 in
theorem grow114_pos {σ : List VObj} {m : Nat} (hm : 0 < m) (hm2 : m ≤ 1073741824) : OwnCall Try.prog 114 σ [.d Dnil, .d (DI m)] (σ ++ [⟨List.replicate m (.d (.lit (.int .i64 0))), 0⟩]) (.osl σ.length 0 0 1 m false) := by
  refine ownCall_K Try.func114 rfl (Nat.le_of_ble_eq_true rfl) fun M W0 => ?_
  refine KC.seq ?_
  refine KC.region ?_
  refine KT.step rfl rfl (K.assign rfl) ?_
  refine KT.nil ?_
  refine thenK_n ?_
  refine KC.seq ?_
  refine KC.seq ?_
  refine KC.region ?_
  refine KT.step rfl rfl (K.move rfl) ?_
  refine KT.step rfl rfl (K.lss' (c := false) rfl rfl (decide_eq_false (by omega))) ?_
  refine KT.nil ?_
  refine thenK_n ?_
  refine KC.cond rfl (fun hc6 => ?_) (fun hc6 => ?_)
  · cases hc6
  · skip
    refine KC.skip ?_
    refine thenK_n ?_
    refine KC.seq ?_
    refine KC.seq ?_
    refine KC.region ?_
    refine KT.step rfl rfl (K.move rfl) ?_
    refine KT.step rfl rfl (K.move rfl) ?_
    refine KT.step rfl rfl (K.capNil rfl Try.underlying35) ?_
    refine KT.step rfl rfl (K.move rfl) ?_
    refine KT.step rfl rfl (K.len (l := ([] : List Int)) (R := IsI) rfl .nil Try.underlying35) ?_
    refine KT.step rfl rfl (K.sub (c := 0) rfl rfl rfl) ?_
    refine KT.step rfl rfl (K.sub (c := (m : Int)) rfl rfl (by rw [Int.sub_zero]; exact wrap_id (by omega))) ?_
    refine KT.step rfl rfl (K.assign rfl) ?_
    refine KT.nil ?_
    refine thenK_n ?_
    refine KC.seq ?_
    refine KC.region ?_
    refine KT.step rfl rfl (K.move rfl) ?_
    refine KT.step rfl rfl (K.gtr' (c := true) rfl rfl (decide_eq_true (by omega))) ?_
    refine KT.nil ?_
    refine thenK_n ?_
    refine KC.cond rfl (fun hc16 => ?_) (fun hc16 => ?_)
    · skip
      refine KC.region ?_
      refine KT.step rfl rfl (K.move rfl) ?_
      refine KT.step rfl rfl (K.move rfl) ?_
      refine KT.step rfl rfl (K.capNil rfl Try.underlying35) ?_
      refine KT.step rfl rfl (K.takeV (d := Dnil) (xs := ([] : List Int)) (Q := IsI) (m := 0) rfl .nil rfl (Nat.le_refl 0) Try.underlying35 Try.size3) ?_
      refine KT.step rfl rfl (K.move rfl) ?_
      refine KT.step rfl rfl (K.appZ rfl rfl hm hm2 Try.underlying35 Try.underlying3 (by decide) Try.one3) ?_
      refine KT.step rfl rfl (K.move rfl) ?_
      refine KT.step rfl rfl (K.len (l := ([] : List Int)) (R := IsI) rfl .nil Try.underlying35) ?_
      refine KT.step rfl rfl (K.cut0 rfl rfl Try.underlying35 Try.size3) ?_
      refine KT.step rfl rfl (K.assign rfl) ?_
      refine KT.nil ?_
      refine thenK_n ?_
      refine KC.seq ?_
      refine KC.region ?_
      refine KT.step rfl rfl (K.move rfl) ?_
      refine KT.step rfl rfl (K.assign rfl) ?_
      refine KT.nil ?_
      refine thenK_n ?_
      refine KC.ret ?_
      exact ⟨.inl rfl, rfl, rfl⟩
    · cases hc16
theorem plainTry_102 : plainFn Try.prog 102 = true := by kernel_rfl

theorem ints_cellsC {cs : List DV} {len : Nat} {cap : Option Nat} {xs : List Int} (h : Ints (.sl cs len cap) xs) : cs = xs.map DI := by
  cases h with
  | sl hn h =>
    refine List.ext_getElem? fun i => ?_
    by_cases hi : i < xs.length
    · have hi' : i < cs.length := by omega
      have := h i _ _ (List.getElem?_eq_getElem hi') (List.getElem?_eq_getElem hi)
      rw [List.getElem?_eq_getElem hi', this, List.getElem?_map, List.getElem?_eq_getElem hi]; rfl
    · rw [List.getElem?_eq_none (by omega), List.getElem?_eq_none (by simp; omega)]
theorem ints_nil {xs : List Int} (h : Ints Dnil xs) : xs = [] := by cases h; rfl
theorem ints_one {xs : List Int} : ((xs.map DI).map XV.d).all oneX = true := by simp [oneX, Value.oneCell']
def pre (l : List (List Int)) (i : Nat) : List Int := (l.take i).flatten
theorem pre_succ {l : List (List Int)} {i : Nat} (h : i < l.length) : pre l (i + 1) = pre l i ++ l[i] := by
  rw [pre, List.take_succ_eq_append_getElem h, List.flatten_append]; simp [pre]
theorem pre_full {l : List (List Int)} {i : Nat} (h : l.length ≤ i) : pre l i = l.flatten := by rw [pre, List.take_of_length_le h]
theorem pre_le {l : List (List Int)} (i : Nat) : (pre l i).length ≤ l.flatten.length := by
  have : l.flatten = pre l i ++ (l.drop i).flatten := by rw [pre, ← List.flatten_append, List.take_append_drop]
  rw [this]; simp
def catC (l : List (List Int)) (N i : Nat) : List XV := ((pre l i).map DI).map XV.d ++ List.replicate (N - (pre l i).length) (.d (.lit (.int .i64 0)))
theorem catC_step {l : List (List Int)} {i : Nat} (h : i < l.length) : splice (catC l l.flatten.length i) (0 + (pre l i).length) ((l[i].map DI).map XV.d) = catC l l.flatten.length (i + 1) := by
  have h1 := pre_le (l := l) (i + 1)
  rw [pre_succ h, List.length_append] at h1
  rw [Nat.zero_add, catC, catC, pre_succ h, splice]
  rw [List.take_append_of_le_length (by simp), List.take_of_length_le (by simp)]
  rw [List.drop_append, List.drop_eq_nil_of_le (by simp), List.nil_append, List.drop_replicate]
  simp only [List.map_append, List.length_append, List.length_map, List.append_assoc]
  congr 3
  omega
theorem catC_len {l : List (List Int)} (i : Nat) : (catC l l.flatten.length i).length = l.flatten.length := by
  have := pre_le (l := l) i
  simp only [catC, List.length_append, List.length_map, List.length_replicate]; omega
def catD (xs : List Int) : DV := .sl (xs.map DI) xs.length none
theorem catD_ints (xs : List Int) : Ints (catD xs) xs := .sl (by simp) fun i c x hc hx => by
  rw [List.getElem?_map, hx] at hc
  simpa using hc.symm
theorem cat_fin {l : List (List Int)} : deepen (freezeAll [(⟨catC l l.flatten.length l.length, 0⟩ : VObj)]) 5 (.osl 0 0 l.flatten.length 1 l.flatten.length false) = some (catD l.flatten) := by
  have e : catC l l.flatten.length l.length = (l.flatten.map DI).map XV.d := by
    rw [catC, pre_full (Nat.le_refl _)]; simp
  rw [e]
  generalize l.flatten = F
  rw [deepen_osl (ob := ⟨(F.map DI).map .d, 1⟩) rfl rfl (by simp)]
  have h2 : (((F.map DI).map XV.d).drop 0).take (F.length * 1) = (F.map DI).map XV.d := by
    rw [List.drop_zero, Nat.mul_one, List.take_of_length_le (by simp)]
  rw [show ((⟨(F.map DI).map XV.d, 1⟩ : VObj).cells.drop 0).take (F.length * 1) = (F.map DI).map XV.d from h2, mapM_deep]
  rfl
set_option maxRecDepth 10000 in
theorem concat102 {d : DV} {l : List (List Int)} (hd : Mat d l) (hl : l.length ≤ 9223372036854775807) (hN : 0 < l.flatten.length) (hN2 : l.flatten.length ≤ 1073741824) : DeepCall Try.prog 102 [d] (catD l.flatten) := by
  refine deepCall_K 5 Try.func102 rfl (Nat.le_of_ble_eq_true rfl) fun M W0 => ?_
  refine KC.seq ?_
  refine KC.region ?_
  refine KT.step rfl rfl (K.assign rfl) ?_
  refine KT.nil ?_
  refine thenK_n ?_
  refine KC.seq ?_
  refine KC.region ?_
  refine KT.step rfl rfl (K.assign rfl) ?_
  refine KT.nil ?_
  refine thenK_n ?_
  refine KC.seq ?_
  refine KC.seq ?_
  refine KC.region ?_
  refine KT.step rfl rfl (K.move rfl) ?_
  refine KT.step rfl rfl (K.len rfl (by assumption) Try.underlying22) ?_
  refine KT.step rfl rfl (K.move rfl) ?_
  refine KT.nil ?_
  refine thenK_n ?_
  refine KC.block ?_
  refine KC.loop (fun _ : Nat => []) (fun i => [(0, .d d), (3, .d (DI (pre l i).length)), (9, .d d), (10, .d (DI l.length)), (11, .d (DI i))]) (fun i => i ≤ l.length) (fun i => l.length - i) 0 (Nat.zero_le _) rfl (by simp [Go.Vm.look, extK, enterK, pre]) ?_
  intro i hi
  refine KC.seq ?_
  refine KC.region ?_
  refine KT.step rfl rfl (K.lss rfl rfl) ?_
  refine KT.nil ?_
  refine thenK_n ?_
  refine KC.seq ?_
  refine KC.cond rfl (fun hc12 => ?_) (fun hc12 => ?_)
  · skip
    replace hc12 := of_decide_eq_true hc12
    have hlt : i < l.length := by omega
    have hle := pre_le (l := l) (i + 1)
    rw [pre_succ hlt, List.length_append] at hle
    refine KC.skip ?_
    refine thenK_n ?_
    refine KC.seq ?_
    refine KC.block ?_
    refine KC.seq ?_
    refine KC.region ?_
    refine KT.idx rfl rfl rfl (by assumption) rfl (by omega) Try.underlying22 Try.size35 fun c13 cs13 hq13 => ?_
    refine KT.step rfl rfl (K.load rfl Try.agg35) ?_
    refine KT.step rfl rfl (K.assign rfl) ?_
    refine KT.nil ?_
    refine thenK_n ?_
    refine KC.seq ?_
    refine KC.region ?_
    refine KT.step rfl rfl (K.move rfl) ?_
    refine KT.step rfl rfl (K.move rfl) ?_
    refine KT.step rfl rfl (K.len rfl (by assumption) Try.underlying35) ?_
    refine KT.step rfl rfl (K.add rfl rfl (wrap_id (by omega))) ?_
    refine KT.step rfl rfl (K.assign rfl) ?_
    refine KT.nil ?_
    refine thenK_n ?_
    refine KC.seq ?_
    refine KC.region ?_
    refine KT.step rfl rfl (K.move rfl) ?_
    refine KT.step rfl rfl (K.lss' (c := false) rfl rfl (decide_eq_false (by omega))) ?_
    refine KT.nil ?_
    refine thenK_n ?_
    refine KC.cond rfl (fun hc20 => ?_) (fun hc20 => ?_)
    · cases hc20
    · skip
      refine KC.skip ?_
      refine blockK_n ?_
      refine thenK_n ?_
      refine KC.region ?_
      refine KT.step rfl rfl (K.add rfl rfl (wrap_id (by omega))) ?_
      refine KT.step rfl rfl (K.move rfl) ?_
      refine KT.nil ?_
      refine thenK_n ?_
      refine ⟨i + 1, by omega, by omega, rfl, ?_⟩
      simp only [pre_succ hlt, List.length_append, Int.natCast_add]
      simp [Go.Vm.look, extK]
  · skip
    replace hc12 := of_decide_eq_false hc12
    have : i = l.length := by omega
    subst this
    refine KC.exit ?_
    refine thenK_x ?_
    refine thenK_x ?_
    refine blockK_e ?_
    refine thenK_n ?_
    refine KC.seq ?_
    refine KC.region ?_
    refine KT.step rfl rfl (K.move rfl) ?_
    rw [pre_full (Nat.le_refl _)]
    refine KT.step rfl rfl (K.callO (xs := [.d Dnil, .d (DI l.flatten.length)]) rfl plainTry_114 (grow114_pos hN hN2)) ?_
    refine KT.step rfl rfl (K.assign rfl) ?_
    refine KT.nil ?_
    refine thenK_n ?_
    refine KC.seq ?_
    refine KC.seq ?_
    refine KC.region ?_
    refine KT.step rfl rfl (K.move rfl) ?_
    refine KT.step rfl rfl (K.len rfl (by assumption) Try.underlying22) ?_
    refine KT.step rfl rfl (K.move rfl) ?_
    refine KT.nil ?_
    refine thenK_n ?_
    refine KC.block ?_
    refine KC.loop (fun i => [⟨catC l l.flatten.length i, 0⟩]) (fun i => [(6, .osl 0 0 (pre l i).length 1 l.flatten.length false), (25, .d d), (26, .d (DI l.length)), (27, .d (DI i))]) (fun i => i ≤ l.length) (fun i => l.length - i) 0 (Nat.zero_le _) (by simp [catC, pre]) (by simp [Go.Vm.look, extK, enterK, pre]) ?_
    intro i hi
    refine KC.seq ?_
    refine KC.region ?_
    refine KT.step rfl rfl (K.lss rfl rfl) ?_
    refine KT.nil ?_
    refine thenK_n ?_
    refine KC.seq ?_
    refine KC.cond rfl (fun hc28 => ?_) (fun hc28 => ?_)
    · skip
      replace hc28 := of_decide_eq_true hc28
      have hlt : i < l.length := by omega
      have hle := pre_le (l := l) (i + 1)
      rw [pre_succ hlt, List.length_append] at hle
      refine KC.skip ?_
      refine thenK_n ?_
      refine KC.seq ?_
      refine KC.block ?_
      refine KC.seq ?_
      refine KC.region ?_
      refine KT.idx rfl rfl rfl (by assumption) rfl (by omega) Try.underlying22 Try.size35 fun c29 cs29 hq29 => ?_
      refine KT.step rfl rfl (K.load rfl Try.agg35) ?_
      refine KT.step rfl rfl (K.assign rfl) ?_
      refine KT.nil ?_
      refine thenK_n ?_
      refine KC.region ?_
      refine KT.step rfl rfl (K.move rfl) ?_
      refine KT.step rfl rfl (K.move rfl) ?_
      refine KT.step rfl rfl (K.appIn (row := l[i].map DI) rfl rfl hq29 (fun cs cap h => by rw [h] at hq29; exact ints_cellsC hq29) (fun h => by rw [h] at hq29; rw [ints_nil hq29]; rfl) ints_one rfl (by omega) (by rw [catC_len]; omega) Try.underlying35 Try.size3) ?_
      refine KT.step rfl rfl (K.assign rfl) ?_
      refine KT.nil ?_
      refine blockK_n ?_
      refine thenK_n ?_
      refine KC.region ?_
      refine KT.step rfl rfl (K.add rfl rfl (wrap_id (by omega))) ?_
      refine KT.step rfl rfl (K.move rfl) ?_
      refine KT.nil ?_
      refine thenK_n ?_
      refine ⟨i + 1, by omega, by omega, ?_, ?_⟩
      · rw [← catC_step hlt]; rfl
      · simp only [pre_succ hlt, List.length_append]
        simp [Go.Vm.look, extK]
    · skip
      replace hc28 := of_decide_eq_false hc28
      have : i = l.length := by omega
      subst this
      refine KC.exit ?_
      refine thenK_x ?_
      refine thenK_x ?_
      refine blockK_e ?_
      refine thenK_n ?_
      refine KC.seq ?_
      refine KC.region ?_
      refine KT.step rfl rfl (K.move rfl) ?_
      refine KT.step rfl rfl (K.assign rfl) ?_
      refine KT.nil ?_
      refine thenK_n ?_
      refine KC.ret ?_
      rw [pre_full (Nat.le_refl _)]
      exact ⟨.inl rfl, _, rfl, cat_fin⟩
end Go.Proofs.Ytlomhajhoecoiaa
