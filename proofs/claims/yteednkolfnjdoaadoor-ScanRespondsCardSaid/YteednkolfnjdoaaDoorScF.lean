import Derived.Test.YteednkolfnjdoaaDoorScE
import Derived.Test.YteednkolfnjdoaaDoorCyY
import Derived.Test.YteednkolfnjdoaaDoorScZ
/-
  Controllers: what the laws share.
-/
namespace Go.Proofs.YteednkolfnjdoaaDoor
open Go.Vm Go.Sc
theorem plainTryd_71 : plainFn Tryd.prog 71 = true := by kernel_rfl
theorem plainTryd_39 : plainFn Tryd.prog 39 = true := by kernel_rfl
theorem plainTryd_41 : plainFn Tryd.prog 41 = true := by kernel_rfl
theorem plainTryd_100 : plainFn Tryd.prog 100 = true := by kernel_rfl
theorem plainTryd_24 : plainFn Tryd.prog 24 = true := by kernel_rfl
theorem plainTryd_19 : plainFn Tryd.prog 19 = true := by kernel_rfl
set_option maxRecDepth 100000 in
theorem awake19 : DeepCall Tryd.prog 19 [] (DB true) := runFnM_sound (inl := fun f => [52,81,82,83,84,112,91,123,143,124,125,126,127,128,129].contains f) (len := 3000) (k := 60) (f := 19) Tryd.mixed (by kernel_rfl)
theorem clone_fin {cs : List DV} {len : Nat} {cap : Option Nat} (hn : cs.length = len) (h0 : len ≠ 0) :
    deepen (freezeAll [(⟨[], 0⟩ : VObj), ⟨(cs.take len).map .d, 0⟩]) 5 (.osl 1 0 len 1 len false) = some (cloneD (.sl cs len cap)) := by
  have e : cs.take len = cs := List.take_of_length_le (by omega)
  rw [e]
  rw [deepen_osl (ob := ⟨cs.map .d, 1⟩) rfl rfl (by simp [hn])]
  have h2 : ((cs.map XV.d).drop 0).take (len * 1) = cs.map XV.d := by
    rw [List.drop_zero, Nat.mul_one, List.take_of_length_le (by simp [hn])]
  rw [show ((⟨cs.map XV.d, 1⟩ : VObj).cells.drop 0).take (len * 1) = cs.map XV.d from h2, mapM_deep]
  simp [cloneD, h0, e]
set_option maxRecDepth 10000 in
theorem clone100_nil : DeepCall Tryd.prog 100 [Dnil] Dnil := by
  refine deepCall_K 5 Tryd.func100 rfl (Nat.le_of_ble_eq_true rfl) fun M W0 => ?_
  refine KC.seq ?_
  refine KC.region ?_
  refine KT.step rfl rfl (K.assign rfl) ?_
  refine KT.nil ?_
  refine thenK_n ?_
  refine KC.seq ?_
  refine KC.seq ?_
  refine KC.region ?_
  refine KT.step rfl rfl (K.move rfl) ?_
  refine KT.step rfl rfl (K.eqNilNil rfl Tryd.underlying38) ?_
  refine KT.nil ?_
  refine thenK_n ?_
  refine KC.cond rfl (fun hc4 => ?_) (fun hc4 => ?_)
  · skip
    refine KC.seq ?_
    refine KC.region ?_
    refine KT.step rfl rfl (K.assign rfl) ?_
    refine KT.nil ?_
    refine thenK_n ?_
    refine KC.ret ?_
    refine thenK_r ?_
    exact ⟨.inl rfl, _, rfl, fin_d rfl⟩
  · cases hc4

set_option maxRecDepth 10000 in
theorem clone100_zero {cs : List DV} {cap : Option Nat} : DeepCall Tryd.prog 100 [.sl cs 0 cap] (.sl [] 0 (some 0)) := by
  refine deepCall_K 5 Tryd.func100 rfl (Nat.le_of_ble_eq_true rfl) fun M W0 => ?_
  refine KC.seq ?_
  refine KC.region ?_
  refine KT.step rfl rfl (K.assign rfl) ?_
  refine KT.nil ?_
  refine thenK_n ?_
  refine KC.seq ?_
  refine KC.seq ?_
  refine KC.region ?_
  refine KT.step rfl rfl (K.move rfl) ?_
  refine KT.step rfl rfl (K.eqNil rfl Tryd.underlying38) ?_
  refine KT.nil ?_
  refine thenK_n ?_
  refine KC.cond rfl (fun hc4 => ?_) (fun hc4 => ?_)
  · cases hc4
  · skip
    refine KC.skip ?_
    refine thenK_n ?_
    refine KC.seq ?_
    refine KC.region ?_
    refine KT.step rfl rfl (K.build0 Tryd.underlying38 Tryd.one3) ?_
    refine KT.step rfl rfl (K.move rfl) ?_
    refine KT.step rfl rfl (K.appNone rfl rfl Tryd.underlying38 Tryd.one3) ?_
    refine KT.step rfl rfl (K.assign rfl) ?_
    refine KT.nil ?_
    refine thenK_n ?_
    refine KC.ret ?_
    exact ⟨.inl rfl, _, rfl, rfl⟩

set_option maxRecDepth 10000 in
theorem clone100_all {cs : List DV} {len : Nat} {cap : Option Nat} (hn : cs.length = len) (h1 : ((cs.take len).map XV.d).all oneX = true) (h0 : len ≠ 0) (hl : len ≤ 1073741824) : DeepCall Tryd.prog 100 [.sl cs len cap] (cloneD (.sl cs len cap)) := by
  refine deepCall_K 5 Tryd.func100 rfl (Nat.le_of_ble_eq_true rfl) fun M W0 => ?_
  refine KC.seq ?_
  refine KC.region ?_
  refine KT.step rfl rfl (K.assign rfl) ?_
  refine KT.nil ?_
  refine thenK_n ?_
  refine KC.seq ?_
  refine KC.seq ?_
  refine KC.region ?_
  refine KT.step rfl rfl (K.move rfl) ?_
  refine KT.step rfl rfl (K.eqNil rfl Tryd.underlying38) ?_
  refine KT.nil ?_
  refine thenK_n ?_
  refine KC.cond rfl (fun hc4 => ?_) (fun hc4 => ?_)
  · cases hc4
  · skip
    refine KC.skip ?_
    refine thenK_n ?_
    refine KC.seq ?_
    refine KC.region ?_
    refine KT.step rfl rfl (K.build0 Tryd.underlying38 Tryd.one3) ?_
    refine KT.step rfl rfl (K.move rfl) ?_
    refine KT.step rfl rfl (K.appAll rfl rfl rfl hn h1 h0 hl Tryd.underlying38 Tryd.one3) ?_
    refine KT.step rfl rfl (K.assign rfl) ?_
    refine KT.nil ?_
    refine thenK_n ?_
    refine KC.ret ?_
    exact ⟨.inl rfl, _, rfl, clone_fin hn h0⟩

theorem clone100 {d : DV} {l : List Int} (hd : Ints d l) (hl : l.length ≤ 1073741824) : DeepCall Tryd.prog 100 [d] (cloneD d) := by
  rcases litOf_vec hd with ⟨rfl, rfl⟩ | ⟨cs, cap, rfl, hn, hr⟩
  · exact clone100_nil
  · by_cases h0 : l.length = 0
    · rw [h0]; exact clone100_zero
    · refine clone100_all hn ?_ h0 hl
      rw [List.all_map, List.all_eq_true]
      intro x hx
      obtain ⟨i, hi, rfl⟩ := List.getElem_of_mem (List.mem_of_mem_take hx)
      rw [hr i cs[i] l[i] (List.getElem?_eq_getElem hi) (List.getElem?_eq_getElem (by omega))]
      rfl

set_option maxRecDepth 10000 in
theorem equal24 {d e : DV} {x y : List Int} (hd : Ints d x) (he : Ints e y) (hl : x.length ≤ 9223372036854775807) :
    DeepCall Tryd.prog 24 [d, e] (DB (decide (x = y))) := by
  refine deepCall_K 5 Tryd.func24 rfl (Nat.le_of_ble_eq_true rfl) fun M W0 => ?_
  refine KC.seq ?_
  refine KC.region ?_
  refine KT.step rfl rfl (K.assign rfl) ?_
  refine KT.nil ?_
  refine thenK_n ?_
  refine KC.seq ?_
  refine KC.seq ?_
  refine KC.region ?_
  refine KT.step rfl rfl (K.move rfl) ?_
  refine KT.step rfl rfl (K.len rfl (by assumption) Tryd.underlying38) ?_
  refine KT.step rfl rfl (K.move rfl) ?_
  refine KT.step rfl rfl (K.len rfl (by assumption) Tryd.underlying38) ?_
  refine KT.step rfl rfl (K.neq rfl rfl) ?_
  refine KT.nil ?_
  refine thenK_n ?_
  refine KC.cond rfl (fun hc10 => ?_) (fun hc10 => ?_)
  · skip
    replace hc10 := of_decide_eq_true hc10
    refine KC.seq ?_
    refine KC.region ?_
    refine KT.step rfl rfl (K.assign rfl) ?_
    refine KT.nil ?_
    refine thenK_n ?_
    refine KC.ret ?_
    refine thenK_r ?_
    exact ⟨.inl rfl, _, rfl, fin_b (decide_eq_false fun h => by subst h; omega)⟩
  · skip
    replace hc10 := of_decide_eq_false hc10
    refine KC.skip ?_
    refine thenK_n ?_
    refine KC.seq ?_
    refine KC.seq ?_
    refine KC.region ?_
    refine KT.step rfl rfl (K.move rfl) ?_
    refine KT.step rfl rfl (K.len rfl (by assumption) Tryd.underlying38) ?_
    refine KT.step rfl rfl (K.move rfl) ?_
    refine KT.nil ?_
    refine thenK_n ?_
    refine KC.block ?_
    refine KC.loop (fun _ : Nat => []) (fun i => [(0, .d d), (1, .d e), (12, .d (DI x.length)), (13, .d (DI i))]) (fun i => i ≤ x.length ∧ x.take i = y.take i) (fun i => x.length - i) 0 ⟨Nat.zero_le _, rfl⟩ rfl (by simp [Go.Vm.look, extK, enterK]) ?_
    intro i hi
    obtain ⟨hi, hall⟩ := hi
    refine KC.seq ?_
    refine KC.region ?_
    refine KT.step rfl rfl (K.lss rfl rfl) ?_
    refine KT.nil ?_
    refine thenK_n ?_
    refine KC.seq ?_
    refine KC.cond rfl (fun hc14 => ?_) (fun hc14 => ?_)
    · skip
      replace hc14 := of_decide_eq_true hc14
      refine KC.skip ?_
      refine thenK_n ?_
      refine KC.seq ?_
      refine KC.block ?_
      refine KC.seq ?_
      refine KC.region ?_
      refine KT.step rfl rfl (K.move rfl) ?_
      refine KT.step rfl rfl (K.assign rfl) ?_
      refine KT.nil ?_
      refine thenK_n ?_
      refine KC.seq ?_
      refine KC.draw Tryd.mixed ?_
      refine KT.step rfl rfl (K.move rfl) ?_
      refine KT.step rfl rfl (K.move rfl) ?_
      refine KT.idxI rfl rfl rfl (by assumption) rfl (by omega) Tryd.underlying38 Tryd.size3 fun cs18 => ?_
      refine KT.step rfl rfl (K.load rfl Tryd.agg3) ?_
      refine KT.step rfl rfl (K.move rfl) ?_
      refine KT.step rfl rfl (K.move rfl) ?_
      refine KT.idxI rfl rfl rfl (by assumption) rfl (by omega) Tryd.underlying38 Tryd.size3 fun cs22 => ?_
      refine KT.step rfl rfl (K.load rfl Tryd.agg3) ?_
      refine KT.step rfl rfl (K.neq rfl rfl) ?_
      refine KT.nil ?_
      refine ⟨by kernel_rfl, ?_⟩
      refine thenK_n ?_
      refine KC.cond rfl (fun hc24 => ?_) (fun hc24 => ?_)
      · skip
        replace hc24 := of_decide_eq_true hc24
        refine KC.seq ?_
        refine KC.region ?_
        refine KT.step rfl rfl (K.assign rfl) ?_
        refine KT.nil ?_
        refine thenK_n ?_
        refine KC.ret ?_
        refine blockK_r ?_
        refine thenK_r ?_
        refine thenK_r ?_
        refine blockK_r ?_
        refine thenK_r ?_
        exact ⟨.inl rfl, _, rfl, fin_b (decide_eq_false fun h => by subst h; exact hc24 rfl)⟩
      · skip
        replace hc24 := of_decide_eq_false hc24
        refine KC.skip ?_
        refine blockK_n ?_
        refine thenK_n ?_
        refine KC.region ?_
        refine KT.step rfl rfl (K.add rfl rfl (wrap_id (by omega))) ?_
        refine KT.step rfl rfl (K.move rfl) ?_
        refine KT.nil ?_
        refine thenK_n ?_
        refine ⟨i + 1, ⟨by omega, ?_⟩, by omega, rfl, by simp [Go.Vm.look, extK]⟩
        rw [List.take_succ_eq_append_getElem (by omega), List.take_succ_eq_append_getElem (by omega), hall, Classical.not_not.1 hc24]
    · skip
      replace hc14 := of_decide_eq_false hc14
      refine KC.exit ?_
      refine thenK_x ?_
      refine thenK_x ?_
      refine blockK_e ?_
      refine thenK_n ?_
      refine KC.seq ?_
      refine KC.region ?_
      refine KT.step rfl rfl (K.assign rfl) ?_
      refine KT.nil ?_
      refine thenK_n ?_
      refine KC.ret ?_
      have hx : x.take i = x := List.take_of_length_le (by omega)
      have hy : y.take i = y := List.take_of_length_le (by omega)
      rw [hx, hy] at hall
      exact ⟨.inl rfl, _, rfl, fin_b (decide_eq_true hall)⟩

/-- The first eight. -/
def list10 (l : List Int) (d : DV) : DV := cloneD (takeV (min l.length 10) d)
theorem list10_ints {d : DV} {l : List Int} (hd : Ints d l) : Ints (list10 l d) (l.take 10) := by
  have h := cloneD_vec (takeV_vec hd (m := min l.length 10) (by omega))
  have e : l.take (min l.length 10) = l.take 10 := by
    by_cases h8 : l.length ≤ 10
    · rw [List.take_of_length_le (by omega), List.take_of_length_le h8]
    · rw [show min l.length 10 = 10 by omega]
  rwa [e] at h
def row18 (m : List (List Int)) (d : DV) (i : Nat) : DV := list10 (m.getD i []) (getV d i)
def rows18 (m : List (List Int)) (d : DV) : DV := slOf ((List.range (min m.length 18)).map (row18 m d))

theorem row18_ints {d : DV} {m : List (List Int)} (hd : Mat d m) {i : Nat} (hi : i < m.length) : Ints (getV d i) (m.getD i []) := by
  have := getV_vec hd hi
  rwa [show m.getD i [] = m[i] by simp [hi]]

theorem rows18_mat {d : DV} {m : List (List Int)} (hd : Mat d m) : Mat (rows18 m d) ((m.take 18).map (List.take 10)) := by
  have hlen : ((List.range (min m.length 18)).map (row18 m d)).length = ((m.take 18).map (List.take 10)).length := by simp; omega
  unfold rows18
  generalize hg : (List.range (min m.length 18)).map (row18 m d) = ds at hlen
  cases ds with
  | nil =>
    have : (m.take 18).map (List.take 10) = [] := List.length_eq_zero_iff.1 hlen.symm
    rw [this]; exact .nil
  | cons a ds =>
    rw [show slOf (a :: ds) = .sl (a :: ds) (a :: ds).length none from rfl, hlen]
    refine .sl hlen fun i c x hc hx => ?_
    rw [← hg, List.getElem?_map] at hc
    by_cases hi : i < min m.length 18
    · rw [List.getElem?_range hi] at hc
      simp only [Option.map_some, Option.some.injEq] at hc
      rw [List.getElem?_map, List.getElem?_take, if_pos (by omega), List.getElem?_eq_getElem (by omega)] at hx
      simp only [Option.map_some, Option.some.injEq] at hx
      subst hc hx
      have := list10_ints (row18_ints hd (i := i) (by omega))
      have e : m.getD i [] = m[i] := by simp [show i < m.length by omega]
      unfold row18
      rw [e] at this ⊢; exact this
    · rw [List.getElem?_eq_none (by simp; omega)] at hc; cases hc
set_option maxRecDepth 10000 in
theorem rows71 {d : DV} {m : List (List Int)} (hd : Mat d m) (hl : m.length ≤ 9223372036854775807) (hr : ∀ i, i < m.length → (m.getD i []).length ≤ 9223372036854775807) : DeepCall Tryd.prog 71 [d] (rows18 m d) := by
  refine deepCall_K 5 Tryd.func71 rfl (Nat.le_of_ble_eq_true rfl) fun M W0 => ?_
  refine KC.seq ?_
  refine KC.region ?_
  refine KT.step rfl rfl (K.assign rfl) ?_
  refine KT.nil ?_
  refine thenK_n ?_
  refine KC.seq ?_
  refine KC.region ?_
  refine KT.step rfl rfl (K.assign rfl) ?_
  refine KT.nil ?_
  refine thenK_n ?_
  refine KC.seq ?_
  refine KC.seq ?_
  refine KC.region ?_
  refine KT.step rfl rfl (K.move rfl) ?_
  refine KT.step rfl rfl (K.len rfl (by assumption) Tryd.underlying56) ?_
  refine KT.step rfl rfl (K.move rfl) ?_
  refine KT.nil ?_
  refine thenK_n ?_
  refine KC.block ?_
  refine KC.loop (fun p : List VObj × XV × Nat => p.1) (fun p => [(0, .d d), (3, p.2.1), (6, .d d), (7, .d (DI m.length)), (8, .d (DI p.2.2))]) (fun p => p.2.2 ≤ m.length ∧ p.2.2 ≤ 18 ∧ Own p.1 p.2.1 (((List.range p.2.2).map (row18 m d)).map .d) ∧ (p.2.2 = 0 → p.2.1 = .d Dnil)) (fun p => m.length - p.2.2) ([], .d Dnil, 0) ⟨Nat.zero_le _, Nat.zero_le _, .nil, fun _ => rfl⟩ rfl (by simp [Go.Vm.look, extK, enterK]) ?_
  intro p hp
  obtain ⟨σ0, x0, i⟩ := p
  obtain ⟨hi, hi8, hown, hnil⟩ := hp
  simp only at hi hi8 hown hnil ⊢
  refine KC.seq ?_
  refine KC.region ?_
  refine KT.step rfl rfl (K.lss rfl rfl) ?_
  refine KT.nil ?_
  refine thenK_n ?_
  refine KC.seq ?_
  refine KC.cond rfl (fun hc9 => ?_) (fun hc9 => ?_)
  · skip
    simp at hc9
    have hlt : i < m.length := by omega
    have hrow := row18_ints hd hlt
    have hrl := hr i hlt
    refine KC.skip ?_
    refine thenK_n ?_
    refine KC.seq ?_
    refine KC.block ?_
    refine KC.seq ?_
    refine KC.region ?_
    refine KT.step rfl rfl (K.move rfl) ?_
    refine KT.step rfl rfl (K.idxV rfl (by assumption) rfl (by omega) Tryd.underlying56 Tryd.size38) ?_
    refine KT.step rfl rfl (K.load rfl Tryd.agg38) ?_
    refine KT.step rfl rfl (K.assign rfl) ?_
    refine KT.step rfl rfl (K.assign rfl) ?_
    refine KT.nil ?_
    refine thenK_n ?_
    refine KC.seq ?_
    refine KC.seq ?_
    refine KC.region ?_
    refine KT.step rfl rfl (K.move rfl) ?_
    refine KT.step rfl rfl (K.gtr rfl rfl) ?_
    refine KT.nil ?_
    refine thenK_n ?_
    refine KC.cond rfl (fun hc14 => ?_) (fun hc14 => ?_)
    · skip
      simp at hc14
      refine KC.exit ?_
      refine thenK_x ?_
      refine blockK_x (by decide) ?_
      refine thenK_x ?_
      refine thenK_x ?_
      refine blockK_e ?_
      refine thenK_n ?_
      refine KC.seq ?_
      refine KC.region ?_
      refine KT.step rfl rfl (K.move rfl) ?_
      refine KT.step rfl rfl (K.assign rfl) ?_
      refine KT.nil ?_
      refine thenK_n ?_
      refine KC.ret ?_
      have : i = min m.length 18 := by omega
      subst this
      refine ⟨.inl rfl, _, rfl, fin_own hown fun h => hnil ?_⟩
      simpa using h
    · skip
      simp at hc14
      refine KC.skip ?_
      refine thenK_n ?_
      refine KC.region ?_
      refine KT.step rfl rfl (K.move rfl) ?_
      refine KT.step rfl rfl (K.move rfl) ?_
      refine KT.step rfl rfl (K.move rfl) ?_
      refine KT.step rfl rfl (K.len rfl (by assumption) Tryd.underlying38) ?_
      refine KT.step rfl rfl (K.minN (b := 10) rfl rfl) ?_
      refine KT.step rfl rfl (K.takeV rfl (by assumption) rfl (by omega) Tryd.underlying38 Tryd.size3) ?_
      refine KT.step rfl rfl (K.call1 rfl plainTryd_100 (clone100 (takeV_vec hrow (by omega)) (by simp; omega))) ?_
      refine KT.step rfl rfl (K.build1' (v := .d (row18 m d i)) rfl (cellsX_clone (takeV_vec hrow (m := min (m.getD i []).length 10) (by omega))).1 Tryd.underlying56 Tryd.one38) ?_
      refine KT.app (v := .d (row18 m d i)) rfl rfl rfl rfl (Own.pushed hown _) (by simp) (cellsX_clone (takeV_vec hrow (m := min (m.getD i []).length 10) (by omega))).2 (by simp; omega) Tryd.underlying56 Tryd.one38 fun σ1 x1 ho1 => ?_
      refine KT.step rfl rfl (K.assign rfl) ?_
      refine KT.nil ?_
      refine blockK_n ?_
      refine thenK_n ?_
      refine KC.region ?_
      refine KT.step rfl rfl (K.add rfl rfl (wrap_id (by omega))) ?_
      refine KT.step rfl rfl (K.move rfl) ?_
      refine KT.nil ?_
      refine thenK_n ?_
      refine ⟨(σ1, x1, i + 1), ⟨by simp only; omega, by simp only; omega, ?_, fun h => by simp at h⟩, by simp only; omega, rfl, by simp [Go.Vm.look, extK]⟩
      rw [List.range_succ, List.map_append, List.map_append]
      exact ho1
  · skip
    simp at hc9
    refine KC.exit ?_
    refine thenK_x ?_
    refine thenK_x ?_
    refine blockK_e ?_
    refine thenK_n ?_
    refine KC.seq ?_
    refine KC.region ?_
    refine KT.step rfl rfl (K.move rfl) ?_
    refine KT.step rfl rfl (K.assign rfl) ?_
    refine KT.nil ?_
    refine thenK_n ?_
    refine KC.ret ?_
    have : i = min m.length 18 := by omega
    subst this
    refine ⟨.inl rfl, _, rfl, fin_own hown fun h => hnil ?_⟩
    simpa using h

def cutM (m : List (List Int)) : List (List Int) := (m.take 18).map (List.take 10)
theorem cut_len (m : List (List Int)) : (cutM m).length ≤ 18 := by unfold cutM; simp; omega
theorem cut_row (m : List (List Int)) : ∀ r ∈ cutM m, r.length ≤ 10 := fun r hr => by
  obtain ⟨x, _, rfl⟩ := List.mem_map.1 hr
  simp; omega
theorem cut_id {m : List (List Int)} (h1 : m.length ≤ 18) (h2 : ∀ r ∈ m, r.length ≤ 10) : cutM m = m := by
  unfold cutM
  rw [List.take_of_length_le h1]
  conv => rhs; rw [← List.map_id m]
  exact List.map_congr_left fun r hr => List.take_of_length_le (h2 r hr)
theorem VM_cut {a : Int} {nx ou : List (List Int)} (h : VM a nx ou) : cutM nx = nx ∧ cutM ou = ou := by
  have := h.n16; have := h.oul; have := h.a8
  exact ⟨cut_id (by omega) fun r hr => by have := (h.nr r hr).1; omega, cut_id (by omega) fun r hr => by have := (h.or r hr).1; omega⟩
theorem VM_uncut {a : Int} {nx ou : List (List Int)} (h : VM a (cutM nx) (cutM ou)) : VM a nx ou := by
  have n16 := h.n16; have oul := h.oul; have a8 := h.a8
  have l1 : nx.length ≤ 18 := by
    have : (cutM nx).length = min nx.length 18 := by simp [cutM, Nat.min_comm]
    omega
  have l2 : ou.length ≤ 18 := by
    have : (cutM ou).length = min ou.length 18 := by simp [cutM, Nat.min_comm]
    have : (cutM nx).length = min nx.length 18 := by simp [cutM, Nat.min_comm]
    omega
  have key : ∀ m : List (List Int), m.length ≤ 18 → (∀ r ∈ cutM m, (r.length : Int) = a) → cutM m = m := fun m hm hr => cut_id hm fun r h1 => by
    have := hr (r.take 10) (by unfold cutM; rw [List.take_of_length_le hm]; exact List.mem_map.2 ⟨r, h1, rfl⟩)
    simp at this; omega
  rw [key nx l1 fun r hr => (h.nr r hr).1, key ou l2 fun r hr => (h.or r hr).1] at h
  exact h
theorem vm_cut {a : Int} {nx ou : List (List Int)} : VM a (cutM nx) (cutM ou) ↔ VM a nx ou := ⟨VM_uncut, fun h => by rw [(VM_cut h).1, (VM_cut h).2]; exact h⟩
theorem getD_rows {m : List (List Int)} {B : Nat} (h : ∀ r ∈ m, r.length ≤ B) : ∀ i, i < m.length → (m.getD i []).length ≤ B := fun i hi => by
  rw [show m.getD i [] = m[i] by simp [hi]]; exact h _ (List.getElem_mem hi)
theorem build58_3 (x : Int) {d e : DV} (h1 : SlD d) (h2 : SlD e) : opBuild Tryd.prog 58 [(0, .d (DI x)), (1, .d d), (2, .d e)] = some (.d (.agg [DI x, d, e])) := by
  cases h1 <;> cases h2 <;> kernel_rfl
set_option maxRecDepth 10000 in
theorem machine39 {a : Int} {nd od : DV} {nx ou : List (List Int)} (hn : Mat nd nx) (ho : Mat od ou) (hnl : nx.length ≤ 9223372036854775807) (hol : ou.length ≤ 9223372036854775807) (hnr : ∀ r ∈ nx, r.length ≤ 9223372036854775807) (hor : ∀ r ∈ ou, r.length ≤ 9223372036854775807) : DeepCall Tryd.prog 39 [.agg [DI a, nd, od]] (.agg [DI a, rows18 nx nd, rows18 ou od]) := by
  refine deepCall_K 5 Tryd.func39 rfl (Nat.le_of_ble_eq_true rfl) fun M W0 => ?_
  refine KC.seq ?_
  refine KC.region ?_
  refine KT.step rfl rfl (K.box rfl) ?_
  refine KT.step rfl rfl (K.alloc Tryd.zero58) ?_
  refine KT.nil ?_
  refine thenK_n ?_
  refine KC.seq ?_
  refine KC.draw Tryd.mixed ?_
  refine KT.step rfl rfl (K.fieldAddrO rfl Tryd.fld63_0 Tryd.size3) ?_
  refine KT.step rfl rfl (K.loadO rfl rfl (by simp) rfl Tryd.agg3) ?_
  refine KT.step rfl rfl (K.fieldAddrO rfl Tryd.fld63_1 Tryd.size56) ?_
  refine KT.step rfl rfl (K.loadO rfl rfl (by simp) rfl Tryd.agg56) ?_
  refine KT.step rfl rfl (K.call1 rfl plainTryd_71 (rows71 hn hnl (getD_rows hnr))) ?_
  refine KT.step rfl rfl (K.fieldAddrO rfl Tryd.fld63_2 Tryd.size56) ?_
  refine KT.step rfl rfl (K.loadO rfl rfl (by simp) rfl Tryd.agg56) ?_
  refine KT.step rfl rfl (K.call1 rfl plainTryd_71 (rows71 ho hol (getD_rows hor))) ?_
  refine KT.step rfl rfl (K.buildS rfl (build58_3 _ (SlD.of (rows18_mat hn)) (SlD.of (rows18_mat ho)))) ?_
  refine KT.storeL (cs := [.d (DI a), .d (rows18 nx nd), .d (rows18 ou od)]) rfl rfl rfl rfl rfl rfl (by simp only [List.all_cons, (SlD.of (rows18_mat hn)).one, (SlD.of (rows18_mat ho)).one]; rfl) Tryd.size58 ?_
  refine KT.nil ?_
  refine ⟨by kernel_rfl, ?_⟩
  refine thenK_n ?_
  refine KC.ret ?_
  exact ⟨.inl rfl, _, resK_c [DI a, rows18 nx nd, rows18 ou od] rfl rfl rfl (by decide) Tryd.agg58 Tryd.size58 rfl, fin_d rfl⟩
set_option maxHeartbeats 1600000 in
set_option maxRecDepth 10000 in
theorem Right41 {a : Int} {nd od : DV} {nx ou : List (List Int)} (hn : Mat nd nx) (ho : Mat od ou) (hnl : nx.length ≤ 9223372036854775807) (_ : ou.length ≤ 9223372036854775807) (_ : ∀ r ∈ nx, r.length ≤ 9223372036854775807) (_ : ∀ r ∈ ou, r.length ≤ 9223372036854775807) : DeepCall Tryd.prog 41 [.agg [DI a, nd, od]] (DB (vmB a nx ou)) := by
  refine deepCall_K 5 Tryd.func41 rfl (Nat.le_of_ble_eq_true rfl) fun M W0 => ?_
  refine KC.seq ?_
  refine KC.region ?_
  refine KT.step rfl rfl (K.box rfl) ?_
  refine KT.step rfl rfl (K.assign rfl) ?_
  refine KT.nil ?_
  refine thenK_n ?_
  refine KC.seq ?_
  refine KC.region ?_
  refine KT.step rfl rfl (K.fieldAddrO rfl Tryd.fld63_1 Tryd.size56) ?_
  refine KT.step rfl rfl (K.loadO rfl rfl (by simp) rfl Tryd.agg56) ?_
  refine KT.step rfl rfl (K.len rfl hn Tryd.underlying56) ?_
  refine KT.step rfl rfl (K.assign rfl) ?_
  refine KT.nil ?_
  refine thenK_n ?_
  refine KC.seq ?_
  refine KC.seq ?_
  refine KC.region ?_
  refine KT.step rfl rfl (K.fieldAddrO rfl Tryd.fld63_0 Tryd.size3) ?_
  refine KT.step rfl rfl (K.loadO rfl rfl (by simp) rfl Tryd.agg3) ?_
  refine KT.step rfl rfl (K.lss rfl rfl) ?_
  refine KT.step rfl rfl (K.move rfl) ?_
  refine KT.bcase (fun hb12 => ?_) (fun hb12 => ?_)
  · skip
    replace hb12 := of_decide_eq_true hb12
    refine KT.skip rfl rfl ?_
    refine KT.skip rfl rfl ?_
    refine KT.skip rfl rfl ?_
    refine KT.step rfl rfl (K.pick rfl (fun _ => rfl) (fun h => by cases h)) ?_
    refine KT.step rfl rfl (K.move rfl) ?_
    refine KT.skip rfl rfl ?_
    refine KT.skip rfl rfl ?_
    refine KT.step rfl rfl (K.pick rfl (fun _ => rfl) (fun h => by cases h)) ?_
    refine KT.step rfl rfl (K.move rfl) ?_
    refine KT.skip rfl rfl ?_
    refine KT.skip rfl rfl ?_
    refine KT.step rfl rfl (K.pick rfl (fun _ => rfl) (fun h => by cases h)) ?_
    refine KT.step rfl rfl (K.move rfl) ?_
    refine KT.skip rfl rfl ?_
    refine KT.skip rfl rfl ?_
    refine KT.skip rfl rfl ?_
    refine KT.skip rfl rfl ?_
    refine KT.skip rfl rfl ?_
    refine KT.step rfl rfl (K.pick rfl (fun _ => rfl) (fun h => by cases h)) ?_
    refine KT.nil ?_
    refine thenK_n ?_
    refine KC.cond rfl (fun hc31 => ?_) (fun hc31 => ?_)
    · skip
      refine KC.seq ?_
      refine KC.region ?_
      refine KT.step rfl rfl (K.assign rfl) ?_
      refine KT.nil ?_
      refine thenK_n ?_
      refine KC.ret ?_
      refine thenK_r ?_
      refine ⟨.inl rfl, _, rfl, fin_b (vmB_no fun h => ?_)⟩
      have h1 := h.a1; have h2 := h.a8; have h3 := h.n1; have h4 := h.n16; have h5 := h.oul
      omega
    · cases hc31
  · skip
    replace hb12 := of_decide_eq_false hb12
    refine KT.step rfl rfl (K.fieldAddrO rfl Tryd.fld63_0 Tryd.size3) ?_
    refine KT.step rfl rfl (K.loadO rfl rfl (by simp) rfl Tryd.agg3) ?_
    refine KT.step rfl rfl (K.gtr rfl rfl) ?_
    refine KT.step rfl rfl (K.pick rfl (fun h => by cases h) (fun _ => rfl)) ?_
    refine KT.step rfl rfl (K.move rfl) ?_
    refine KT.bcase (fun hb17 => ?_) (fun hb17 => ?_)
    · skip
      replace hb17 := of_decide_eq_true hb17
      refine KT.skip rfl rfl ?_
      refine KT.skip rfl rfl ?_
      refine KT.step rfl rfl (K.pick rfl (fun _ => rfl) (fun h => by cases h)) ?_
      refine KT.step rfl rfl (K.move rfl) ?_
      refine KT.skip rfl rfl ?_
      refine KT.skip rfl rfl ?_
      refine KT.step rfl rfl (K.pick rfl (fun _ => rfl) (fun h => by cases h)) ?_
      refine KT.step rfl rfl (K.move rfl) ?_
      refine KT.skip rfl rfl ?_
      refine KT.skip rfl rfl ?_
      refine KT.skip rfl rfl ?_
      refine KT.skip rfl rfl ?_
      refine KT.skip rfl rfl ?_
      refine KT.step rfl rfl (K.pick rfl (fun _ => rfl) (fun h => by cases h)) ?_
      refine KT.nil ?_
      refine thenK_n ?_
      refine KC.cond rfl (fun hc31 => ?_) (fun hc31 => ?_)
      · skip
        refine KC.seq ?_
        refine KC.region ?_
        refine KT.step rfl rfl (K.assign rfl) ?_
        refine KT.nil ?_
        refine thenK_n ?_
        refine KC.ret ?_
        refine thenK_r ?_
        refine ⟨.inl rfl, _, rfl, fin_b (vmB_no fun h => ?_)⟩
        have h1 := h.a1; have h2 := h.a8; have h3 := h.n1; have h4 := h.n16; have h5 := h.oul
        omega
      · cases hc31
    · skip
      replace hb17 := of_decide_eq_false hb17
      refine KT.step rfl rfl (K.move rfl) ?_
      refine KT.step rfl rfl (K.lss rfl rfl) ?_
      refine KT.step rfl rfl (K.pick rfl (fun h => by cases h) (fun _ => rfl)) ?_
      refine KT.step rfl rfl (K.move rfl) ?_
      refine KT.bcase (fun hb21 => ?_) (fun hb21 => ?_)
      · skip
        replace hb21 := of_decide_eq_true hb21
        refine KT.skip rfl rfl ?_
        refine KT.skip rfl rfl ?_
        refine KT.step rfl rfl (K.pick rfl (fun _ => rfl) (fun h => by cases h)) ?_
        refine KT.step rfl rfl (K.move rfl) ?_
        refine KT.skip rfl rfl ?_
        refine KT.skip rfl rfl ?_
        refine KT.skip rfl rfl ?_
        refine KT.skip rfl rfl ?_
        refine KT.skip rfl rfl ?_
        refine KT.step rfl rfl (K.pick rfl (fun _ => rfl) (fun h => by cases h)) ?_
        refine KT.nil ?_
        refine thenK_n ?_
        refine KC.cond rfl (fun hc31 => ?_) (fun hc31 => ?_)
        · skip
          refine KC.seq ?_
          refine KC.region ?_
          refine KT.step rfl rfl (K.assign rfl) ?_
          refine KT.nil ?_
          refine thenK_n ?_
          refine KC.ret ?_
          refine thenK_r ?_
          refine ⟨.inl rfl, _, rfl, fin_b (vmB_no fun h => ?_)⟩
          have h1 := h.a1; have h2 := h.a8; have h3 := h.n1; have h4 := h.n16; have h5 := h.oul
          omega
        · cases hc31
      · skip
        replace hb21 := of_decide_eq_false hb21
        refine KT.step rfl rfl (K.move rfl) ?_
        refine KT.step rfl rfl (K.gtr rfl rfl) ?_
        refine KT.step rfl rfl (K.pick rfl (fun h => by cases h) (fun _ => rfl)) ?_
        refine KT.step rfl rfl (K.move rfl) ?_
        refine KT.bcase (fun hb25 => ?_) (fun hb25 => ?_)
        · skip
          replace hb25 := of_decide_eq_true hb25
          refine KT.skip rfl rfl ?_
          refine KT.skip rfl rfl ?_
          refine KT.skip rfl rfl ?_
          refine KT.skip rfl rfl ?_
          refine KT.skip rfl rfl ?_
          refine KT.step rfl rfl (K.pick rfl (fun _ => rfl) (fun h => by cases h)) ?_
          refine KT.nil ?_
          refine thenK_n ?_
          refine KC.cond rfl (fun hc31 => ?_) (fun hc31 => ?_)
          · skip
            refine KC.seq ?_
            refine KC.region ?_
            refine KT.step rfl rfl (K.assign rfl) ?_
            refine KT.nil ?_
            refine thenK_n ?_
            refine KC.ret ?_
            refine thenK_r ?_
            refine ⟨.inl rfl, _, rfl, fin_b (vmB_no fun h => ?_)⟩
            have h1 := h.a1; have h2 := h.a8; have h3 := h.n1; have h4 := h.n16; have h5 := h.oul
            omega
          · cases hc31
        · skip
          replace hb25 := of_decide_eq_false hb25
          refine KT.step rfl rfl (K.fieldAddrO rfl Tryd.fld63_2 Tryd.size56) ?_
          refine KT.step rfl rfl (K.loadO rfl rfl (by simp) rfl Tryd.agg56) ?_
          refine KT.step rfl rfl (K.len rfl ho Tryd.underlying56) ?_
          refine KT.step rfl rfl (K.move rfl) ?_
          refine KT.step rfl rfl (K.neq rfl rfl) ?_
          refine KT.step rfl rfl (K.pick rfl (fun h => by cases h) (fun _ => rfl)) ?_
          refine KT.nil ?_
          refine thenK_n ?_
          refine KC.cond rfl (fun hc31 => ?_) (fun hc31 => ?_)
          · skip
            replace hc31 := of_decide_eq_true hc31
            refine KC.seq ?_
            refine KC.region ?_
            refine KT.step rfl rfl (K.assign rfl) ?_
            refine KT.nil ?_
            refine thenK_n ?_
            refine KC.ret ?_
            refine thenK_r ?_
            refine ⟨.inl rfl, _, rfl, fin_b (vmB_no fun h => ?_)⟩
            have h1 := h.a1; have h2 := h.a8; have h3 := h.n1; have h4 := h.n16; have h5 := h.oul
            omega
          · skip
            replace hc31 := of_decide_eq_false hc31
            refine KC.skip ?_
            refine thenK_n ?_
            refine KC.seq ?_
            refine KC.seq ?_
            refine KC.region ?_
            refine KT.step rfl rfl (K.move rfl) ?_
            refine KT.step rfl rfl (K.move rfl) ?_
            refine KT.nil ?_
            refine thenK_n ?_
            refine KC.block ?_
            refine KC.loop (fun _ : Nat => _) (fun i => [(1, .optr 0 0), (3, .d (DI (nx.length : Nat))), (32, .d (DI (nx.length : Nat))), (33, .d (DI (i : Nat)))]) (fun i => i ≤ nx.length ∧ (∀ r ∈ nx.take i, (r.length : Int) = a ∧ ∀ x ∈ r, 0 ≤ x ∧ x < nx.length) ∧ ∀ r ∈ ou.take i, (r.length : Int) = a ∧ ∀ x ∈ r, 0 ≤ x ∧ x ≤ 7) (fun i => nx.length - i) 0 ⟨Nat.zero_le _, fun x hx => by simp at hx, fun x hx => by simp at hx⟩ rfl (by simp [Go.Vm.look, extK, enterK]) ?_
            intro i hi
            obtain ⟨hi, hall, hall2⟩ := hi
            refine KC.seq ?_
            refine KC.region ?_
            refine KT.step rfl rfl (K.lss rfl rfl) ?_
            refine KT.nil ?_
            refine thenK_n ?_
            refine KC.seq ?_
            refine KC.cond rfl (fun hc34 => ?_) (fun hc34 => ?_)
            · skip
              replace hc34 := of_decide_eq_true hc34
              have hil : i < nx.length := by omega
              have hio : i < ou.length := by omega
              refine KC.skip ?_
              refine thenK_n ?_
              refine KC.seq ?_
              refine KC.block ?_
              refine KC.seq ?_
              refine KC.region ?_
              refine KT.step rfl rfl (K.move rfl) ?_
              refine KT.step rfl rfl (K.assign rfl) ?_
              refine KT.nil ?_
              refine thenK_n ?_
              refine KC.seq ?_
              refine KC.seq ?_
              refine KC.draw Tryd.mixed ?_
              refine KT.step rfl rfl (K.fieldAddrO rfl Tryd.fld63_1 Tryd.size56) ?_
              refine KT.step rfl rfl (K.loadO rfl rfl (by simp) rfl Tryd.agg56) ?_
              refine KT.step rfl rfl (K.move rfl) ?_
              refine KT.idx (m := i) rfl rfl rfl hn rfl (by omega) Tryd.underlying56 Tryd.size38 fun c39 cs39 hq39 => ?_
              refine KT.step rfl rfl (K.load rfl Tryd.agg38) ?_
              refine KT.step rfl rfl (K.len rfl hq39 Tryd.underlying38) ?_
              refine KT.step rfl rfl (K.fieldAddrO rfl Tryd.fld63_0 Tryd.size3) ?_
              refine KT.step rfl rfl (K.loadO rfl rfl (by simp) rfl Tryd.agg3) ?_
              refine KT.step rfl rfl (K.neq rfl rfl) ?_
              refine KT.step rfl rfl (K.move rfl) ?_
              refine KT.bcase (fun hb45 => ?_) (fun hb45 => ?_)
              · skip
                replace hb45 := of_decide_eq_true hb45
                refine KT.skip rfl rfl ?_
                refine KT.skip rfl rfl ?_
                refine KT.skip rfl rfl ?_
                refine KT.skip rfl rfl ?_
                refine KT.skip rfl rfl ?_
                refine KT.skip rfl rfl ?_
                refine KT.skip rfl rfl ?_
                refine KT.skip rfl rfl ?_
                refine KT.skip rfl rfl ?_
                refine KT.step rfl rfl (K.pick rfl (fun _ => rfl) (fun h => by cases h)) ?_
                refine KT.nil ?_
                refine ⟨by kernel_rfl, ?_⟩
                refine thenK_n ?_
                refine KC.cond rfl (fun hc55 => ?_) (fun hc55 => ?_)
                · skip
                  refine KC.seq ?_
                  refine KC.region ?_
                  refine KT.step rfl rfl (K.assign rfl) ?_
                  refine KT.nil ?_
                  refine thenK_n ?_
                  refine KC.ret ?_
                  refine thenK_r ?_
                  refine blockK_r ?_
                  refine thenK_r ?_
                  refine thenK_r ?_
                  refine blockK_r ?_
                  refine thenK_r ?_
                  refine ⟨.inl rfl, _, rfl, fin_b (vmB_no fun h => ?_)⟩
                  have h1 := (h.nr _ (List.getElem_mem hil)).1
                  have h2 := (h.or _ (List.getElem_mem hio)).1
                  omega
                · cases hc55
              · skip
                replace hb45 := of_decide_eq_false hb45
                refine KT.step rfl rfl (K.fieldAddrO rfl Tryd.fld63_2 Tryd.size56) ?_
                refine KT.step rfl rfl (K.loadO rfl rfl (by simp) rfl Tryd.agg56) ?_
                refine KT.step rfl rfl (K.move rfl) ?_
                refine KT.idx (m := i) rfl rfl rfl ho rfl (by omega) Tryd.underlying56 Tryd.size38 fun c49 cs49 hq49 => ?_
                refine KT.step rfl rfl (K.load rfl Tryd.agg38) ?_
                refine KT.step rfl rfl (K.len rfl hq49 Tryd.underlying38) ?_
                refine KT.step rfl rfl (K.fieldAddrO rfl Tryd.fld63_0 Tryd.size3) ?_
                refine KT.step rfl rfl (K.loadO rfl rfl (by simp) rfl Tryd.agg3) ?_
                refine KT.step rfl rfl (K.neq rfl rfl) ?_
                refine KT.step rfl rfl (K.pick rfl (fun h => by cases h) (fun _ => rfl)) ?_
                refine KT.nil ?_
                refine ⟨by kernel_rfl, ?_⟩
                refine thenK_n ?_
                refine KC.cond rfl (fun hc55 => ?_) (fun hc55 => ?_)
                · skip
                  replace hc55 := of_decide_eq_true hc55
                  refine KC.seq ?_
                  refine KC.region ?_
                  refine KT.step rfl rfl (K.assign rfl) ?_
                  refine KT.nil ?_
                  refine thenK_n ?_
                  refine KC.ret ?_
                  refine thenK_r ?_
                  refine blockK_r ?_
                  refine thenK_r ?_
                  refine thenK_r ?_
                  refine blockK_r ?_
                  refine thenK_r ?_
                  refine ⟨.inl rfl, _, rfl, fin_b (vmB_no fun h => ?_)⟩
                  have h1 := (h.nr _ (List.getElem_mem hil)).1
                  have h2 := (h.or _ (List.getElem_mem hio)).1
                  omega
                · skip
                  replace hc55 := of_decide_eq_false hc55
                  refine KC.skip ?_
                  refine thenK_n ?_
                  refine KC.seq ?_
                  refine KC.region ?_
                  refine KT.step rfl rfl (K.fieldAddrO rfl Tryd.fld63_0 Tryd.size3) ?_
                  refine KT.step rfl rfl (K.loadO rfl rfl (by simp) rfl Tryd.agg3) ?_
                  refine KT.step rfl rfl (K.move rfl) ?_
                  refine KT.nil ?_
                  refine thenK_n ?_
                  refine KC.block ?_
                  refine KC.loop (fun _ : Nat => _) (fun j => [(1, .optr 0 0), (3, .d (DI (nx.length : Nat))), (4, .d (DI (i : Nat))), (32, .d (DI (nx.length : Nat))), (33, .d (DI (i : Nat))), (57, .d (DI a)), (58, .d (DI (j : Nat)))]) (fun j => (j : Int) ≤ a ∧ ∀ k, k < j → ∀ (h1 : k < nx[i].length) (h2 : k < ou[i].length), (0 ≤ nx[i][k] ∧ nx[i][k] < nx.length) ∧ 0 ≤ ou[i][k] ∧ ou[i][k] ≤ 7) (fun j => a.toNat - j) 0 ⟨by omega, fun k hk => by omega⟩ rfl (by simp [Go.Vm.look, extK]) ?_
                  intro j hj0
                  obtain ⟨hja, hj⟩ := hj0
                  refine KC.seq ?_
                  refine KC.region ?_
                  refine KT.step rfl rfl (K.lss rfl rfl) ?_
                  refine KT.nil ?_
                  refine thenK_n ?_
                  refine KC.seq ?_
                  refine KC.cond rfl (fun hc59 => ?_) (fun hc59 => ?_)
                  · skip
                    replace hc59 := of_decide_eq_true hc59
                    have hj1 : j < nx[i].length := by omega
                    have hj2 : j < ou[i].length := by omega
                    refine KC.skip ?_
                    refine thenK_n ?_
                    refine KC.seq ?_
                    refine KC.block ?_
                    refine KC.seq ?_
                    refine KC.region ?_
                    refine KT.step rfl rfl (K.move rfl) ?_
                    refine KT.step rfl rfl (K.assign rfl) ?_
                    refine KT.nil ?_
                    refine thenK_n ?_
                    refine KC.seq ?_
                    refine KC.region ?_
                    refine KT.step rfl rfl (K.fieldAddrO rfl Tryd.fld63_1 Tryd.size56) ?_
                    refine KT.step rfl rfl (K.loadO rfl rfl (by simp) rfl Tryd.agg56) ?_
                    refine KT.step rfl rfl (K.move rfl) ?_
                    refine KT.idx (m := i) rfl rfl rfl hn rfl (by omega) Tryd.underlying56 Tryd.size38 fun c64 cs64 hq64 => ?_
                    refine KT.step rfl rfl (K.load rfl Tryd.agg38) ?_
                    refine KT.step rfl rfl (K.move rfl) ?_
                    refine KT.idxI (m := j) rfl rfl rfl hq64 rfl (by omega) Tryd.underlying38 Tryd.size3 fun cs67 => ?_
                    refine KT.step rfl rfl (K.load rfl Tryd.agg3) ?_
                    refine KT.step rfl rfl (K.lss rfl rfl) ?_
                    refine KT.step rfl rfl (K.move rfl) ?_
                    refine KT.bcase (fun hb70 => ?_) (fun hb70 => ?_)
                    · skip
                      replace hb70 := of_decide_eq_true hb70
                      refine KT.skip rfl rfl ?_
                      refine KT.skip rfl rfl ?_
                      refine KT.skip rfl rfl ?_
                      refine KT.skip rfl rfl ?_
                      refine KT.skip rfl rfl ?_
                      refine KT.skip rfl rfl ?_
                      refine KT.skip rfl rfl ?_
                      refine KT.skip rfl rfl ?_
                      refine KT.skip rfl rfl ?_
                      refine KT.skip rfl rfl ?_
                      refine KT.step rfl rfl (K.pick rfl (fun _ => rfl) (fun h => by cases h)) ?_
                      refine KT.step rfl rfl (K.move rfl) ?_
                      refine KT.skip rfl rfl ?_
                      refine KT.skip rfl rfl ?_
                      refine KT.skip rfl rfl ?_
                      refine KT.skip rfl rfl ?_
                      refine KT.skip rfl rfl ?_
                      refine KT.skip rfl rfl ?_
                      refine KT.skip rfl rfl ?_
                      refine KT.skip rfl rfl ?_
                      refine KT.skip rfl rfl ?_
                      refine KT.step rfl rfl (K.pick rfl (fun _ => rfl) (fun h => by cases h)) ?_
                      refine KT.step rfl rfl (K.move rfl) ?_
                      refine KT.skip rfl rfl ?_
                      refine KT.skip rfl rfl ?_
                      refine KT.skip rfl rfl ?_
                      refine KT.skip rfl rfl ?_
                      refine KT.skip rfl rfl ?_
                      refine KT.skip rfl rfl ?_
                      refine KT.skip rfl rfl ?_
                      refine KT.skip rfl rfl ?_
                      refine KT.skip rfl rfl ?_
                      refine KT.step rfl rfl (K.pick rfl (fun _ => rfl) (fun h => by cases h)) ?_
                      refine KT.nil ?_
                      refine thenK_n ?_
                      refine KC.cond rfl (fun hc103 => ?_) (fun hc103 => ?_)
                      · skip
                        refine KC.seq ?_
                        refine KC.region ?_
                        refine KT.step rfl rfl (K.assign rfl) ?_
                        refine KT.nil ?_
                        refine thenK_n ?_
                        refine KC.ret ?_
                        refine blockK_r ?_
                        refine thenK_r ?_
                        refine thenK_r ?_
                        refine blockK_r ?_
                        refine blockK_r ?_
                        refine thenK_r ?_
                        refine thenK_r ?_
                        refine blockK_r ?_
                        refine thenK_r ?_
                        refine ⟨.inl rfl, _, rfl, fin_b (vmB_no fun h => ?_)⟩
                        have h1 := (h.nr _ (List.getElem_mem hil)).2 _ (List.getElem_mem hj1)
                        have h2 := (h.or _ (List.getElem_mem hio)).2 _ (List.getElem_mem hj2)
                        omega
                      · cases hc103
                    · skip
                      replace hb70 := of_decide_eq_false hb70
                      refine KT.step rfl rfl (K.fieldAddrO rfl Tryd.fld63_1 Tryd.size56) ?_
                      refine KT.step rfl rfl (K.loadO rfl rfl (by simp) rfl Tryd.agg56) ?_
                      refine KT.step rfl rfl (K.move rfl) ?_
                      refine KT.idx (m := i) rfl rfl rfl hn rfl (by omega) Tryd.underlying56 Tryd.size38 fun c74 cs74 hq74 => ?_
                      refine KT.step rfl rfl (K.load rfl Tryd.agg38) ?_
                      refine KT.step rfl rfl (K.move rfl) ?_
                      refine KT.idxI (m := j) rfl rfl rfl hq74 rfl (by omega) Tryd.underlying38 Tryd.size3 fun cs77 => ?_
                      refine KT.step rfl rfl (K.load rfl Tryd.agg3) ?_
                      refine KT.step rfl rfl (K.move rfl) ?_
                      refine KT.step rfl rfl (K.geq rfl rfl) ?_
                      refine KT.step rfl rfl (K.pick rfl (fun h => by cases h) (fun _ => rfl)) ?_
                      refine KT.step rfl rfl (K.move rfl) ?_
                      refine KT.bcase (fun hb82 => ?_) (fun hb82 => ?_)
                      · skip
                        replace hb82 := of_decide_eq_true hb82
                        refine KT.skip rfl rfl ?_
                        refine KT.skip rfl rfl ?_
                        refine KT.skip rfl rfl ?_
                        refine KT.skip rfl rfl ?_
                        refine KT.skip rfl rfl ?_
                        refine KT.skip rfl rfl ?_
                        refine KT.skip rfl rfl ?_
                        refine KT.skip rfl rfl ?_
                        refine KT.skip rfl rfl ?_
                        refine KT.step rfl rfl (K.pick rfl (fun _ => rfl) (fun h => by cases h)) ?_
                        refine KT.step rfl rfl (K.move rfl) ?_
                        refine KT.skip rfl rfl ?_
                        refine KT.skip rfl rfl ?_
                        refine KT.skip rfl rfl ?_
                        refine KT.skip rfl rfl ?_
                        refine KT.skip rfl rfl ?_
                        refine KT.skip rfl rfl ?_
                        refine KT.skip rfl rfl ?_
                        refine KT.skip rfl rfl ?_
                        refine KT.skip rfl rfl ?_
                        refine KT.step rfl rfl (K.pick rfl (fun _ => rfl) (fun h => by cases h)) ?_
                        refine KT.nil ?_
                        refine thenK_n ?_
                        refine KC.cond rfl (fun hc103 => ?_) (fun hc103 => ?_)
                        · skip
                          refine KC.seq ?_
                          refine KC.region ?_
                          refine KT.step rfl rfl (K.assign rfl) ?_
                          refine KT.nil ?_
                          refine thenK_n ?_
                          refine KC.ret ?_
                          refine blockK_r ?_
                          refine thenK_r ?_
                          refine thenK_r ?_
                          refine blockK_r ?_
                          refine blockK_r ?_
                          refine thenK_r ?_
                          refine thenK_r ?_
                          refine blockK_r ?_
                          refine thenK_r ?_
                          refine ⟨.inl rfl, _, rfl, fin_b (vmB_no fun h => ?_)⟩
                          have h1 := (h.nr _ (List.getElem_mem hil)).2 _ (List.getElem_mem hj1)
                          have h2 := (h.or _ (List.getElem_mem hio)).2 _ (List.getElem_mem hj2)
                          omega
                        · cases hc103
                      · skip
                        replace hb82 := of_decide_eq_false hb82
                        refine KT.step rfl rfl (K.fieldAddrO rfl Tryd.fld63_2 Tryd.size56) ?_
                        refine KT.step rfl rfl (K.loadO rfl rfl (by simp) rfl Tryd.agg56) ?_
                        refine KT.step rfl rfl (K.move rfl) ?_
                        refine KT.idx (m := i) rfl rfl rfl ho rfl (by omega) Tryd.underlying56 Tryd.size38 fun c86 cs86 hq86 => ?_
                        refine KT.step rfl rfl (K.load rfl Tryd.agg38) ?_
                        refine KT.step rfl rfl (K.move rfl) ?_
                        refine KT.idxI (m := j) rfl rfl rfl hq86 rfl (by omega) Tryd.underlying38 Tryd.size3 fun cs89 => ?_
                        refine KT.step rfl rfl (K.load rfl Tryd.agg3) ?_
                        refine KT.step rfl rfl (K.lss rfl rfl) ?_
                        refine KT.step rfl rfl (K.pick rfl (fun h => by cases h) (fun _ => rfl)) ?_
                        refine KT.step rfl rfl (K.move rfl) ?_
                        refine KT.bcase (fun hb93 => ?_) (fun hb93 => ?_)
                        · skip
                          replace hb93 := of_decide_eq_true hb93
                          refine KT.skip rfl rfl ?_
                          refine KT.skip rfl rfl ?_
                          refine KT.skip rfl rfl ?_
                          refine KT.skip rfl rfl ?_
                          refine KT.skip rfl rfl ?_
                          refine KT.skip rfl rfl ?_
                          refine KT.skip rfl rfl ?_
                          refine KT.skip rfl rfl ?_
                          refine KT.skip rfl rfl ?_
                          refine KT.step rfl rfl (K.pick rfl (fun _ => rfl) (fun h => by cases h)) ?_
                          refine KT.nil ?_
                          refine thenK_n ?_
                          refine KC.cond rfl (fun hc103 => ?_) (fun hc103 => ?_)
                          · skip
                            refine KC.seq ?_
                            refine KC.region ?_
                            refine KT.step rfl rfl (K.assign rfl) ?_
                            refine KT.nil ?_
                            refine thenK_n ?_
                            refine KC.ret ?_
                            refine blockK_r ?_
                            refine thenK_r ?_
                            refine thenK_r ?_
                            refine blockK_r ?_
                            refine blockK_r ?_
                            refine thenK_r ?_
                            refine thenK_r ?_
                            refine blockK_r ?_
                            refine thenK_r ?_
                            refine ⟨.inl rfl, _, rfl, fin_b (vmB_no fun h => ?_)⟩
                            have h1 := (h.nr _ (List.getElem_mem hil)).2 _ (List.getElem_mem hj1)
                            have h2 := (h.or _ (List.getElem_mem hio)).2 _ (List.getElem_mem hj2)
                            omega
                          · cases hc103
                        · skip
                          replace hb93 := of_decide_eq_false hb93
                          refine KT.step rfl rfl (K.fieldAddrO rfl Tryd.fld63_2 Tryd.size56) ?_
                          refine KT.step rfl rfl (K.loadO rfl rfl (by simp) rfl Tryd.agg56) ?_
                          refine KT.step rfl rfl (K.move rfl) ?_
                          refine KT.idx (m := i) rfl rfl rfl ho rfl (by omega) Tryd.underlying56 Tryd.size38 fun c97 cs97 hq97 => ?_
                          refine KT.step rfl rfl (K.load rfl Tryd.agg38) ?_
                          refine KT.step rfl rfl (K.move rfl) ?_
                          refine KT.idxI (m := j) rfl rfl rfl hq97 rfl (by omega) Tryd.underlying38 Tryd.size3 fun cs100 => ?_
                          refine KT.step rfl rfl (K.load rfl Tryd.agg3) ?_
                          refine KT.step rfl rfl (K.gtr rfl rfl) ?_
                          refine KT.step rfl rfl (K.pick rfl (fun h => by cases h) (fun _ => rfl)) ?_
                          refine KT.nil ?_
                          refine thenK_n ?_
                          refine KC.cond rfl (fun hc103 => ?_) (fun hc103 => ?_)
                          · skip
                            replace hc103 := of_decide_eq_true hc103
                            refine KC.seq ?_
                            refine KC.region ?_
                            refine KT.step rfl rfl (K.assign rfl) ?_
                            refine KT.nil ?_
                            refine thenK_n ?_
                            refine KC.ret ?_
                            refine blockK_r ?_
                            refine thenK_r ?_
                            refine thenK_r ?_
                            refine blockK_r ?_
                            refine blockK_r ?_
                            refine thenK_r ?_
                            refine thenK_r ?_
                            refine blockK_r ?_
                            refine thenK_r ?_
                            refine ⟨.inl rfl, _, rfl, fin_b (vmB_no fun h => ?_)⟩
                            have h1 := (h.nr _ (List.getElem_mem hil)).2 _ (List.getElem_mem hj1)
                            have h2 := (h.or _ (List.getElem_mem hio)).2 _ (List.getElem_mem hj2)
                            omega
                          · skip
                            replace hc103 := of_decide_eq_false hc103
                            refine KC.skip ?_
                            refine blockK_n ?_
                            refine thenK_n ?_
                            refine KC.region ?_
                            refine KT.step rfl rfl (K.add rfl rfl (wrap_id (by omega))) ?_
                            refine KT.step rfl rfl (K.move rfl) ?_
                            refine KT.nil ?_
                            refine thenK_n ?_
                            refine ⟨j + 1, ⟨by omega, fun k hk h1 h2 => ?_⟩, by omega, rfl, by simp [Go.Vm.look, extK]⟩
                            by_cases e : k = j
                            · subst e; exact ⟨⟨by omega, by omega⟩, by omega, by omega⟩
                            · exact hj k (by omega) h1 h2
                  · skip
                    replace hc59 := of_decide_eq_false hc59
                    refine KC.exit ?_
                    refine thenK_x ?_
                    refine thenK_x ?_
                    refine blockK_e ?_
                    refine blockK_n ?_
                    refine thenK_n ?_
                    refine KC.region ?_
                    refine KT.step rfl rfl (K.add rfl rfl (wrap_id (by omega))) ?_
                    refine KT.step rfl rfl (K.move rfl) ?_
                    refine KT.nil ?_
                    refine thenK_n ?_
                    refine ⟨i + 1, ⟨by omega, fun x hx => ?_, fun x hx => ?_⟩, by omega, rfl, by simp [Go.Vm.look, extK]⟩
                    · rw [List.take_succ_eq_append_getElem hil, List.mem_append, List.mem_singleton] at hx
                      rcases hx with hx | rfl
                      · exact hall x hx
                      · refine ⟨by omega, fun x hx => ?_⟩
                        obtain ⟨k, hk, rfl⟩ := List.getElem_of_mem hx
                        exact (hj _ (by omega) hk (by omega)).1
                    · rw [List.take_succ_eq_append_getElem hio, List.mem_append, List.mem_singleton] at hx
                      rcases hx with hx | rfl
                      · exact hall2 x hx
                      · refine ⟨by omega, fun x hx => ?_⟩
                        obtain ⟨k, hk, rfl⟩ := List.getElem_of_mem hx
                        exact (hj _ (by omega) (by omega) hk).2
            · skip
              replace hc34 := of_decide_eq_false hc34
              refine KC.exit ?_
              refine thenK_x ?_
              refine thenK_x ?_
              refine blockK_e ?_
              refine thenK_n ?_
              refine KC.seq ?_
              refine KC.region ?_
              refine KT.step rfl rfl (K.assign rfl) ?_
              refine KT.nil ?_
              refine thenK_n ?_
              refine KC.ret ?_
              have et : nx.take i = nx := List.take_of_length_le (by omega)
              have eo : ou.take i = ou := List.take_of_length_le (by omega)
              rw [et] at hall
              rw [eo] at hall2
              exact ⟨.inl rfl, _, rfl, fin_b (vmB_iff.2 ⟨by omega, by omega, by omega, by omega, by omega, hall, hall2⟩)⟩
end Go.Proofs.YteednkolfnjdoaaDoor

