import Derived.Test.YteednkolfnjdoaaDoorScE
import Derived.Test.YteednkolfnjdoaaDoorCyY
import Derived.Test.YteednkolfnjdoaaDoorBaQ
/-
  Controllers: what the laws share.
-/
namespace Go.Proofs.YteednkolfnjdoaaDoor
open Go.Vm Go.Sc
theorem plainTryd_71 : plainFn Tryd.prog 71 = true := by kernel_rfl
theorem plainTryd_39 : plainFn Tryd.prog 39 = true := by kernel_rfl
theorem plainTryd_100 : plainFn Tryd.prog 100 = true := by kernel_rfl
theorem plainTryd_24 : plainFn Tryd.prog 24 = true := by kernel_rfl
theorem plainTryd_19 : plainFn Tryd.prog 19 = true := by kernel_rfl
set_option maxRecDepth 100000 in
theorem awake19 : DeepCall Tryd.prog 19 [] (DB true) := runFnM_sound (inl := fun f => [52,81,82,83,84,112,91,123,143,124,125,126,127,128,129].contains f) (len := 3000) (k := 60) (f := 19) Tryd.mixed (by kernel_rfl)
theorem clone_fin {cs : List DV} {len : Nat} {cap : Option Nat} (hn : cs.length = len) (h0 : len ≠ 0) :
    deepen (freezeAll [(⟨[], 0⟩ : VObj), ⟨(cs.take len).map .d, 0⟩]) 5 (.osl 1 0 len 1 len false) = some (cloneD (.sl cs len cap)) := by
  have e : cs.take len = cs := List.take_of_length_le (by omega)
  rw [e]
  rw [deepen_osl (ob := ⟨cs.map .d, 1⟩) rfl rfl (by simp [hn])]
  have h2 : ((cs.map XV.d).drop 0).take (len * 1) = cs.map XV.d := by
    rw [List.drop_zero, Nat.mul_one, List.take_of_length_le (by simp [hn])]
  rw [show ((⟨cs.map XV.d, 1⟩ : VObj).cells.drop 0).take (len * 1) = cs.map XV.d from h2, mapM_deep]
  simp [cloneD, h0, e]
set_option maxRecDepth 10000 in
theorem clone100_nil : DeepCall Tryd.prog 100 [Dnil] Dnil := by
  refine deepCall_K 5 Tryd.func100 rfl (Nat.le_of_ble_eq_true rfl) fun M W0 => ?_
  refine KC.seq ?_
  refine KC.region ?_
  refine KT.step rfl rfl (K.assign rfl) ?_
  refine KT.nil ?_
  refine thenK_n ?_
  refine KC.seq ?_
  refine KC.seq ?_
  refine KC.region ?_
  refine KT.step rfl rfl (K.move rfl) ?_
  refine KT.step rfl rfl (K.eqNilNil rfl Tryd.underlying38) ?_
  refine KT.nil ?_
  refine thenK_n ?_
  refine KC.cond rfl (fun hc4 => ?_) (fun hc4 => ?_)
  · skip
    refine KC.seq ?_
    refine KC.region ?_
    refine KT.step rfl rfl (K.assign rfl) ?_
    refine KT.nil ?_
    refine thenK_n ?_
    refine KC.ret ?_
    refine thenK_r ?_
    exact ⟨.inl rfl, _, rfl, fin_d rfl⟩
  · cases hc4

set_option maxRecDepth 10000 in
theorem clone100_zero {cs : List DV} {cap : Option Nat} : DeepCall Tryd.prog 100 [.sl cs 0 cap] (.sl [] 0 (some 0)) := by
  refine deepCall_K 5 Tryd.func100 rfl (Nat.le_of_ble_eq_true rfl) fun M W0 => ?_
  refine KC.seq ?_
  refine KC.region ?_
  refine KT.step rfl rfl (K.assign rfl) ?_
  refine KT.nil ?_
  refine thenK_n ?_
  refine KC.seq ?_
  refine KC.seq ?_
  refine KC.region ?_
  refine KT.step rfl rfl (K.move rfl) ?_
  refine KT.step rfl rfl (K.eqNil rfl Tryd.underlying38) ?_
  refine KT.nil ?_
  refine thenK_n ?_
  refine KC.cond rfl (fun hc4 => ?_) (fun hc4 => ?_)
  · cases hc4
  · skip
    refine KC.skip ?_
    refine thenK_n ?_
    refine KC.seq ?_
    refine KC.region ?_
    refine KT.step rfl rfl (K.build0 Tryd.underlying38 Tryd.one3) ?_
    refine KT.step rfl rfl (K.move rfl) ?_
    refine KT.step rfl rfl (K.appNone rfl rfl Tryd.underlying38 Tryd.one3) ?_
    refine KT.step rfl rfl (K.assign rfl) ?_
    refine KT.nil ?_
    refine thenK_n ?_
    refine KC.ret ?_
    exact ⟨.inl rfl, _, rfl, rfl⟩

set_option maxRecDepth 10000 in
theorem clone100_all {cs : List DV} {len : Nat} {cap : Option Nat} (hn : cs.length = len) (h1 : ((cs.take len).map XV.d).all oneX = true) (h0 : len ≠ 0) (hl : len ≤ 1073741824) : DeepCall Tryd.prog 100 [.sl cs len cap] (cloneD (.sl cs len cap)) := by
  refine deepCall_K 5 Tryd.func100 rfl (Nat.le_of_ble_eq_true rfl) fun M W0 => ?_
  refine KC.seq ?_
  refine KC.region ?_
  refine KT.step rfl rfl (K.assign rfl) ?_
  refine KT.nil ?_
  refine thenK_n ?_
  refine KC.seq ?_
  refine KC.seq ?_
  refine KC.region ?_
  refine KT.step rfl rfl (K.move rfl) ?_
  refine KT.step rfl rfl (K.eqNil rfl Tryd.underlying38) ?_
  refine KT.nil ?_
  refine thenK_n ?_
  refine KC.cond rfl (fun hc4 => ?_) (fun hc4 => ?_)
  · cases hc4
  · skip
    refine KC.skip ?_
    refine thenK_n ?_
    refine KC.seq ?_
    refine KC.region ?_
    refine KT.step rfl rfl (K.build0 Tryd.underlying38 Tryd.one3) ?_
    refine KT.step rfl rfl (K.move rfl) ?_
    refine KT.step rfl rfl (K.appAll rfl rfl rfl hn h1 h0 hl Tryd.underlying38 Tryd.one3) ?_
    refine KT.step rfl rfl (K.assign rfl) ?_
    refine KT.nil ?_
    refine thenK_n ?_
    refine KC.ret ?_
    exact ⟨.inl rfl, _, rfl, clone_fin hn h0⟩

theorem clone100 {d : DV} {l : List Int} (hd : Ints d l) (hl : l.length ≤ 1073741824) : DeepCall Tryd.prog 100 [d] (cloneD d) := by
  rcases litOf_vec hd with ⟨rfl, rfl⟩ | ⟨cs, cap, rfl, hn, hr⟩
  · exact clone100_nil
  · by_cases h0 : l.length = 0
    · rw [h0]; exact clone100_zero
    · refine clone100_all hn ?_ h0 hl
      rw [List.all_map, List.all_eq_true]
      intro x hx
      obtain ⟨i, hi, rfl⟩ := List.getElem_of_mem (List.mem_of_mem_take hx)
      rw [hr i cs[i] l[i] (List.getElem?_eq_getElem hi) (List.getElem?_eq_getElem (by omega))]
      rfl

set_option maxRecDepth 10000 in
theorem equal24 {d e : DV} {x y : List Int} (hd : Ints d x) (he : Ints e y) (hl : x.length ≤ 9223372036854775807) :
    DeepCall Tryd.prog 24 [d, e] (DB (decide (x = y))) := by
  refine deepCall_K 5 Tryd.func24 rfl (Nat.le_of_ble_eq_true rfl) fun M W0 => ?_
  refine KC.seq ?_
  refine KC.region ?_
  refine KT.step rfl rfl (K.assign rfl) ?_
  refine KT.nil ?_
  refine thenK_n ?_
  refine KC.seq ?_
  refine KC.seq ?_
  refine KC.region ?_
  refine KT.step rfl rfl (K.move rfl) ?_
  refine KT.step rfl rfl (K.len rfl (by assumption) Tryd.underlying38) ?_
  refine KT.step rfl rfl (K.move rfl) ?_
  refine KT.step rfl rfl (K.len rfl (by assumption) Tryd.underlying38) ?_
  refine KT.step rfl rfl (K.neq rfl rfl) ?_
  refine KT.nil ?_
  refine thenK_n ?_
  refine KC.cond rfl (fun hc10 => ?_) (fun hc10 => ?_)
  · skip
    replace hc10 := of_decide_eq_true hc10
    refine KC.seq ?_
    refine KC.region ?_
    refine KT.step rfl rfl (K.assign rfl) ?_
    refine KT.nil ?_
    refine thenK_n ?_
    refine KC.ret ?_
    refine thenK_r ?_
    exact ⟨.inl rfl, _, rfl, fin_b (decide_eq_false fun h => by subst h; omega)⟩
  · skip
    replace hc10 := of_decide_eq_false hc10
    refine KC.skip ?_
    refine thenK_n ?_
    refine KC.seq ?_
    refine KC.seq ?_
    refine KC.region ?_
    refine KT.step rfl rfl (K.move rfl) ?_
    refine KT.step rfl rfl (K.len rfl (by assumption) Tryd.underlying38) ?_
    refine KT.step rfl rfl (K.move rfl) ?_
    refine KT.nil ?_
    refine thenK_n ?_
    refine KC.block ?_
    refine KC.loop (fun _ : Nat => []) (fun i => [(0, .d d), (1, .d e), (12, .d (DI x.length)), (13, .d (DI i))]) (fun i => i ≤ x.length ∧ x.take i = y.take i) (fun i => x.length - i) 0 ⟨Nat.zero_le _, rfl⟩ rfl (by simp [Go.Vm.look, extK, enterK]) ?_
    intro i hi
    obtain ⟨hi, hall⟩ := hi
    refine KC.seq ?_
    refine KC.region ?_
    refine KT.step rfl rfl (K.lss rfl rfl) ?_
    refine KT.nil ?_
    refine thenK_n ?_
    refine KC.seq ?_
    refine KC.cond rfl (fun hc14 => ?_) (fun hc14 => ?_)
    · skip
      replace hc14 := of_decide_eq_true hc14
      refine KC.skip ?_
      refine thenK_n ?_
      refine KC.seq ?_
      refine KC.block ?_
      refine KC.seq ?_
      refine KC.region ?_
      refine KT.step rfl rfl (K.move rfl) ?_
      refine KT.step rfl rfl (K.assign rfl) ?_
      refine KT.nil ?_
      refine thenK_n ?_
      refine KC.seq ?_
      refine KC.draw Tryd.mixed ?_
      refine KT.step rfl rfl (K.move rfl) ?_
      refine KT.step rfl rfl (K.move rfl) ?_
      refine KT.idxI rfl rfl rfl (by assumption) rfl (by omega) Tryd.underlying38 Tryd.size3 fun cs18 => ?_
      refine KT.step rfl rfl (K.load rfl Tryd.agg3) ?_
      refine KT.step rfl rfl (K.move rfl) ?_
      refine KT.step rfl rfl (K.move rfl) ?_
      refine KT.idxI rfl rfl rfl (by assumption) rfl (by omega) Tryd.underlying38 Tryd.size3 fun cs22 => ?_
      refine KT.step rfl rfl (K.load rfl Tryd.agg3) ?_
      refine KT.step rfl rfl (K.neq rfl rfl) ?_
      refine KT.nil ?_
      refine ⟨by kernel_rfl, ?_⟩
      refine thenK_n ?_
      refine KC.cond rfl (fun hc24 => ?_) (fun hc24 => ?_)
      · skip
        replace hc24 := of_decide_eq_true hc24
        refine KC.seq ?_
        refine KC.region ?_
        refine KT.step rfl rfl (K.assign rfl) ?_
        refine KT.nil ?_
        refine thenK_n ?_
        refine KC.ret ?_
        refine blockK_r ?_
        refine thenK_r ?_
        refine thenK_r ?_
        refine blockK_r ?_
        refine thenK_r ?_
        exact ⟨.inl rfl, _, rfl, fin_b (decide_eq_false fun h => by subst h; exact hc24 rfl)⟩
      · skip
        replace hc24 := of_decide_eq_false hc24
        refine KC.skip ?_
        refine blockK_n ?_
        refine thenK_n ?_
        refine KC.region ?_
        refine KT.step rfl rfl (K.add rfl rfl (wrap_id (by omega))) ?_
        refine KT.step rfl rfl (K.move rfl) ?_
        refine KT.nil ?_
        refine thenK_n ?_
        refine ⟨i + 1, ⟨by omega, ?_⟩, by omega, rfl, by simp [Go.Vm.look, extK]⟩
        rw [List.take_succ_eq_append_getElem (by omega), List.take_succ_eq_append_getElem (by omega), hall, Classical.not_not.1 hc24]
    · skip
      replace hc14 := of_decide_eq_false hc14
      refine KC.exit ?_
      refine thenK_x ?_
      refine thenK_x ?_
      refine blockK_e ?_
      refine thenK_n ?_
      refine KC.seq ?_
      refine KC.region ?_
      refine KT.step rfl rfl (K.assign rfl) ?_
      refine KT.nil ?_
      refine thenK_n ?_
      refine KC.ret ?_
      have hx : x.take i = x := List.take_of_length_le (by omega)
      have hy : y.take i = y := List.take_of_length_le (by omega)
      rw [hx, hy] at hall
      exact ⟨.inl rfl, _, rfl, fin_b (decide_eq_true hall)⟩

/-- The first eight. -/
def list10 (l : List Int) (d : DV) : DV := cloneD (takeV (min l.length 10) d)
theorem list10_ints {d : DV} {l : List Int} (hd : Ints d l) : Ints (list10 l d) (l.take 10) := by
  have h := cloneD_vec (takeV_vec hd (m := min l.length 10) (by omega))
  have e : l.take (min l.length 10) = l.take 10 := by
    by_cases h8 : l.length ≤ 10
    · rw [List.take_of_length_le (by omega), List.take_of_length_le h8]
    · rw [show min l.length 10 = 10 by omega]
  rwa [e] at h
def row18 (m : List (List Int)) (d : DV) (i : Nat) : DV := list10 (m.getD i []) (getV d i)
def rows18 (m : List (List Int)) (d : DV) : DV := slOf ((List.range (min m.length 18)).map (row18 m d))

theorem row18_ints {d : DV} {m : List (List Int)} (hd : Mat d m) {i : Nat} (hi : i < m.length) : Ints (getV d i) (m.getD i []) := by
  have := getV_vec hd hi
  rwa [show m.getD i [] = m[i] by simp [hi]]

theorem rows18_mat {d : DV} {m : List (List Int)} (hd : Mat d m) : Mat (rows18 m d) ((m.take 18).map (List.take 10)) := by
  have hlen : ((List.range (min m.length 18)).map (row18 m d)).length = ((m.take 18).map (List.take 10)).length := by simp; omega
  unfold rows18
  generalize hg : (List.range (min m.length 18)).map (row18 m d) = ds at hlen
  cases ds with
  | nil =>
    have : (m.take 18).map (List.take 10) = [] := List.length_eq_zero_iff.1 hlen.symm
    rw [this]; exact .nil
  | cons a ds =>
    rw [show slOf (a :: ds) = .sl (a :: ds) (a :: ds).length none from rfl, hlen]
    refine .sl hlen fun i c x hc hx => ?_
    rw [← hg, List.getElem?_map] at hc
    by_cases hi : i < min m.length 18
    · rw [List.getElem?_range hi] at hc
      simp only [Option.map_some, Option.some.injEq] at hc
      rw [List.getElem?_map, List.getElem?_take, if_pos (by omega), List.getElem?_eq_getElem (by omega)] at hx
      simp only [Option.map_some, Option.some.injEq] at hx
      subst hc hx
      have := list10_ints (row18_ints hd (i := i) (by omega))
      have e : m.getD i [] = m[i] := by simp [show i < m.length by omega]
      unfold row18
      rw [e] at this ⊢; exact this
    · rw [List.getElem?_eq_none (by simp; omega)] at hc; cases hc
set_option maxRecDepth 10000 in
theorem rows71 {d : DV} {m : List (List Int)} (hd : Mat d m) (hl : m.length ≤ 9223372036854775807) (hr : ∀ i, i < m.length → (m.getD i []).length ≤ 9223372036854775807) : DeepCall Tryd.prog 71 [d] (rows18 m d) := by
  refine deepCall_K 5 Tryd.func71 rfl (Nat.le_of_ble_eq_true rfl) fun M W0 => ?_
  refine KC.seq ?_
  refine KC.region ?_
  refine KT.step rfl rfl (K.assign rfl) ?_
  refine KT.nil ?_
  refine thenK_n ?_
  refine KC.seq ?_
  refine KC.region ?_
  refine KT.step rfl rfl (K.assign rfl) ?_
  refine KT.nil ?_
  refine thenK_n ?_
  refine KC.seq ?_
  refine KC.seq ?_
  refine KC.region ?_
  refine KT.step rfl rfl (K.move rfl) ?_
  refine KT.step rfl rfl (K.len rfl (by assumption) Tryd.underlying56) ?_
  refine KT.step rfl rfl (K.move rfl) ?_
  refine KT.nil ?_
  refine thenK_n ?_
  refine KC.block ?_
  refine KC.loop (fun p : List VObj × XV × Nat => p.1) (fun p => [(0, .d d), (3, p.2.1), (6, .d d), (7, .d (DI m.length)), (8, .d (DI p.2.2))]) (fun p => p.2.2 ≤ m.length ∧ p.2.2 ≤ 18 ∧ Own p.1 p.2.1 (((List.range p.2.2).map (row18 m d)).map .d) ∧ (p.2.2 = 0 → p.2.1 = .d Dnil)) (fun p => m.length - p.2.2) ([], .d Dnil, 0) ⟨Nat.zero_le _, Nat.zero_le _, .nil, fun _ => rfl⟩ rfl (by simp [Go.Vm.look, extK, enterK]) ?_
  intro p hp
  obtain ⟨σ0, x0, i⟩ := p
  obtain ⟨hi, hi8, hown, hnil⟩ := hp
  simp only at hi hi8 hown hnil ⊢
  refine KC.seq ?_
  refine KC.region ?_
  refine KT.step rfl rfl (K.lss rfl rfl) ?_
  refine KT.nil ?_
  refine thenK_n ?_
  refine KC.seq ?_
  refine KC.cond rfl (fun hc9 => ?_) (fun hc9 => ?_)
  · skip
    simp at hc9
    have hlt : i < m.length := by omega
    have hrow := row18_ints hd hlt
    have hrl := hr i hlt
    refine KC.skip ?_
    refine thenK_n ?_
    refine KC.seq ?_
    refine KC.block ?_
    refine KC.seq ?_
    refine KC.region ?_
    refine KT.step rfl rfl (K.move rfl) ?_
    refine KT.step rfl rfl (K.idxV rfl (by assumption) rfl (by omega) Tryd.underlying56 Tryd.size38) ?_
    refine KT.step rfl rfl (K.load rfl Tryd.agg38) ?_
    refine KT.step rfl rfl (K.assign rfl) ?_
    refine KT.step rfl rfl (K.assign rfl) ?_
    refine KT.nil ?_
    refine thenK_n ?_
    refine KC.seq ?_
    refine KC.seq ?_
    refine KC.region ?_
    refine KT.step rfl rfl (K.move rfl) ?_
    refine KT.step rfl rfl (K.gtr rfl rfl) ?_
    refine KT.nil ?_
    refine thenK_n ?_
    refine KC.cond rfl (fun hc14 => ?_) (fun hc14 => ?_)
    · skip
      simp at hc14
      refine KC.exit ?_
      refine thenK_x ?_
      refine blockK_x (by decide) ?_
      refine thenK_x ?_
      refine thenK_x ?_
      refine blockK_e ?_
      refine thenK_n ?_
      refine KC.seq ?_
      refine KC.region ?_
      refine KT.step rfl rfl (K.move rfl) ?_
      refine KT.step rfl rfl (K.assign rfl) ?_
      refine KT.nil ?_
      refine thenK_n ?_
      refine KC.ret ?_
      have : i = min m.length 18 := by omega
      subst this
      refine ⟨.inl rfl, _, rfl, fin_own hown fun h => hnil ?_⟩
      simpa using h
    · skip
      simp at hc14
      refine KC.skip ?_
      refine thenK_n ?_
      refine KC.region ?_
      refine KT.step rfl rfl (K.move rfl) ?_
      refine KT.step rfl rfl (K.move rfl) ?_
      refine KT.step rfl rfl (K.move rfl) ?_
      refine KT.step rfl rfl (K.len rfl (by assumption) Tryd.underlying38) ?_
      refine KT.step rfl rfl (K.minN (b := 10) rfl rfl) ?_
      refine KT.step rfl rfl (K.takeV rfl (by assumption) rfl (by omega) Tryd.underlying38 Tryd.size3) ?_
      refine KT.step rfl rfl (K.call1 rfl plainTryd_100 (clone100 (takeV_vec hrow (by omega)) (by simp; omega))) ?_
      refine KT.step rfl rfl (K.build1' (v := .d (row18 m d i)) rfl (cellsX_clone (takeV_vec hrow (m := min (m.getD i []).length 10) (by omega))).1 Tryd.underlying56 Tryd.one38) ?_
      refine KT.app (v := .d (row18 m d i)) rfl rfl rfl rfl (Own.pushed hown _) (by simp) (cellsX_clone (takeV_vec hrow (m := min (m.getD i []).length 10) (by omega))).2 (by simp; omega) Tryd.underlying56 Tryd.one38 fun σ1 x1 ho1 => ?_
      refine KT.step rfl rfl (K.assign rfl) ?_
      refine KT.nil ?_
      refine blockK_n ?_
      refine thenK_n ?_
      refine KC.region ?_
      refine KT.step rfl rfl (K.add rfl rfl (wrap_id (by omega))) ?_
      refine KT.step rfl rfl (K.move rfl) ?_
      refine KT.nil ?_
      refine thenK_n ?_
      refine ⟨(σ1, x1, i + 1), ⟨by simp only; omega, by simp only; omega, ?_, fun h => by simp at h⟩, by simp only; omega, rfl, by simp [Go.Vm.look, extK]⟩
      rw [List.range_succ, List.map_append, List.map_append]
      exact ho1
  · skip
    simp at hc9
    refine KC.exit ?_
    refine thenK_x ?_
    refine thenK_x ?_
    refine blockK_e ?_
    refine thenK_n ?_
    refine KC.seq ?_
    refine KC.region ?_
    refine KT.step rfl rfl (K.move rfl) ?_
    refine KT.step rfl rfl (K.assign rfl) ?_
    refine KT.nil ?_
    refine thenK_n ?_
    refine KC.ret ?_
    have : i = min m.length 18 := by omega
    subst this
    refine ⟨.inl rfl, _, rfl, fin_own hown fun h => hnil ?_⟩
    simpa using h

def cutM (m : List (List Int)) : List (List Int) := (m.take 18).map (List.take 10)
theorem cut_len (m : List (List Int)) : (cutM m).length ≤ 18 := by unfold cutM; simp; omega
theorem cut_row (m : List (List Int)) : ∀ r ∈ cutM m, r.length ≤ 10 := fun r hr => by
  obtain ⟨x, _, rfl⟩ := List.mem_map.1 hr
  simp; omega
theorem cut_id {m : List (List Int)} (h1 : m.length ≤ 18) (h2 : ∀ r ∈ m, r.length ≤ 10) : cutM m = m := by
  unfold cutM
  rw [List.take_of_length_le h1]
  conv => rhs; rw [← List.map_id m]
  exact List.map_congr_left fun r hr => List.take_of_length_le (h2 r hr)
theorem VM_cut {a : Int} {nx ou : List (List Int)} (h : VM a nx ou) : cutM nx = nx ∧ cutM ou = ou := by
  have := h.n16; have := h.oul; have := h.a8
  exact ⟨cut_id (by omega) fun r hr => by have := (h.nr r hr).1; omega, cut_id (by omega) fun r hr => by have := (h.or r hr).1; omega⟩
theorem VM_uncut {a : Int} {nx ou : List (List Int)} (h : VM a (cutM nx) (cutM ou)) : VM a nx ou := by
  have n16 := h.n16; have oul := h.oul; have a8 := h.a8
  have l1 : nx.length ≤ 18 := by
    have : (cutM nx).length = min nx.length 18 := by simp [cutM, Nat.min_comm]
    omega
  have l2 : ou.length ≤ 18 := by
    have : (cutM ou).length = min ou.length 18 := by simp [cutM, Nat.min_comm]
    have : (cutM nx).length = min nx.length 18 := by simp [cutM, Nat.min_comm]
    omega
  have key : ∀ m : List (List Int), m.length ≤ 18 → (∀ r ∈ cutM m, (r.length : Int) = a) → cutM m = m := fun m hm hr => cut_id hm fun r h1 => by
    have := hr (r.take 10) (by unfold cutM; rw [List.take_of_length_le hm]; exact List.mem_map.2 ⟨r, h1, rfl⟩)
    simp at this; omega
  rw [key nx l1 fun r hr => (h.nr r hr).1, key ou l2 fun r hr => (h.or r hr).1] at h
  exact h
theorem vm_cut {a : Int} {nx ou : List (List Int)} : VM a (cutM nx) (cutM ou) ↔ VM a nx ou := ⟨VM_uncut, fun h => by rw [(VM_cut h).1, (VM_cut h).2]; exact h⟩
theorem getD_rows {m : List (List Int)} {B : Nat} (h : ∀ r ∈ m, r.length ≤ B) : ∀ i, i < m.length → (m.getD i []).length ≤ B := fun i hi => by
  rw [show m.getD i [] = m[i] by simp [hi]]; exact h _ (List.getElem_mem hi)
theorem build58_3 (x : Int) {d e : DV} (h1 : SlD d) (h2 : SlD e) : opBuild Tryd.prog 58 [(0, .d (DI x)), (1, .d d), (2, .d e)] = some (.d (.agg [DI x, d, e])) := by
  cases h1 <;> cases h2 <;> kernel_rfl
set_option maxRecDepth 10000 in
theorem machine39 {a : Int} {nd od : DV} {nx ou : List (List Int)} (hn : Mat nd nx) (ho : Mat od ou) (hnl : nx.length ≤ 9223372036854775807) (hol : ou.length ≤ 9223372036854775807) (hnr : ∀ r ∈ nx, r.length ≤ 9223372036854775807) (hor : ∀ r ∈ ou, r.length ≤ 9223372036854775807) : DeepCall Tryd.prog 39 [.agg [DI a, nd, od]] (.agg [DI a, rows18 nx nd, rows18 ou od]) := by
  refine deepCall_K 5 Tryd.func39 rfl (Nat.le_of_ble_eq_true rfl) fun M W0 => ?_
  refine KC.seq ?_
  refine KC.region ?_
  refine KT.step rfl rfl (K.box rfl) ?_
  refine KT.step rfl rfl (K.alloc Tryd.zero58) ?_
  refine KT.nil ?_
  refine thenK_n ?_
  refine KC.seq ?_
  refine KC.draw Tryd.mixed ?_
  refine KT.step rfl rfl (K.fieldAddrO rfl Tryd.fld63_0 Tryd.size3) ?_
  refine KT.step rfl rfl (K.loadO rfl rfl (by simp) rfl Tryd.agg3) ?_
  refine KT.step rfl rfl (K.fieldAddrO rfl Tryd.fld63_1 Tryd.size56) ?_
  refine KT.step rfl rfl (K.loadO rfl rfl (by simp) rfl Tryd.agg56) ?_
  refine KT.step rfl rfl (K.call1 rfl plainTryd_71 (rows71 hn hnl (getD_rows hnr))) ?_
  refine KT.step rfl rfl (K.fieldAddrO rfl Tryd.fld63_2 Tryd.size56) ?_
  refine KT.step rfl rfl (K.loadO rfl rfl (by simp) rfl Tryd.agg56) ?_
  refine KT.step rfl rfl (K.call1 rfl plainTryd_71 (rows71 ho hol (getD_rows hor))) ?_
  refine KT.step rfl rfl (K.buildS rfl (build58_3 _ (SlD.of (rows18_mat hn)) (SlD.of (rows18_mat ho)))) ?_
  refine KT.storeL (cs := [.d (DI a), .d (rows18 nx nd), .d (rows18 ou od)]) rfl rfl rfl rfl rfl rfl (by simp only [List.all_cons, (SlD.of (rows18_mat hn)).one, (SlD.of (rows18_mat ho)).one]; rfl) Tryd.size58 ?_
  refine KT.nil ?_
  refine ⟨by kernel_rfl, ?_⟩
  refine thenK_n ?_
  refine KC.ret ?_
  exact ⟨.inl rfl, _, resK_c [DI a, rows18 nx nd, rows18 ou od] rfl rfl rfl (by decide) Tryd.agg58 Tryd.size58 rfl, fin_d rfl⟩
end Go.Proofs.YteednkolfnjdoaaDoor

