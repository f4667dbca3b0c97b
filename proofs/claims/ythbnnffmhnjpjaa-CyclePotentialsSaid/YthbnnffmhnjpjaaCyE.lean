import Derived.Test.YthbnnffmhnjpjaaCyD
import Derived.Test.YthbnnffmhnjpjaaVmX
/-
  Times: Mul and Power on both sides; what the laws share.
-/
namespace Go.Proofs.Ythbnnffmhnjpjaa
open Go.Vm Go.Cy
theorem plainTry_18 : plainFn Try.prog 18 = true := by kernel_rfl
theorem plainTry_21 : plainFn Try.prog 21 = true := by kernel_rfl
theorem plainTry_20 : plainFn Try.prog 20 = true := by kernel_rfl
theorem plainTry_22 : plainFn Try.prog 22 = true := by kernel_rfl
theorem plainTry_19 : plainFn Try.prog 19 = true := by kernel_rfl
theorem plainTry_23 : plainFn Try.prog 23 = true := by kernel_rfl
theorem plainTry_29 : plainFn Try.prog 29 = true := by kernel_rfl
theorem plainTry_55 : plainFn Try.prog 55 = true := by kernel_rfl
theorem plainTry_49 : plainFn Try.prog 49 = true := by kernel_rfl
theorem plainTry_24 : plainFn Try.prog 24 = true := by kernel_rfl
theorem plainTry_3 : plainFn Try.prog 3 = true := by kernel_rfl
theorem clone_fin {cs : List DV} {len : Nat} {cap : Option Nat} (hn : cs.length = len) (h0 : len ≠ 0) :
    deepen (freezeAll [(⟨[], 0⟩ : VObj), ⟨(cs.take len).map .d, 0⟩]) 5 (.osl 1 0 len 1 len false) = some (cloneD (.sl cs len cap)) := by
  have e : cs.take len = cs := List.take_of_length_le (by omega)
  rw [e]
  rw [deepen_osl (ob := ⟨cs.map .d, 1⟩) rfl rfl (by simp [hn])]
  have h2 : ((cs.map XV.d).drop 0).take (len * 1) = cs.map XV.d := by
    rw [List.drop_zero, Nat.mul_one, List.take_of_length_le (by simp [hn])]
  rw [show ((⟨cs.map XV.d, 1⟩ : VObj).cells.drop 0).take (len * 1) = cs.map XV.d from h2, mapM_deep]
  simp [cloneD, h0, e]

set_option maxRecDepth 10000 in
theorem clone49_nil : DeepCall Try.prog 49 [Dnil] Dnil := by
  refine deepCall_K 5 Try.func49 rfl (Nat.le_of_ble_eq_true rfl) fun M W0 => ?_
  refine KC.seq ?_
  refine KC.region ?_
  refine KT.step rfl rfl (K.assign rfl) ?_
  refine KT.nil ?_
  refine thenK_n ?_
  refine KC.seq ?_
  refine KC.seq ?_
  refine KC.region ?_
  refine KT.step rfl rfl (K.move rfl) ?_
  refine KT.step rfl rfl (K.eqNilNil rfl Try.underlying33) ?_
  refine KT.nil ?_
  refine thenK_n ?_
  refine KC.cond rfl (fun hc4 => ?_) (fun hc4 => ?_)
  · skip
    refine KC.seq ?_
    refine KC.region ?_
    refine KT.step rfl rfl (K.assign rfl) ?_
    refine KT.nil ?_
    refine thenK_n ?_
    refine KC.ret ?_
    refine thenK_r ?_
    exact ⟨.inl rfl, _, rfl, fin_d rfl⟩
  · cases hc4

set_option maxRecDepth 10000 in
theorem clone49_zero {cs : List DV} {cap : Option Nat} : DeepCall Try.prog 49 [.sl cs 0 cap] (.sl [] 0 (some 0)) := by
  refine deepCall_K 5 Try.func49 rfl (Nat.le_of_ble_eq_true rfl) fun M W0 => ?_
  refine KC.seq ?_
  refine KC.region ?_
  refine KT.step rfl rfl (K.assign rfl) ?_
  refine KT.nil ?_
  refine thenK_n ?_
  refine KC.seq ?_
  refine KC.seq ?_
  refine KC.region ?_
  refine KT.step rfl rfl (K.move rfl) ?_
  refine KT.step rfl rfl (K.eqNil rfl Try.underlying33) ?_
  refine KT.nil ?_
  refine thenK_n ?_
  refine KC.cond rfl (fun hc4 => ?_) (fun hc4 => ?_)
  · cases hc4
  · skip
    refine KC.skip ?_
    refine thenK_n ?_
    refine KC.seq ?_
    refine KC.region ?_
    refine KT.step rfl rfl (K.build0 Try.underlying33 Try.one3) ?_
    refine KT.step rfl rfl (K.move rfl) ?_
    refine KT.step rfl rfl (K.appNone rfl rfl Try.underlying33 Try.one3) ?_
    refine KT.step rfl rfl (K.assign rfl) ?_
    refine KT.nil ?_
    refine thenK_n ?_
    refine KC.ret ?_
    exact ⟨.inl rfl, _, rfl, rfl⟩

set_option maxRecDepth 10000 in
theorem clone49_all {cs : List DV} {len : Nat} {cap : Option Nat} (hn : cs.length = len) (h1 : ((cs.take len).map XV.d).all oneX = true) (h0 : len ≠ 0) (hl : len ≤ 1073741824) : DeepCall Try.prog 49 [.sl cs len cap] (cloneD (.sl cs len cap)) := by
  refine deepCall_K 5 Try.func49 rfl (Nat.le_of_ble_eq_true rfl) fun M W0 => ?_
  refine KC.seq ?_
  refine KC.region ?_
  refine KT.step rfl rfl (K.assign rfl) ?_
  refine KT.nil ?_
  refine thenK_n ?_
  refine KC.seq ?_
  refine KC.seq ?_
  refine KC.region ?_
  refine KT.step rfl rfl (K.move rfl) ?_
  refine KT.step rfl rfl (K.eqNil rfl Try.underlying33) ?_
  refine KT.nil ?_
  refine thenK_n ?_
  refine KC.cond rfl (fun hc4 => ?_) (fun hc4 => ?_)
  · cases hc4
  · skip
    refine KC.skip ?_
    refine thenK_n ?_
    refine KC.seq ?_
    refine KC.region ?_
    refine KT.step rfl rfl (K.build0 Try.underlying33 Try.one3) ?_
    refine KT.step rfl rfl (K.move rfl) ?_
    refine KT.step rfl rfl (K.appAll rfl rfl rfl hn h1 h0 hl Try.underlying33 Try.one3) ?_
    refine KT.step rfl rfl (K.assign rfl) ?_
    refine KT.nil ?_
    refine thenK_n ?_
    refine KC.ret ?_
    exact ⟨.inl rfl, _, rfl, clone_fin hn h0⟩

theorem clone49 {d : DV} {l : List Int} (hd : Ints d l) (hl : l.length ≤ 1073741824) : DeepCall Try.prog 49 [d] (cloneD d) := by
  rcases litOf_vec hd with ⟨rfl, rfl⟩ | ⟨cs, cap, rfl, hn, hr⟩
  · exact clone49_nil
  · by_cases h0 : l.length = 0
    · rw [h0]; exact clone49_zero
    · refine clone49_all hn ?_ h0 hl
      rw [List.all_map, List.all_eq_true]
      intro x hx
      obtain ⟨i, hi, rfl⟩ := List.getElem_of_mem (List.mem_of_mem_take hx)
      rw [hr i cs[i] l[i] (List.getElem?_eq_getElem hi) (List.getElem?_eq_getElem (by omega))]
      rfl

/-- The first eight. -/
def list8 (l : List Int) (d : DV) : DV := cloneD (takeV (min l.length 8) d)
theorem list8_ints {d : DV} {l : List Int} (hd : Ints d l) : Ints (list8 l d) (l.take 8) := by
  have h := cloneD_vec (takeV_vec hd (m := min l.length 8) (by omega))
  have e : l.take (min l.length 8) = l.take 8 := by
    by_cases h8 : l.length ≤ 8
    · rw [List.take_of_length_le (by omega), List.take_of_length_le h8]
    · rw [show min l.length 8 = 8 by omega]
  rwa [e] at h

def row8 (m : List (List Int)) (d : DV) (i : Nat) : DV := list8 (m.getD i []) (getV d i)
def rows8 (m : List (List Int)) (d : DV) : DV := slOf ((List.range (min m.length 8)).map (row8 m d))

theorem row8_ints {d : DV} {m : List (List Int)} (hd : Mat d m) {i : Nat} (hi : i < m.length) : Ints (getV d i) (m.getD i []) := by
  have := getV_vec hd hi
  rwa [show m.getD i [] = m[i] by simp [hi]]

theorem rows8_mat {d : DV} {m : List (List Int)} (hd : Mat d m) : Mat (rows8 m d) ((m.take 8).map (List.take 8)) := by
  have hlen : ((List.range (min m.length 8)).map (row8 m d)).length = ((m.take 8).map (List.take 8)).length := by simp; omega
  unfold rows8
  generalize hg : (List.range (min m.length 8)).map (row8 m d) = ds at hlen
  cases ds with
  | nil =>
    have : (m.take 8).map (List.take 8) = [] := List.length_eq_zero_iff.1 hlen.symm
    rw [this]; exact .nil
  | cons a ds =>
    rw [show slOf (a :: ds) = .sl (a :: ds) (a :: ds).length none from rfl, hlen]
    refine .sl hlen fun i c x hc hx => ?_
    rw [← hg, List.getElem?_map] at hc
    by_cases hi : i < min m.length 8
    · rw [List.getElem?_range hi] at hc
      simp only [Option.map_some, Option.some.injEq] at hc
      rw [List.getElem?_map, List.getElem?_take, if_pos (by omega), List.getElem?_eq_getElem (by omega)] at hx
      simp only [Option.map_some, Option.some.injEq] at hx
      subst hc hx
      have := list8_ints (row8_ints hd (i := i) (by omega))
      have e : m.getD i [] = m[i] := by simp [show i < m.length by omega]
      unfold row8
      rw [e] at this ⊢; exact this
    · rw [List.getElem?_eq_none (by simp; omega)] at hc; cases hc

set_option maxRecDepth 10000 in
theorem rows19 {d : DV} {m : List (List Int)} (hd : Mat d m) (hl : m.length ≤ 9223372036854775807) (hr : ∀ i, i < m.length → (m.getD i []).length ≤ 9223372036854775807) : DeepCall Try.prog 19 [d] (rows8 m d) := by
  refine deepCall_K 5 Try.func19 rfl (Nat.le_of_ble_eq_true rfl) fun M W0 => ?_
  refine KC.seq ?_
  refine KC.region ?_
  refine KT.step rfl rfl (K.assign rfl) ?_
  refine KT.nil ?_
  refine thenK_n ?_
  refine KC.seq ?_
  refine KC.region ?_
  refine KT.step rfl rfl (K.assign rfl) ?_
  refine KT.nil ?_
  refine thenK_n ?_
  refine KC.seq ?_
  refine KC.seq ?_
  refine KC.region ?_
  refine KT.step rfl rfl (K.move rfl) ?_
  refine KT.step rfl rfl (K.len rfl (by assumption) Try.underlying22) ?_
  refine KT.step rfl rfl (K.move rfl) ?_
  refine KT.nil ?_
  refine thenK_n ?_
  refine KC.block ?_
  refine KC.loop (fun p : List VObj × XV × Nat => p.1) (fun p => [(0, .d d), (3, p.2.1), (6, .d d), (7, .d (DI m.length)), (8, .d (DI p.2.2))]) (fun p => p.2.2 ≤ m.length ∧ p.2.2 ≤ 8 ∧ Own p.1 p.2.1 (((List.range p.2.2).map (row8 m d)).map .d) ∧ (p.2.2 = 0 → p.2.1 = .d Dnil)) (fun p => m.length - p.2.2) ([], .d Dnil, 0) ⟨Nat.zero_le _, Nat.zero_le _, .nil, fun _ => rfl⟩ rfl (by simp [Go.Vm.look, extK, enterK]) ?_
  intro p hp
  obtain ⟨σ0, x0, i⟩ := p
  obtain ⟨hi, hi8, hown, hnil⟩ := hp
  simp only at hi hi8 hown hnil ⊢
  refine KC.seq ?_
  refine KC.region ?_
  refine KT.step rfl rfl (K.lss rfl rfl) ?_
  refine KT.nil ?_
  refine thenK_n ?_
  refine KC.seq ?_
  refine KC.cond rfl (fun hc9 => ?_) (fun hc9 => ?_)
  · skip
    simp at hc9
    have hlt : i < m.length := by omega
    have hrow := row8_ints hd hlt
    have hrl := hr i hlt
    refine KC.skip ?_
    refine thenK_n ?_
    refine KC.seq ?_
    refine KC.block ?_
    refine KC.seq ?_
    refine KC.region ?_
    refine KT.step rfl rfl (K.move rfl) ?_
    refine KT.step rfl rfl (K.idxV rfl (by assumption) rfl (by omega) Try.underlying22 Try.size33) ?_
    refine KT.step rfl rfl (K.load rfl Try.agg33) ?_
    refine KT.step rfl rfl (K.assign rfl) ?_
    refine KT.step rfl rfl (K.assign rfl) ?_
    refine KT.nil ?_
    refine thenK_n ?_
    refine KC.seq ?_
    refine KC.seq ?_
    refine KC.region ?_
    refine KT.step rfl rfl (K.move rfl) ?_
    refine KT.step rfl rfl (K.gtr rfl rfl) ?_
    refine KT.nil ?_
    refine thenK_n ?_
    refine KC.cond rfl (fun hc14 => ?_) (fun hc14 => ?_)
    · skip
      simp at hc14
      refine KC.exit ?_
      refine thenK_x ?_
      refine blockK_x (by decide) ?_
      refine thenK_x ?_
      refine thenK_x ?_
      refine blockK_e ?_
      refine thenK_n ?_
      refine KC.seq ?_
      refine KC.region ?_
      refine KT.step rfl rfl (K.move rfl) ?_
      refine KT.step rfl rfl (K.assign rfl) ?_
      refine KT.nil ?_
      refine thenK_n ?_
      refine KC.ret ?_
      have : i = min m.length 8 := by omega
      subst this
      refine ⟨.inl rfl, _, rfl, fin_own hown fun h => hnil ?_⟩
      simpa using h
    · skip
      simp at hc14
      refine KC.skip ?_
      refine thenK_n ?_
      refine KC.region ?_
      refine KT.step rfl rfl (K.move rfl) ?_
      refine KT.step rfl rfl (K.move rfl) ?_
      refine KT.step rfl rfl (K.move rfl) ?_
      refine KT.step rfl rfl (K.len rfl (by assumption) Try.underlying33) ?_
      refine KT.step rfl rfl (K.minN (b := 8) rfl rfl) ?_
      refine KT.step rfl rfl (K.takeV rfl (by assumption) rfl (by omega) Try.underlying33 Try.size3) ?_
      refine KT.step rfl rfl (K.call1 rfl plainTry_49 (clone49 (takeV_vec hrow (by omega)) (by simp; omega))) ?_
      refine KT.step rfl rfl (K.build1' (v := .d (row8 m d i)) rfl (cellsX_clone (takeV_vec hrow (m := min (m.getD i []).length 8) (by omega))).1 Try.underlying22 Try.one33) ?_
      refine KT.app (v := .d (row8 m d i)) rfl rfl rfl rfl (Own.pushed hown _) (by simp) (cellsX_clone (takeV_vec hrow (m := min (m.getD i []).length 8) (by omega))).2 (by simp; omega) Try.underlying22 Try.one33 fun σ1 x1 ho1 => ?_
      refine KT.step rfl rfl (K.assign rfl) ?_
      refine KT.nil ?_
      refine blockK_n ?_
      refine thenK_n ?_
      refine KC.region ?_
      refine KT.step rfl rfl (K.add rfl rfl (wrap_id (by omega))) ?_
      refine KT.step rfl rfl (K.move rfl) ?_
      refine KT.nil ?_
      refine thenK_n ?_
      refine ⟨(σ1, x1, i + 1), ⟨by simp only; omega, by simp only; omega, ?_, fun h => by simp at h⟩, by simp only; omega, rfl, by simp [Go.Vm.look, extK]⟩
      rw [List.range_succ, List.map_append, List.map_append]
      exact ho1
  · skip
    simp at hc9
    refine KC.exit ?_
    refine thenK_x ?_
    refine thenK_x ?_
    refine blockK_e ?_
    refine thenK_n ?_
    refine KC.seq ?_
    refine KC.region ?_
    refine KT.step rfl rfl (K.move rfl) ?_
    refine KT.step rfl rfl (K.assign rfl) ?_
    refine KT.nil ?_
    refine thenK_n ?_
    refine KC.ret ?_
    have : i = min m.length 8 := by omega
    subst this
    refine ⟨.inl rfl, _, rfl, fin_own hown fun h => hnil ?_⟩
    simpa using h

set_option maxRecDepth 10000 in
theorem equal29 {d e : DV} {x y : List Int} (hd : Ints d x) (he : Ints e y) (hl : x.length ≤ 9223372036854775807) :
    DeepCall Try.prog 29 [d, e] (DB (decide (x = y))) := by
  refine deepCall_K 5 Try.func29 rfl (Nat.le_of_ble_eq_true rfl) fun M W0 => ?_
  refine KC.seq ?_
  refine KC.region ?_
  refine KT.step rfl rfl (K.assign rfl) ?_
  refine KT.nil ?_
  refine thenK_n ?_
  refine KC.seq ?_
  refine KC.seq ?_
  refine KC.region ?_
  refine KT.step rfl rfl (K.move rfl) ?_
  refine KT.step rfl rfl (K.len rfl (by assumption) Try.underlying33) ?_
  refine KT.step rfl rfl (K.move rfl) ?_
  refine KT.step rfl rfl (K.len rfl (by assumption) Try.underlying33) ?_
  refine KT.step rfl rfl (K.neq rfl rfl) ?_
  refine KT.nil ?_
  refine thenK_n ?_
  refine KC.cond rfl (fun hc10 => ?_) (fun hc10 => ?_)
  · skip
    replace hc10 := of_decide_eq_true hc10
    refine KC.seq ?_
    refine KC.region ?_
    refine KT.step rfl rfl (K.assign rfl) ?_
    refine KT.nil ?_
    refine thenK_n ?_
    refine KC.ret ?_
    refine thenK_r ?_
    exact ⟨.inl rfl, _, rfl, fin_b (decide_eq_false fun h => by subst h; omega)⟩
  · skip
    replace hc10 := of_decide_eq_false hc10
    refine KC.skip ?_
    refine thenK_n ?_
    refine KC.seq ?_
    refine KC.seq ?_
    refine KC.region ?_
    refine KT.step rfl rfl (K.move rfl) ?_
    refine KT.step rfl rfl (K.len rfl (by assumption) Try.underlying33) ?_
    refine KT.step rfl rfl (K.move rfl) ?_
    refine KT.nil ?_
    refine thenK_n ?_
    refine KC.block ?_
    refine KC.loop (fun _ : Nat => []) (fun i => [(0, .d d), (1, .d e), (12, .d (DI x.length)), (13, .d (DI i))]) (fun i => i ≤ x.length ∧ x.take i = y.take i) (fun i => x.length - i) 0 ⟨Nat.zero_le _, rfl⟩ rfl (by simp [Go.Vm.look, extK, enterK]) ?_
    intro i hi
    obtain ⟨hi, hall⟩ := hi
    refine KC.seq ?_
    refine KC.region ?_
    refine KT.step rfl rfl (K.lss rfl rfl) ?_
    refine KT.nil ?_
    refine thenK_n ?_
    refine KC.seq ?_
    refine KC.cond rfl (fun hc14 => ?_) (fun hc14 => ?_)
    · skip
      replace hc14 := of_decide_eq_true hc14
      refine KC.skip ?_
      refine thenK_n ?_
      refine KC.seq ?_
      refine KC.block ?_
      refine KC.seq ?_
      refine KC.region ?_
      refine KT.step rfl rfl (K.move rfl) ?_
      refine KT.step rfl rfl (K.assign rfl) ?_
      refine KT.nil ?_
      refine thenK_n ?_
      refine KC.seq ?_
      refine KC.draw Try.mixed ?_
      refine KT.step rfl rfl (K.move rfl) ?_
      refine KT.step rfl rfl (K.move rfl) ?_
      refine KT.idxI rfl rfl rfl (by assumption) rfl (by omega) Try.underlying33 Try.size3 fun cs18 => ?_
      refine KT.step rfl rfl (K.load rfl Try.agg3) ?_
      refine KT.step rfl rfl (K.move rfl) ?_
      refine KT.step rfl rfl (K.move rfl) ?_
      refine KT.idxI rfl rfl rfl (by assumption) rfl (by omega) Try.underlying33 Try.size3 fun cs22 => ?_
      refine KT.step rfl rfl (K.load rfl Try.agg3) ?_
      refine KT.step rfl rfl (K.neq rfl rfl) ?_
      refine KT.nil ?_
      refine ⟨by kernel_rfl, ?_⟩
      refine thenK_n ?_
      refine KC.cond rfl (fun hc24 => ?_) (fun hc24 => ?_)
      · skip
        replace hc24 := of_decide_eq_true hc24
        refine KC.seq ?_
        refine KC.region ?_
        refine KT.step rfl rfl (K.assign rfl) ?_
        refine KT.nil ?_
        refine thenK_n ?_
        refine KC.ret ?_
        refine blockK_r ?_
        refine thenK_r ?_
        refine thenK_r ?_
        refine blockK_r ?_
        refine thenK_r ?_
        exact ⟨.inl rfl, _, rfl, fin_b (decide_eq_false fun h => by subst h; exact hc24 rfl)⟩
      · skip
        replace hc24 := of_decide_eq_false hc24
        refine KC.skip ?_
        refine blockK_n ?_
        refine thenK_n ?_
        refine KC.region ?_
        refine KT.step rfl rfl (K.add rfl rfl (wrap_id (by omega))) ?_
        refine KT.step rfl rfl (K.move rfl) ?_
        refine KT.nil ?_
        refine thenK_n ?_
        refine ⟨i + 1, ⟨by omega, ?_⟩, by omega, rfl, by simp [Go.Vm.look, extK]⟩
        rw [List.take_succ_eq_append_getElem (by omega), List.take_succ_eq_append_getElem (by omega), hall, Classical.not_not.1 hc24]
    · skip
      replace hc14 := of_decide_eq_false hc14
      refine KC.exit ?_
      refine thenK_x ?_
      refine thenK_x ?_
      refine blockK_e ?_
      refine thenK_n ?_
      refine KC.seq ?_
      refine KC.region ?_
      refine KT.step rfl rfl (K.assign rfl) ?_
      refine KT.nil ?_
      refine thenK_n ?_
      refine KC.ret ?_
      have hx : x.take i = x := List.take_of_length_le (by omega)
      have hy : y.take i = y := List.take_of_length_le (by omega)
      rw [hx, hy] at hall
      exact ⟨.inl rfl, _, rfl, fin_b (decide_eq_true hall)⟩

set_option maxRecDepth 10000 in
theorem equalFunc55 {d e : DV} {x y : List (List Int)} (hd : Mat d x) (he : Mat e y) (hl : x.length ≤ 9223372036854775807) (hr : ∀ r ∈ x, r.length ≤ 9223372036854775807) :
    DeepCall Try.prog 55 [d, e, .fn (.func 29) [] []] (DB (decide (x = y))) := by
  refine deepCall_K 5 Try.func55 rfl (Nat.le_of_ble_eq_true rfl) fun M W0 => ?_
  refine KC.seq ?_
  refine KC.region ?_
  refine KT.step rfl rfl (K.assign rfl) ?_
  refine KT.nil ?_
  refine thenK_n ?_
  refine KC.seq ?_
  refine KC.seq ?_
  refine KC.region ?_
  refine KT.step rfl rfl (K.move rfl) ?_
  refine KT.step rfl rfl (K.len rfl (by assumption) Try.underlying22) ?_
  refine KT.step rfl rfl (K.move rfl) ?_
  refine KT.step rfl rfl (K.len rfl (by assumption) Try.underlying22) ?_
  refine KT.step rfl rfl (K.neq rfl rfl) ?_
  refine KT.nil ?_
  refine thenK_n ?_
  refine KC.cond rfl (fun hc14 => ?_) (fun hc14 => ?_)
  · skip
    replace hc14 := of_decide_eq_true hc14
    refine KC.seq ?_
    refine KC.region ?_
    refine KT.step rfl rfl (K.assign rfl) ?_
    refine KT.nil ?_
    refine thenK_n ?_
    refine KC.ret ?_
    refine thenK_r ?_
    exact ⟨.inl rfl, _, rfl, fin_b (decide_eq_false fun h => by subst h; omega)⟩
  · skip
    replace hc14 := of_decide_eq_false hc14
    refine KC.skip ?_
    refine thenK_n ?_
    refine KC.seq ?_
    refine KC.seq ?_
    refine KC.region ?_
    refine KT.step rfl rfl (K.move rfl) ?_
    refine KT.step rfl rfl (K.len rfl (by assumption) Try.underlying22) ?_
    refine KT.step rfl rfl (K.move rfl) ?_
    refine KT.nil ?_
    refine thenK_n ?_
    refine KC.block ?_
    refine KC.loop (fun _ : Nat => []) (fun i => [(0, .d d), (1, .d e), (2, .d (.fn (.func 29) [] [])), (15, .d d), (16, .d (DI x.length)), (17, .d (DI i))]) (fun i => i ≤ x.length ∧ x.take i = y.take i) (fun i => x.length - i) 0 ⟨Nat.zero_le _, rfl⟩ rfl (by simp [Go.Vm.look, extK, enterK]) ?_
    intro i hi
    obtain ⟨hi, hall⟩ := hi
    refine KC.seq ?_
    refine KC.region ?_
    refine KT.step rfl rfl (K.lss rfl rfl) ?_
    refine KT.nil ?_
    refine thenK_n ?_
    refine KC.seq ?_
    refine KC.cond rfl (fun hc18 => ?_) (fun hc18 => ?_)
    · skip
      replace hc18 := of_decide_eq_true hc18
      refine KC.skip ?_
      refine thenK_n ?_
      refine KC.seq ?_
      refine KC.block ?_
      refine KC.seq ?_
      refine KC.region ?_
      refine KT.step rfl rfl (K.move rfl) ?_
      refine KT.idx rfl rfl rfl (by assumption) rfl (by omega) Try.underlying22 Try.size33 fun c20 cs20 hq20 => ?_
      refine KT.step rfl rfl (K.load rfl Try.agg33) ?_
      refine KT.step rfl rfl (K.assign rfl) ?_
      refine KT.step rfl rfl (K.assign rfl) ?_
      refine KT.nil ?_
      refine thenK_n ?_
      refine KC.seq ?_
      refine KC.region ?_
      refine KT.step rfl rfl (K.move rfl) ?_
      refine KT.step rfl rfl (K.move rfl) ?_
      refine KT.idx rfl rfl rfl (by assumption) rfl (by omega) Try.underlying22 Try.size33 fun c24 cs24 hq24 => ?_
      refine KT.step rfl rfl (K.load rfl Try.agg33) ?_
      refine KT.step rfl rfl (K.assign rfl) ?_
      refine KT.nil ?_
      refine thenK_n ?_
      refine KC.seq ?_
      refine KC.region ?_
      refine KT.step rfl rfl (K.move rfl) ?_
      refine KT.step rfl rfl (K.move rfl) ?_
      refine KT.step rfl rfl (K.move rfl) ?_
      refine KT.step rfl rfl (K.callW rfl rfl rfl plainTry_29 (equal29 hq20 hq24 (hr _ (List.getElem_mem _)))) ?_
      refine KT.step rfl rfl (K.not rfl) ?_
      refine KT.nil ?_
      refine thenK_n ?_
      refine KC.cond rfl (fun hc30 => ?_) (fun hc30 => ?_)
      · skip
        replace hc30 : ¬ x[i] = y[i] := by simpa using hc30
        refine KC.seq ?_
        refine KC.region ?_
        refine KT.step rfl rfl (K.assign rfl) ?_
        refine KT.nil ?_
        refine thenK_n ?_
        refine KC.ret ?_
        refine blockK_r ?_
        refine thenK_r ?_
        refine thenK_r ?_
        refine blockK_r ?_
        refine thenK_r ?_
        exact ⟨.inl rfl, _, rfl, fin_b (decide_eq_false fun h => by subst h; exact hc30 rfl)⟩
      · skip
        replace hc30 : x[i] = y[i] := by simpa using hc30
        refine KC.skip ?_
        refine blockK_n ?_
        refine thenK_n ?_
        refine KC.region ?_
        refine KT.step rfl rfl (K.add rfl rfl (wrap_id (by omega))) ?_
        refine KT.step rfl rfl (K.move rfl) ?_
        refine KT.nil ?_
        refine thenK_n ?_
        refine ⟨i + 1, ⟨by omega, ?_⟩, by omega, rfl, by simp [Go.Vm.look, extK]⟩
        rw [List.take_succ_eq_append_getElem (by omega), List.take_succ_eq_append_getElem (by omega), hall, hc30]
    · skip
      replace hc18 := of_decide_eq_false hc18
      refine KC.exit ?_
      refine thenK_x ?_
      refine thenK_x ?_
      refine blockK_e ?_
      refine thenK_n ?_
      refine KC.seq ?_
      refine KC.region ?_
      refine KT.step rfl rfl (K.assign rfl) ?_
      refine KT.nil ?_
      refine thenK_n ?_
      refine KC.ret ?_
      have hx : x.take i = x := List.take_of_length_le (by omega)
      have hy : y.take i = y := List.take_of_length_le (by omega)
      rw [hx, hy] at hall
      exact ⟨.inl rfl, _, rfl, fin_b (decide_eq_true hall)⟩

set_option maxRecDepth 10000 in
theorem same23 {d e : DV} {x y : List (List Int)} (hd : Mat d x) (he : Mat e y) (hl : x.length ≤ 9223372036854775807) (hr : ∀ r ∈ x, r.length ≤ 9223372036854775807) :
    DeepCall Try.prog 23 [d, e] (DB (decide (x = y))) := by
  refine deepCall_K 5 Try.func23 rfl (Nat.le_of_ble_eq_true rfl) fun M W0 => ?_
  refine KC.seq ?_
  refine KC.region ?_
  refine KT.step rfl rfl (K.assign rfl) ?_
  refine KT.nil ?_
  refine thenK_n ?_
  refine KC.seq ?_
  refine KC.region ?_
  refine KT.step rfl rfl (K.move rfl) ?_
  refine KT.step rfl rfl (K.move rfl) ?_
  refine KT.step rfl rfl (K.callW (ds := [d, e, .fn (.func 29) [] []]) rfl rfl rfl plainTry_55 (equalFunc55 hd he hl hr)) ?_
  refine KT.step rfl rfl (K.assign rfl) ?_
  refine KT.nil ?_
  refine thenK_n ?_
  refine KC.ret ?_
  exact ⟨.inl rfl, _, rfl, fin_d rfl⟩

theorem awake24 : DeepCall Try.prog 24 [] (DB true) := runFn_sound (inl := fun f => f == 9999) (len := 3000) (k := 60) (f := 24) Try.mixed (by kernel_rfl)
def sq2 (m m2 : List (List Int)) : Bool := (validB 1000000 m && validB 1000000 m2) && decide (m.length = m2.length)
def mulM (m m2 : List (List Int)) : List (List Int) := if sq2 m m2 then genM m.length m.length (prodI m.length (mf m) (mf m2)) else []
def mulD (m m2 : List (List Int)) : DV := if sq2 m m2 then genD m.length m.length (prodI m.length (mf m) (mf m2)) else Dnil
def mulR (m m2 : List (List Int)) : DV := if sq2 m m2 then genS m.length (prodI m.length (mf m) (mf m2)) m.length else Dnil
def mulE (m m2 : List (List Int)) : Int := if sq2 m m2 then 0 else 2
def okP (m : List (List Int)) (k : Int) : Bool := validB 1000 m && (decide (0 ≤ k) && decide (k ≤ 1000))
def powM (m : List (List Int)) (k : Int) : List (List Int) := if okP m k then genM m.length m.length (pwI m.length (mf m) k.toNat) else []
def powD (m : List (List Int)) (k : Int) : DV := if okP m k then genD m.length m.length (pwI m.length (mf m) k.toNat) else Dnil
def powR (m : List (List Int)) (k : Int) : DV := if okP m k then genS m.length (pwI m.length (mf m) k.toNat) m.length else Dnil
def powE (m : List (List Int)) (k : Int) : Int := if okP m k then 0 else 2
theorem mulD_mat (m m2 : List (List Int)) : Mat (mulD m m2) (mulM m m2) := by unfold mulD mulM; split; exact genD_mat; exact .nil
theorem mulR_mat (m m2 : List (List Int)) : Mat (mulR m m2) (mulM m m2) := by unfold mulR mulM; split; exact genS_mat; exact .nil
theorem powD_mat (m : List (List Int)) (k : Int) : Mat (powD m k) (powM m k) := by unfold powD powM; split; exact genD_mat; exact .nil
theorem powR_mat (m : List (List Int)) (k : Int) : Mat (powR m k) (powM m k) := by unfold powR powM; split; exact genS_mat; exact .nil
theorem small_mat {m : List (List Int)} (h : validB 1000 m = true) {k : Int} (h0 : 0 ≤ k) (hk : k ≤ 1000) : GoodM 1000 (mf m) ∧ (k.toNat : Int) * 1000 ≤ 1000000000000 ∧ k.toNat ≤ 1000000 := ⟨(valid_of h).2.2.2.1, by omega, by omega⟩
theorem few_sq2 (m m2 : List (List Int)) : sq2 (fewM m) (fewM m2) = sq2 m m2 := by
  unfold sq2
  rw [few_validB, few_validB]
  cases h1 : validB 1000000 m with
  | false => rfl
  | true => cases h2 : validB 1000000 m2 with
    | false => rfl
    | true => rw [few_valid h1, few_valid h2]
theorem few_mulM (m m2 : List (List Int)) : mulM (fewM m) (fewM m2) = mulM m m2 ∧ mulE (fewM m) (fewM m2) = mulE m m2 := by
  unfold mulM mulE
  rw [few_sq2]
  cases h : sq2 m m2 with
  | false => exact ⟨rfl, rfl⟩
  | true =>
    have h' := h
    unfold sq2 at h'
    simp only [Bool.and_eq_true] at h'
    rw [few_valid h'.1.1, few_valid h'.1.2]; exact ⟨rfl, rfl⟩
theorem few_powM (m : List (List Int)) (k : Int) : powM (fewM m) k = powM m k ∧ powE (fewM m) k = powE m k := by
  unfold powM powE okP
  rw [few_validB]
  cases h : validB 1000 m with
  | false => exact ⟨rfl, rfl⟩
  | true => rw [few_valid h]; exact ⟨rfl, rfl⟩
theorem few_len (m : List (List Int)) : (fewM m).length ≤ 9223372036854775807 ∧ ∀ r ∈ fewM m, r.length ≤ 9223372036854775807 := by
  refine ⟨by simp [fewM]; omega, fun r hr => ?_⟩
  obtain ⟨x, _, rfl⟩ := List.mem_map.1 hr
  simp; omega
theorem genM_lens {n : Nat} (hn : n ≤ 1000) (f : Nat → Nat → Int) : (genM n n f).length ≤ 9223372036854775807 ∧ ∀ r ∈ genM n n f, r.length ≤ 9223372036854775807 := by
  refine ⟨by rw [genM_len]; omega, fun r hr => ?_⟩
  obtain ⟨x, _, rfl⟩ := List.mem_map.1 hr
  simp; omega
theorem mulM_len (m m2 : List (List Int)) : (mulM m m2).length ≤ 9223372036854775807 ∧ ∀ r ∈ mulM m m2, r.length ≤ 9223372036854775807 := by
  unfold mulM
  split
  · rename_i h
    unfold sq2 at h
    simp only [Bool.and_eq_true] at h
    exact genM_lens (by have := (valid_of h.1.1).2.1; omega) _
  · exact ⟨by simp, fun r hr => by cases hr⟩
theorem powM_len (m : List (List Int)) (k : Int) : (powM m k).length ≤ 9223372036854775807 ∧ ∀ r ∈ powM m k, r.length ≤ 9223372036854775807 := by
  unfold powM
  split
  · rename_i h
    unfold okP at h
    simp only [Bool.and_eq_true] at h
    exact genM_lens (by have := (valid_of h.1).2.1; omega) _
  · exact ⟨by simp, fun r hr => by cases hr⟩
set_option maxRecDepth 10000 in
theorem mul18 {d e : DV} {m m2 : List (List Int)} (hd : Mat d m) (hl : m.length ≤ 9223372036854775807) (hr : ∀ r ∈ m, r.length ≤ 9223372036854775807) (he : Mat e m2) (hl2 : m2.length ≤ 9223372036854775807) (hr2 : ∀ r ∈ m2, r.length ≤ 9223372036854775807) : DeepCall Try.prog 18 [d, e] (.tup [mulD m m2, DI (mulE m m2)]) := by
  refine deepCall_K 5 Try.func18 rfl (Nat.le_of_ble_eq_true rfl) fun M W0 => ?_
  refine KC.seq ?_
  refine KC.region ?_
  refine KT.step rfl rfl (K.assign rfl) ?_
  refine KT.step rfl rfl (K.assign rfl) ?_
  refine KT.nil ?_
  refine thenK_n ?_
  refine KC.seq ?_
  refine KC.seq ?_
  refine KC.region ?_
  refine KT.step rfl rfl (K.move rfl) ?_
  refine KT.step rfl rfl (K.call2 rfl rfl plainTry_47 (valid47 hd hl hr (L := 1000000) (by omega))) ?_
  refine KT.step rfl rfl (K.not rfl) ?_
  refine KT.step rfl rfl (K.move rfl) ?_
  refine KT.bcase (fun hb9 => ?_) (fun hb9 => ?_)
  · skip
    rw [Bool.not_eq_true'] at hb9
    refine KT.skip rfl rfl ?_
    refine KT.skip rfl rfl ?_
    refine KT.skip rfl rfl ?_
    refine KT.step rfl rfl (K.pick rfl (fun _ => rfl) (fun h => by cases h)) ?_
    refine KT.step rfl rfl (K.move rfl) ?_
    refine KT.skip rfl rfl ?_
    refine KT.skip rfl rfl ?_
    refine KT.skip rfl rfl ?_
    refine KT.skip rfl rfl ?_
    refine KT.skip rfl rfl ?_
    refine KT.step rfl rfl (K.pick rfl (fun _ => rfl) (fun h => by cases h)) ?_
    refine KT.nil ?_
    refine thenK_n ?_
    refine KC.cond rfl (fun hc20 => ?_) (fun hc20 => ?_)
    · skip
      refine KC.seq ?_
      refine KC.region ?_
      refine KT.step rfl rfl (K.assign rfl) ?_
      refine KT.step rfl rfl (K.assign rfl) ?_
      refine KT.nil ?_
      refine thenK_n ?_
      refine KC.ret ?_
      refine thenK_r ?_
      refine ⟨.inl rfl, _, rfl, ?_⟩
      unfold mulD mulE
      have hno : ¬ sq2 m m2 = true := by unfold sq2; rw [hb9]; simp
      rw [if_neg hno, if_neg hno]; rfl
    · cases hc20
  · skip
    rw [Bool.not_eq_false'] at hb9
    refine KT.step rfl rfl (K.move rfl) ?_
    refine KT.step rfl rfl (K.call2 rfl rfl plainTry_47 (valid47 he hl2 hr2 (L := 1000000) (by omega))) ?_
    refine KT.step rfl rfl (K.not rfl) ?_
    refine KT.step rfl rfl (K.pick rfl (fun h => by cases h) (fun _ => rfl)) ?_
    refine KT.step rfl rfl (K.move rfl) ?_
    refine KT.bcase (fun hb14 => ?_) (fun hb14 => ?_)
    · skip
      rw [Bool.not_eq_true'] at hb14
      refine KT.skip rfl rfl ?_
      refine KT.skip rfl rfl ?_
      refine KT.skip rfl rfl ?_
      refine KT.skip rfl rfl ?_
      refine KT.skip rfl rfl ?_
      refine KT.step rfl rfl (K.pick rfl (fun _ => rfl) (fun h => by cases h)) ?_
      refine KT.nil ?_
      refine thenK_n ?_
      refine KC.cond rfl (fun hc20 => ?_) (fun hc20 => ?_)
      · skip
        refine KC.seq ?_
        refine KC.region ?_
        refine KT.step rfl rfl (K.assign rfl) ?_
        refine KT.step rfl rfl (K.assign rfl) ?_
        refine KT.nil ?_
        refine thenK_n ?_
        refine KC.ret ?_
        refine thenK_r ?_
        refine ⟨.inl rfl, _, rfl, ?_⟩
        unfold mulD mulE
        have hno : ¬ sq2 m m2 = true := by unfold sq2; rw [hb14]; simp
        rw [if_neg hno, if_neg hno]; rfl
      · cases hc20
    · skip
      rw [Bool.not_eq_false'] at hb14
      refine KT.step rfl rfl (K.move rfl) ?_
      refine KT.step rfl rfl (K.len rfl hd Try.underlying22) ?_
      refine KT.step rfl rfl (K.move rfl) ?_
      refine KT.step rfl rfl (K.len rfl he Try.underlying22) ?_
      refine KT.step rfl rfl (K.neq rfl rfl) ?_
      refine KT.step rfl rfl (K.pick rfl (fun h => by cases h) (fun _ => rfl)) ?_
      refine KT.nil ?_
      refine thenK_n ?_
      refine KC.cond rfl (fun hc20 => ?_) (fun hc20 => ?_)
      · skip
        replace hc20 := of_decide_eq_true hc20
        have hne : ¬ m.length = m2.length := by omega
        refine KC.seq ?_
        refine KC.region ?_
        refine KT.step rfl rfl (K.assign rfl) ?_
        refine KT.step rfl rfl (K.assign rfl) ?_
        refine KT.nil ?_
        refine thenK_n ?_
        refine KC.ret ?_
        refine thenK_r ?_
        refine ⟨.inl rfl, _, rfl, ?_⟩
        unfold mulD mulE
        have hno : ¬ sq2 m m2 = true := by unfold sq2; rw [decide_eq_false hne]; simp
        rw [if_neg hno, if_neg hno]; rfl
      · skip
        replace hc20 := of_decide_eq_false hc20
        have hln : m2.length = m.length := by omega
        have hok : sq2 m m2 = true := by unfold sq2; rw [hb9, hb14, decide_eq_true hln.symm]; rfl
        obtain ⟨p1, p2, p3, p4, p5⟩ := valid_of hb9
        obtain ⟨q1, q2, q3, q4, q5⟩ := valid_of hb14
        have hd' : Mat d (genM m.length m.length (mf m)) := p3 ▸ hd
        have he' : Mat e (genM m.length m.length (mf m2)) := by rw [hln] at q3; exact q3 ▸ he
        refine KC.skip ?_
        refine thenK_n ?_
        refine KC.seq ?_
        refine KC.region ?_
        refine KT.step rfl rfl (K.move rfl) ?_
        refine KT.step rfl rfl (K.move rfl) ?_
        refine KT.step rfl rfl (K.call2 rfl rfl plainTry_48 (product48 hd' he' p1 (by omega) (fun i j => (p4 i j).mono (by omega)) (fun i j => (q4 i j).mono (by omega)))) ?_
        refine KT.step rfl rfl (K.assign rfl) ?_
        refine KT.step rfl rfl (K.assign rfl) ?_
        refine KT.nil ?_
        refine thenK_n ?_
        refine KC.ret ?_
        refine ⟨.inl rfl, _, rfl, ?_⟩
        unfold mulD mulE
        rw [if_pos hok, if_pos hok]; rfl
set_option maxRecDepth 10000 in
theorem rmul20 {d e : DV} {m m2 : List (List Int)} (hd : Mat d m) (hl : m.length ≤ 9223372036854775807) (hr : ∀ r ∈ m, r.length ≤ 9223372036854775807) (he : Mat e m2) (hl2 : m2.length ≤ 9223372036854775807) (hr2 : ∀ r ∈ m2, r.length ≤ 9223372036854775807) : DeepCall Try.prog 20 [d, e] (.tup [mulR m m2, DI (mulE m m2)]) := by
  refine deepCall_K 5 Try.func20 rfl (Nat.le_of_ble_eq_true rfl) fun M W0 => ?_
  refine KC.seq ?_
  refine KC.region ?_
  refine KT.step rfl rfl (K.assign rfl) ?_
  refine KT.step rfl rfl (K.assign rfl) ?_
  refine KT.nil ?_
  refine thenK_n ?_
  refine KC.seq ?_
  refine KC.seq ?_
  refine KC.region ?_
  refine KT.step rfl rfl (K.move rfl) ?_
  refine KT.step rfl rfl (K.call2 rfl rfl plainTry_50 (matrix50 hd hl hr (L := 1000000) (by omega))) ?_
  refine KT.step rfl rfl (K.not rfl) ?_
  refine KT.step rfl rfl (K.move rfl) ?_
  refine KT.bcase (fun hb9 => ?_) (fun hb9 => ?_)
  · skip
    rw [Bool.not_eq_true'] at hb9
    refine KT.skip rfl rfl ?_
    refine KT.skip rfl rfl ?_
    refine KT.skip rfl rfl ?_
    refine KT.step rfl rfl (K.pick rfl (fun _ => rfl) (fun h => by cases h)) ?_
    refine KT.step rfl rfl (K.move rfl) ?_
    refine KT.skip rfl rfl ?_
    refine KT.skip rfl rfl ?_
    refine KT.skip rfl rfl ?_
    refine KT.skip rfl rfl ?_
    refine KT.skip rfl rfl ?_
    refine KT.step rfl rfl (K.pick rfl (fun _ => rfl) (fun h => by cases h)) ?_
    refine KT.nil ?_
    refine thenK_n ?_
    refine KC.cond rfl (fun hc20 => ?_) (fun hc20 => ?_)
    · skip
      refine KC.seq ?_
      refine KC.region ?_
      refine KT.step rfl rfl (K.assign rfl) ?_
      refine KT.step rfl rfl (K.assign rfl) ?_
      refine KT.nil ?_
      refine thenK_n ?_
      refine KC.ret ?_
      refine thenK_r ?_
      refine ⟨.inl rfl, _, rfl, ?_⟩
      unfold mulR mulE
      have hno : ¬ sq2 m m2 = true := by unfold sq2; rw [hb9]; simp
      rw [if_neg hno, if_neg hno]; rfl
    · cases hc20
  · skip
    rw [Bool.not_eq_false'] at hb9
    refine KT.step rfl rfl (K.move rfl) ?_
    refine KT.step rfl rfl (K.call2 rfl rfl plainTry_50 (matrix50 he hl2 hr2 (L := 1000000) (by omega))) ?_
    refine KT.step rfl rfl (K.not rfl) ?_
    refine KT.step rfl rfl (K.pick rfl (fun h => by cases h) (fun _ => rfl)) ?_
    refine KT.step rfl rfl (K.move rfl) ?_
    refine KT.bcase (fun hb14 => ?_) (fun hb14 => ?_)
    · skip
      rw [Bool.not_eq_true'] at hb14
      refine KT.skip rfl rfl ?_
      refine KT.skip rfl rfl ?_
      refine KT.skip rfl rfl ?_
      refine KT.skip rfl rfl ?_
      refine KT.skip rfl rfl ?_
      refine KT.step rfl rfl (K.pick rfl (fun _ => rfl) (fun h => by cases h)) ?_
      refine KT.nil ?_
      refine thenK_n ?_
      refine KC.cond rfl (fun hc20 => ?_) (fun hc20 => ?_)
      · skip
        refine KC.seq ?_
        refine KC.region ?_
        refine KT.step rfl rfl (K.assign rfl) ?_
        refine KT.step rfl rfl (K.assign rfl) ?_
        refine KT.nil ?_
        refine thenK_n ?_
        refine KC.ret ?_
        refine thenK_r ?_
        refine ⟨.inl rfl, _, rfl, ?_⟩
        unfold mulR mulE
        have hno : ¬ sq2 m m2 = true := by unfold sq2; rw [hb14]; simp
        rw [if_neg hno, if_neg hno]; rfl
      · cases hc20
    · skip
      rw [Bool.not_eq_false'] at hb14
      refine KT.step rfl rfl (K.move rfl) ?_
      refine KT.step rfl rfl (K.len rfl hd Try.underlying22) ?_
      refine KT.step rfl rfl (K.move rfl) ?_
      refine KT.step rfl rfl (K.len rfl he Try.underlying22) ?_
      refine KT.step rfl rfl (K.neq rfl rfl) ?_
      refine KT.step rfl rfl (K.pick rfl (fun h => by cases h) (fun _ => rfl)) ?_
      refine KT.nil ?_
      refine thenK_n ?_
      refine KC.cond rfl (fun hc20 => ?_) (fun hc20 => ?_)
      · skip
        replace hc20 := of_decide_eq_true hc20
        have hne : ¬ m.length = m2.length := by omega
        refine KC.seq ?_
        refine KC.region ?_
        refine KT.step rfl rfl (K.assign rfl) ?_
        refine KT.step rfl rfl (K.assign rfl) ?_
        refine KT.nil ?_
        refine thenK_n ?_
        refine KC.ret ?_
        refine thenK_r ?_
        refine ⟨.inl rfl, _, rfl, ?_⟩
        unfold mulR mulE
        have hno : ¬ sq2 m m2 = true := by unfold sq2; rw [decide_eq_false hne]; simp
        rw [if_neg hno, if_neg hno]; rfl
      · skip
        replace hc20 := of_decide_eq_false hc20
        have hln : m2.length = m.length := by omega
        have hok : sq2 m m2 = true := by unfold sq2; rw [hb9, hb14, decide_eq_true hln.symm]; rfl
        obtain ⟨p1, p2, p3, p4, p5⟩ := valid_of hb9
        obtain ⟨q1, q2, q3, q4, q5⟩ := valid_of hb14
        have hd' : Mat d (genM m.length m.length (mf m)) := p3 ▸ hd
        have he' : Mat e (genM m.length m.length (mf m2)) := by rw [hln] at q3; exact q3 ▸ he
        refine KC.skip ?_
        refine thenK_n ?_
        refine KC.seq ?_
        refine KC.region ?_
        refine KT.step rfl rfl (K.move rfl) ?_
        refine KT.step rfl rfl (K.move rfl) ?_
        refine KT.step rfl rfl (K.call2 rfl rfl plainTry_51 (rprod51 hd' he' p1 (by omega) (fun i j => (p4 i j).mono (by omega)) (fun i j => (q4 i j).mono (by omega)))) ?_
        refine KT.step rfl rfl (K.assign rfl) ?_
        refine KT.step rfl rfl (K.assign rfl) ?_
        refine KT.nil ?_
        refine thenK_n ?_
        refine KC.ret ?_
        refine ⟨.inl rfl, _, rfl, ?_⟩
        unfold mulR mulE
        rw [if_pos hok, if_pos hok]; rfl
set_option maxRecDepth 10000 in
theorem pow21 {d : DV} {m : List (List Int)} {k : Int} (hd : Mat d m) (hl : m.length ≤ 9223372036854775807) (hr : ∀ r ∈ m, r.length ≤ 9223372036854775807) : DeepCall Try.prog 21 [d, DI k] (.tup [powD m k, DI (powE m k)]) := by
  refine deepCall_K 5 Try.func21 rfl (Nat.le_of_ble_eq_true rfl) fun M W0 => ?_
  refine KC.seq ?_
  refine KC.region ?_
  refine KT.step rfl rfl (K.assign rfl) ?_
  refine KT.step rfl rfl (K.assign rfl) ?_
  refine KT.nil ?_
  refine thenK_n ?_
  refine KC.seq ?_
  refine KC.seq ?_
  refine KC.region ?_
  refine KT.step rfl rfl (K.move rfl) ?_
  refine KT.step rfl rfl (K.call2 rfl rfl plainTry_47 (valid47 hd hl hr (L := 1000) (by omega))) ?_
  refine KT.step rfl rfl (K.not rfl) ?_
  refine KT.step rfl rfl (K.move rfl) ?_
  refine KT.bcase (fun hb9 => ?_) (fun hb9 => ?_)
  · skip
    rw [Bool.not_eq_true'] at hb9
    refine KT.skip rfl rfl ?_
    refine KT.skip rfl rfl ?_
    refine KT.skip rfl rfl ?_
    refine KT.step rfl rfl (K.pick rfl (fun _ => rfl) (fun h => by cases h)) ?_
    refine KT.nil ?_
    refine thenK_n ?_
    refine KC.cond rfl (fun hc13 => ?_) (fun hc13 => ?_)
    · skip
      refine KC.seq ?_
      refine KC.region ?_
      refine KT.step rfl rfl (K.assign rfl) ?_
      refine KT.step rfl rfl (K.assign rfl) ?_
      refine KT.nil ?_
      refine thenK_n ?_
      refine KC.ret ?_
      refine thenK_r ?_
      refine ⟨.inl rfl, _, rfl, ?_⟩
      unfold powD powE
      have hno : ¬ okP m k = true := by unfold okP; rw [hb9]; simp
      rw [if_neg hno, if_neg hno]; rfl
    · cases hc13
  · skip
    rw [Bool.not_eq_false'] at hb9
    refine KT.step rfl rfl (K.move rfl) ?_
    refine KT.step rfl rfl (K.call3 rfl rfl rfl plainTry_52 (within52 _ _ _)) ?_
    refine KT.step rfl rfl (K.not rfl) ?_
    refine KT.step rfl rfl (K.pick rfl (fun h => by cases h) (fun _ => rfl)) ?_
    refine KT.nil ?_
    refine thenK_n ?_
    refine KC.cond rfl (fun hc13 => ?_) (fun hc13 => ?_)
    · skip
      rw [Bool.not_eq_true'] at hc13
      refine KC.seq ?_
      refine KC.region ?_
      refine KT.step rfl rfl (K.assign rfl) ?_
      refine KT.step rfl rfl (K.assign rfl) ?_
      refine KT.nil ?_
      refine thenK_n ?_
      refine KC.ret ?_
      refine thenK_r ?_
      refine ⟨.inl rfl, _, rfl, ?_⟩
      unfold powD powE
      have hno : ¬ okP m k = true := by unfold okP; rw [hc13]; simp
      rw [if_neg hno, if_neg hno]; rfl
    · skip
      rw [Bool.not_eq_false'] at hc13
      have hk0 : 0 ≤ k := of_decide_eq_true (Bool.and_eq_true_iff.1 hc13).1
      have hk1 : k ≤ 1000 := of_decide_eq_true (Bool.and_eq_true_iff.1 hc13).2
      have hok : okP m k = true := by unfold okP; rw [hb9, hc13]; rfl
      obtain ⟨p1, p2, p3, p4, p5⟩ := valid_of hb9
      have hd' : Mat d (genM m.length m.length (mf m)) := p3 ▸ hd
      have hkN : k = (k.toNat : Int) := by omega
      obtain ⟨s1, s2, s3⟩ := small_mat hb9 hk0 hk1
      refine KC.skip ?_
      refine thenK_n ?_
      refine KC.seq ?_
      refine KC.region ?_
      refine KT.step rfl rfl (K.move rfl) ?_
      refine KT.step rfl rfl (K.move rfl) ?_
      refine KT.step rfl rfl (K.call2 rfl rfl plainTry_53 ((show DeepCall Try.prog 53 [d, DI k] (genD m.length m.length (pwI m.length (mf m) k.toNat)) from by have := power53 hd' p1 (by omega) s1 (by omega) p5 k.toNat s3 s2 (by omega); rwa [← hkN] at this))) ?_
      refine KT.step rfl rfl (K.assign rfl) ?_
      refine KT.step rfl rfl (K.assign rfl) ?_
      refine KT.nil ?_
      refine thenK_n ?_
      refine KC.ret ?_
      refine ⟨.inl rfl, _, rfl, ?_⟩
      unfold powD powE
      rw [if_pos hok, if_pos hok]; rfl
set_option maxRecDepth 10000 in
theorem rpw22 {d : DV} {m : List (List Int)} {k : Int} (hd : Mat d m) (hl : m.length ≤ 9223372036854775807) (hr : ∀ r ∈ m, r.length ≤ 9223372036854775807) : DeepCall Try.prog 22 [d, DI k] (.tup [powR m k, DI (powE m k)]) := by
  refine deepCall_K 5 Try.func22 rfl (Nat.le_of_ble_eq_true rfl) fun M W0 => ?_
  refine KC.seq ?_
  refine KC.region ?_
  refine KT.step rfl rfl (K.assign rfl) ?_
  refine KT.step rfl rfl (K.assign rfl) ?_
  refine KT.nil ?_
  refine thenK_n ?_
  refine KC.seq ?_
  refine KC.seq ?_
  refine KC.region ?_
  refine KT.step rfl rfl (K.move rfl) ?_
  refine KT.step rfl rfl (K.call1 rfl plainTry_38 (small38 hd hl hr)) ?_
  refine KT.step rfl rfl (K.not rfl) ?_
  refine KT.step rfl rfl (K.move rfl) ?_
  refine KT.bcase (fun hb9 => ?_) (fun hb9 => ?_)
  · skip
    rw [Bool.not_eq_true'] at hb9
    refine KT.skip rfl rfl ?_
    refine KT.skip rfl rfl ?_
    refine KT.step rfl rfl (K.pick rfl (fun _ => rfl) (fun h => by cases h)) ?_
    refine KT.step rfl rfl (K.move rfl) ?_
    refine KT.skip rfl rfl ?_
    refine KT.skip rfl rfl ?_
    refine KT.step rfl rfl (K.pick rfl (fun _ => rfl) (fun h => by cases h)) ?_
    refine KT.nil ?_
    refine thenK_n ?_
    refine KC.cond rfl (fun hc16 => ?_) (fun hc16 => ?_)
    · skip
      refine KC.seq ?_
      refine KC.region ?_
      refine KT.step rfl rfl (K.assign rfl) ?_
      refine KT.step rfl rfl (K.assign rfl) ?_
      refine KT.nil ?_
      refine thenK_n ?_
      refine KC.ret ?_
      refine thenK_r ?_
      refine ⟨.inl rfl, _, rfl, ?_⟩
      unfold powR powE
      have hno : ¬ okP m k = true := by unfold okP; rw [hb9]; simp
      rw [if_neg hno, if_neg hno]; rfl
    · cases hc16
  · skip
    rw [Bool.not_eq_false'] at hb9
    refine KT.step rfl rfl (K.move rfl) ?_
    refine KT.step rfl rfl (K.lss rfl rfl) ?_
    refine KT.step rfl rfl (K.pick rfl (fun h => by cases h) (fun _ => rfl)) ?_
    refine KT.step rfl rfl (K.move rfl) ?_
    refine KT.bcase (fun hb13 => ?_) (fun hb13 => ?_)
    · skip
      replace hb13 := of_decide_eq_true hb13
      refine KT.skip rfl rfl ?_
      refine KT.skip rfl rfl ?_
      refine KT.step rfl rfl (K.pick rfl (fun _ => rfl) (fun h => by cases h)) ?_
      refine KT.nil ?_
      refine thenK_n ?_
      refine KC.cond rfl (fun hc16 => ?_) (fun hc16 => ?_)
      · skip
        refine KC.seq ?_
        refine KC.region ?_
        refine KT.step rfl rfl (K.assign rfl) ?_
        refine KT.step rfl rfl (K.assign rfl) ?_
        refine KT.nil ?_
        refine thenK_n ?_
        refine KC.ret ?_
        refine thenK_r ?_
        refine ⟨.inl rfl, _, rfl, ?_⟩
        unfold powR powE
        have hno : ¬ okP m k = true := by unfold okP; rw [decide_eq_false (show ¬ 0 ≤ k by omega)]; simp
        rw [if_neg hno, if_neg hno]; rfl
      · cases hc16
    · skip
      replace hb13 := of_decide_eq_false hb13
      refine KT.step rfl rfl (K.move rfl) ?_
      refine KT.step rfl rfl (K.gtr rfl rfl) ?_
      refine KT.step rfl rfl (K.pick rfl (fun h => by cases h) (fun _ => rfl)) ?_
      refine KT.nil ?_
      refine thenK_n ?_
      refine KC.cond rfl (fun hc16 => ?_) (fun hc16 => ?_)
      · skip
        replace hc16 := of_decide_eq_true hc16
        refine KC.seq ?_
        refine KC.region ?_
        refine KT.step rfl rfl (K.assign rfl) ?_
        refine KT.step rfl rfl (K.assign rfl) ?_
        refine KT.nil ?_
        refine thenK_n ?_
        refine KC.ret ?_
        refine thenK_r ?_
        refine ⟨.inl rfl, _, rfl, ?_⟩
        unfold powR powE
        have hno : ¬ okP m k = true := by unfold okP; rw [decide_eq_false (show ¬ k ≤ 1000 by omega)]; simp
        rw [if_neg hno, if_neg hno]; rfl
      · skip
        replace hc16 := of_decide_eq_false hc16
        have hk0 : 0 ≤ k := by omega
        have hk1 : k ≤ 1000 := by omega
        have hok : okP m k = true := by unfold okP; rw [hb9, decide_eq_true hk0, decide_eq_true hk1]; rfl
        obtain ⟨p1, p2, p3, p4, p5⟩ := valid_of hb9
        have hd' : Mat d (genM m.length m.length (mf m)) := p3 ▸ hd
        have hkN : k = (k.toNat : Int) := by omega
        obtain ⟨s1, s2, s3⟩ := small_mat hb9 hk0 hk1
        refine KC.skip ?_
        refine thenK_n ?_
        refine KC.seq ?_
        refine KC.region ?_
        refine KT.step rfl rfl (K.move rfl) ?_
        refine KT.step rfl rfl (K.move rfl) ?_
        refine KT.step rfl rfl (K.call2 rfl rfl plainTry_54 ((show DeepCall Try.prog 54 [d, DI k] (genS m.length (pwI m.length (mf m) k.toNat) m.length) from by have := rpow54 (k := k.toNat) hd' p1 (by omega) s1 (by omega) (by omega) s3 s2; rwa [← hkN] at this))) ?_
        refine KT.step rfl rfl (K.assign rfl) ?_
        refine KT.step rfl rfl (K.assign rfl) ?_
        refine KT.nil ?_
        refine thenK_n ?_
        refine KC.ret ?_
        refine ⟨.inl rfl, _, rfl, ?_⟩
        unfold powR powE
        rw [if_pos hok, if_pos hok]; rfl
end Go.Proofs.Ythbnnffmhnjpjaa

