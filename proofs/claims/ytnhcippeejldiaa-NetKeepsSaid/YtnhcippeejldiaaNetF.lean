/-
  The law NetFires: Valid and Fire of the program return what the reference says.
-/
import Derived.Test.YtnhcippeejldiaaNetE
import Derived.Test.YtnhcippeejldiaaVmJ
namespace Go.Proofs.Ytnhcippeejldiaa
open Go.Vm
/-- The copy of a matrix. -/
def cp (m : List (List Int)) : List (List Int) := (m.take 8).map (List.take 8)
theorem cp_same {m : List (List Int)} {n : Nat} (hm : m.length ≤ 8) (hr : ∀ r ∈ m, r.length ≤ 8) : cp m = m := by
  unfold cp
  rw [List.take_of_length_le hm]
  conv => rhs; rw [← List.map_id m]
  refine List.map_congr_left fun r hr' => ?_
  simpa using List.take_of_length_le (hr r hr')
theorem cp_row {m : List (List Int)} (hm : m.length ≤ 8) {r : List Int} (hr : r ∈ m) : r.take 8 ∈ cp m := by
  unfold cp
  rw [List.take_of_length_le hm]
  exact List.mem_map_of_mem hr
theorem take_len {l : List Int} {n : Nat} (h : (l.take 8).length = n) (hn : n ≤ 6) : l.length = n := by simp at h; omega
theorem cp_len {m : List (List Int)} : (cp m).length = min 8 m.length := by simp [cp]
theorem cp_back {m : List (List Int)} {n : Nat} {most : Int} (hn : n ≤ 6) (hm : m.length ≤ 8) (h : allB (cp m) n most = true) : cp m = m := by
  refine cp_same (n := n) hm fun r hr => ?_
  have := take_len (fitsB_len (allB_mem h _ (cp_row hm hr))) hn
  omega
theorem valid_cp {pre post : List (List Int)} {start : List Int} (h : validB pre post start = true ∨ validB (cp pre) (cp post) (start.take 8) = true) : cp pre = pre ∧ cp post = post ∧ start.take 8 = start := by
  rcases h with h | h
  · obtain ⟨v1, v2, v3, v4, v5, v6, v7, v8⟩ := validB_iff.1 h
    exact ⟨cp_same (n := 0) (by omega) fun r hr => by rw [fitsB_len (allB_mem v7 r hr)]; omega, cp_same (n := 0) (by omega) fun r hr => by rw [fitsB_len (allB_mem v8 r hr)]; omega, List.take_of_length_le (by omega)⟩
  · obtain ⟨v1, v2, v3, v4, v5, v6, v7, v8⟩ := validB_iff.1 h
    have hs : start.length ≤ 6 := by simp at v2; omega
    rw [cp_len] at v4 v5 v6
    rw [cp_len] at v6
    rw [List.take_of_length_le (show start.length ≤ 8 by omega)] at v7 v8
    exact ⟨cp_back hs (by omega) v7, cp_back hs (by omega) v8, List.take_of_length_le (by omega)⟩
theorem validB_cp (pre post : List (List Int)) (start : List Int) : validB (cp pre) (cp post) (start.take 8) = validB pre post start := by
  by_cases h : validB pre post start = true ∨ validB (cp pre) (cp post) (start.take 8) = true
  · obtain ⟨e1, e2, e3⟩ := valid_cp h
    rw [e1, e2, e3]
  · have h1 : validB pre post start = false := by simpa using fun e => h (.inl e)
    have h2 : validB (cp pre) (cp post) (start.take 8) = false := by simpa using fun e => h (.inr e)
    rw [h1, h2]
theorem fireD_cp (pre post : List (List Int)) (start m : List Int) (t : Int) : fireD (cp pre) (cp post) (start.take 8) (m.take 8) t = fireD pre post start m t := by
  by_cases h : validB pre post start = true
  · obtain ⟨e1, e2, e3⟩ := valid_cp (.inl h)
    rw [e1, e2, e3]
    obtain ⟨v1, v2, v3, v4, v5, v6, v7, v8⟩ := validB_iff.1 h
    by_cases hm : m.length ≤ 8
    · rw [List.take_of_length_le hm]
    · rw [fireD_bad (m := m) (by unfold okFire; rw [mark_len (l := m) (by omega)]; simp), fireD_bad (m := m.take 8) (by unfold okFire; rw [mark_len (l := m.take 8) (by simp; omega)]; simp)]
  · have h2 := h
    rw [← validB_cp] at h2
    rw [fireD_bad (fun e => by simp only [okFire, Bool.and_eq_true] at e; exact h2 e.1.1.1), fireD_bad (fun e => by simp only [okFire, Bool.and_eq_true] at e; exact h e.1.1.1)]
theorem NetD.cp {a b c : DV} {pre post : List (List Int)} {start : List Int} (h : NetD a b c pre post start) : NetD (rows8 pre a) (rows8 post b) (list8 start c) (cp pre) (cp post) (start.take 8) := by
  have hr : ∀ (m : List (List Int)), ∀ r ∈ Go.Proofs.Ytnhcippeejldiaa.cp m, r.length ≤ 9223372036854775807 := fun m r hr => by
    unfold Go.Proofs.Ytnhcippeejldiaa.cp at hr
    obtain ⟨q, _, rfl⟩ := List.mem_map.1 hr
    simp; omega
  exact ⟨rows8_mat h.ha, rows8_mat h.hb, list8_ints h.hc, by rw [cp_len]; omega, by rw [cp_len]; omega, by simp; omega, hr pre, hr post⟩
theorem fireD_is (pre post : List (List Int)) (start m : List Int) (t : Int) : ∃ (s : DV) (l : List Int) (e : Int), fireD pre post start m t = .tup [s, DI e] ∧ Ints s l ∧ l.length ≤ 9223372036854775807 := by
  unfold fireD
  split
  · rename_i h
    split
    · simp only [okFire, Bool.and_eq_true] at h
      obtain ⟨v1, v2, _⟩ := validB_iff.1 h.1.1.1
      exact ⟨_, _, _, rfl, numD_ints _ (by omega), by simp; omega⟩
    · exact ⟨_, [], _, rfl, .nil, by simp⟩
  · exact ⟨_, [], _, rfl, .nil, by simp⟩
theorem awake22 : DeepCall Try.prog 22 [] (DB true) := runFn_sound (inl := fun f => f == 9999) (len := 3000) (k := 60) (f := 22) Try.mixed (by kernel_rfl)
set_option maxRecDepth 10000 in
theorem law3 {a b c d : DV} {pre post : List (List Int)} {start m : List Int} {t : Int} (h : NetD a b c pre post start) (hd : Ints d m) (hl : m.length ≤ 9223372036854775807) : DeepCall Try.prog 3 [.agg [a, b, c], d, DI t] (DB true) := by
  have c1 := fire15 h.cp (list8_ints hd) (t := t) (by simp; omega)
  rw [fireD_cp] at c1
  have c2 := rFire18 h hd hl (t := t)
  obtain ⟨s, l, e, hf, hs, hll⟩ := fireD_is pre post start m t
  rw [hf] at c1 c2
  have c3 := valid19 h.cp
  rw [validB_cp] at c3
  refine deepCall_K 5 Try.func3 rfl (Nat.le_of_ble_eq_true rfl) fun M W0 => ?_
  refine KC.seq ?_
  refine KC.region ?_
  refine KT.step rfl rfl (K.box rfl) ?_
  refine KT.step rfl rfl (K.assign rfl) ?_
  refine KT.nil ?_
  refine thenK_n ?_
  refine KC.seq ?_
  refine KC.region ?_
  refine KT.step rfl rfl (K.loadOAgg (m := 3) rfl rfl (by simp) Try.agg25 Try.size25 (by simp [cellsX])) ?_
  refine KT.step rfl rfl (K.call1 rfl plainTry_16 (of16 h)) ?_
  refine KT.step rfl rfl (K.move rfl) ?_
  refine KT.step rfl rfl (K.call1 rfl plainTry_17 (list17 hd)) ?_
  refine KT.step rfl rfl (K.move rfl) ?_
  refine KT.step rfl rfl (K.call3 rfl rfl rfl plainTry_15 (c1)) ?_
  refine KT.step rfl rfl (K.move rfl) ?_
  refine KT.step rfl rfl (K.extract rfl rfl) ?_
  refine KT.step rfl rfl (K.extract rfl rfl) ?_
  refine KT.step rfl rfl (K.assign rfl) ?_
  refine KT.step rfl rfl (K.assign rfl) ?_
  refine KT.nil ?_
  refine thenK_n ?_
  refine KC.seq ?_
  refine KC.region ?_
  refine KT.step rfl rfl (K.loadOAgg (m := 3) rfl rfl (by simp) Try.agg25 Try.size25 (by simp [cellsX])) ?_
  refine KT.step rfl rfl (K.move rfl) ?_
  refine KT.step rfl rfl (K.move rfl) ?_
  refine KT.step rfl rfl (K.call3 rfl rfl rfl plainTry_18 (c2)) ?_
  refine KT.step rfl rfl (K.move rfl) ?_
  refine KT.step rfl rfl (K.extract rfl rfl) ?_
  refine KT.step rfl rfl (K.extract rfl rfl) ?_
  refine KT.step rfl rfl (K.assign rfl) ?_
  refine KT.step rfl rfl (K.assign rfl) ?_
  refine KT.nil ?_
  refine thenK_n ?_
  refine KC.seq ?_
  refine KC.draw Try.mixed ?_
  refine KT.step rfl rfl (K.loadOAgg (m := 3) rfl rfl (by simp) Try.agg25 Try.size25 (by simp [cellsX])) ?_
  refine KT.step rfl rfl (K.call1 rfl plainTry_16 (of16 h)) ?_
  refine KT.step rfl rfl (K.call1 rfl plainTry_19 (c3)) ?_
  refine KT.step rfl rfl (K.loadOAgg (m := 3) rfl rfl (by simp) Try.agg25 Try.size25 (by simp [cellsX])) ?_
  refine KT.step rfl rfl (K.call1 rfl plainTry_20 (rvalid20 h)) ?_
  refine KT.step rfl rfl (K.eqB Try.underlying4 rfl rfl) ?_
  refine KT.step rfl rfl (K.move rfl) ?_
  refine KT.bcase (fun hb33 => ?_) (fun hb33 => ?_)
  · skip
    refine KT.step rfl rfl (K.move rfl) ?_
    refine KT.step rfl rfl (K.move rfl) ?_
    refine KT.step rfl rfl (K.call2 rfl rfl plainTry_21 (equal21 hs hs hll)) ?_
    refine KT.step rfl rfl (K.pick rfl (fun _ => rfl) (fun h => by cases h)) ?_
    refine KT.step rfl rfl (K.move rfl) ?_
    refine KT.bcase (fun hb38 => ?_) (fun hb38 => ?_)
    · skip
      refine KT.step rfl rfl (K.move rfl) ?_
      refine KT.step rfl rfl (K.move rfl) ?_
      refine KT.step rfl rfl (K.eql rfl rfl) ?_
      refine KT.step rfl rfl (K.pick rfl (fun _ => rfl) (fun h => by cases h)) ?_
      refine KT.step rfl rfl (K.move rfl) ?_
      refine KT.bcase (fun hb43 => ?_) (fun hb43 => ?_)
      · skip
        refine KT.step rfl rfl (K.call0 plainTry_22 (awake22)) ?_
        refine KT.step rfl rfl (K.pick rfl (fun _ => rfl) (fun h => by cases h)) ?_
        refine KT.step rfl rfl (K.assign rfl) ?_
        refine KT.nil ?_
        refine ⟨by kernel_rfl, ?_⟩
        refine thenK_n ?_
        refine KC.ret ?_
        exact ⟨.inl rfl, _, rfl, fin_d rfl⟩
      · skip
        simp at hb43
    · skip
      simp at hb38
  · skip
    simp at hb33
end Go.Proofs.Ytnhcippeejldiaa
