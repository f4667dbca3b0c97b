import Derived.Test.YthbnnffmhnjpjaaCyU
import Derived.Test.YthbnnffmhnjpjaaCyRh
import Derived.Test.YthbnnffmhnjpjaaCyH
/-
  Times: the first critical cycle, potentials; the law CycleProofs.
-/
namespace Go.Proofs.Ythbnnffmhnjpjaa
open Go.Vm Go.Cy
theorem plainTry_91 : plainFn Try.prog 91 = true := by kernel_rfl
theorem plainTry_58 : plainFn Try.prog 58 = true := by kernel_rfl
theorem plainTry_27 : plainFn Try.prog 27 = true := by kernel_rfl
theorem plainTry_30 : plainFn Try.prog 30 = true := by kernel_rfl
theorem plainTry_7 : plainFn Try.prog 7 = true := by kernel_rfl

theorem ebytes3 : bytesT Try.prog 3 ≤ 65536 := of_decide_eq_true (by kernel_rfl)
theorem ecells3 : (zeroT Try.prog 3).map (·.cells.size) = some 1 := by kernel_rfl
def pwS (n : Nat) (g : Nat → Nat → Int) (K : Nat) : DV := .sl ((List.range K).map fun k => genD n n (pwI n g k)) K none
theorem pwS_vec (n : Nat) (g : Nat → Nat → Int) (K : Nat) : Vec (fun c k => c = genD n n (pwI n g k)) (pwS n g K) (List.range K) := by
  have : Vec (fun c k => c = genD n n (pwI n g k)) (.sl ((List.range K).map fun k => genD n n (pwI n g k)) (List.range K).length none) (List.range K) := .sl (by simp) fun i c x hc hx => by
    rw [List.getElem?_map, hx] at hc
    simp at hc; exact hc.symm
  rw [List.length_range] at this
  exact this
def icD (l : List Nat) : DV := .sl (l.map fun x => DI (x : Nat)) l.length none
theorem icD_ints (l : List Nat) : Ints (icD l) (l.map fun x => ((x : Nat) : Int)) := by
  have : Ints (.sl (l.map fun x => DI (x : Nat)) (l.map fun x => ((x : Nat) : Int)).length none) (l.map fun x => ((x : Nat) : Int)) := .sl (by simp) fun i c x hc hx => by
    rw [List.getElem?_map] at hc hx
    cases h : l[i]? with
    | none => rw [h] at hc; simp at hc
    | some r => rw [h] at hc hx; simp at hc hx; subst hc hx; rfl
  rw [List.length_map] at this
  exact this
abbrev ncells (l : List Nat) : List XV := l.map fun x => .d (DI (x : Nat))
abbrev ncond (n : Nat) (g : Nat → Nat → Int) (first l at_ x : Nat) : Prop := aft (pwI n g 1 at_ x) (pwI n g (l + 1) x first) = pwI n g (l + 2) at_ first
theorem next_yes {n : Nat} {g : Nat → Nat → Int} {first l at_ x : Nat} (hx : x < n) (h : ncond n g first l at_ x) (hb : ∀ z, z < x → ¬ ncond n g first l at_ z) : nextI n g first l at_ = x := by
  unfold nextI
  rw [List.find?_range_eq_some.2 ⟨decide_eq_true h, List.mem_range.2 hx, fun j hj => by rw [decide_eq_false (hb j hj)]; rfl⟩]; rfl
theorem next_no {n : Nat} {g : Nat → Nat → Int} {first l at_ : Nat} (hb : ∀ z, z < n → ¬ ncond n g first l at_ z) : nextI n g first l at_ = at_ := by
  unfold nextI
  rw [List.find?_eq_none.2 fun x hx => by rw [decide_eq_false (hb x (List.mem_range.1 hx))]; simp]; rfl
theorem ow_fin {k : Nat} {σ : List VObj} {y : XV} {l : List Nat} (h : OwnK 1 σ y (ncells l)) (h0 : 0 < l.length) : deepen (freezeAll σ) (k + 2) y = some (icD l) := by
  generalize hc : ncells l = cs at h
  cases h with
  | nil => have := congrArg List.length hc; simp at this; subst this; simp at h0
  | @sl id m cs ho hn =>
    have e : m = l.length := by have := congrArg List.length hc; simp at this; omega
    subst e
    rw [deepen_cells (k := k) (R := l.length) (ds := l.map fun x => DI (x : Nat)) (by simp [freezeAll, ho]; rfl) (by rw [← hc]; simp [Function.comp_def]) (by simp)]
    rfl
set_option maxRecDepth 10000 in
theorem traced91 {n Q first : Nat} {g : Nat → Nat → Int} (B : PGd n g) (hf : first < n) (hK : Q ≤ 12) : DeepCall Try.prog 91 [pwS n g (Q + 2), DI (first : Nat)] (icD (first :: trc n g first Q first)) := by
  have n1 := B.n1
  have n6 := B.n6
  refine deepCall_K 5 Try.func91 rfl (Nat.le_of_ble_eq_true rfl) fun M W0 => ?_
  refine KC.seq ?_
  refine KC.region ?_
  refine KT.step rfl rfl (K.assign rfl) ?_
  refine KT.nil ?_
  refine thenK_n ?_
  refine KC.seq ?_
  refine KC.region ?_
  refine KT.step rfl rfl (K.move rfl) ?_
  refine KT.step rfl rfl (K.build1' (v := .d (DI (first : Nat))) rfl rfl Try.underlying33 Try.one3) ?_
  refine KT.step rfl rfl (K.assign rfl) ?_
  refine KT.nil ?_
  refine thenK_n ?_
  refine KC.seq ?_
  refine KC.ghostX (t := 5) (y := .osl 0 0 1 1 1 false) rfl (fun w ι F v h => osl_loose h) ?_
  refine KC.region ?_
  refine KT.step rfl rfl (K.move rfl) ?_
  refine KT.step rfl rfl (K.assign rfl) ?_
  refine KT.nil ?_
  refine thenK_n ?_
  refine KC.seq ?_
  refine KC.seq ?_
  refine KC.region ?_
  refine KT.step rfl rfl (K.move rfl) ?_
  refine KT.step rfl rfl (K.len rfl (pwS_vec n g (Q + 2)) Try.underlying78) ?_
  rw [List.length_range]
  refine KT.step rfl rfl (K.sub rfl rfl (show IntKind.i64.wrap (((Q + 2 : Nat) : Int) - 2) = ((Q : Nat) : Int) from (wrap_id (by omega)).trans (by omega))) ?_
  refine KT.step rfl rfl (K.assign rfl) ?_
  refine KT.nil ?_
  refine thenK_n ?_
  refine KC.block ?_
  refine KC.loop (fun p : List VObj × XV × Nat × Nat × List Nat => p.1) (fun p => [(0, .d (pwS n g (Q + 2))), (1, .d (DI (first : Nat))), (5, p.2.1), (6, .d (DI (p.2.2.2.1 : Nat))), (7, .d (DI (p.2.2.1 : Nat)))]) (fun p => OwnK 1 p.1 p.2.1 (ncells p.2.2.2.2) ∧ p.2.2.1 ≤ Q ∧ p.2.2.2.1 < n ∧ p.2.2.2.2.length ≤ 100 - p.2.2.1 ∧ p.2.2.2.2 ++ trc n g first p.2.2.1 p.2.2.2.1 = first :: trc n g first Q first) (fun p => p.2.2.1) (_, .osl 0 0 1 1 1 false, Q, first, [first]) ⟨.sl rfl rfl, Nat.le_refl _, hf, by simp; omega, rfl⟩ rfl (by simp [Go.Vm.look, extK, enterK]) ?_
  intro p hp
  obtain ⟨σ0, y, l, at_, acc⟩ := p
  obtain ⟨hy, hl, hat, hacc, hinv⟩ := hp
  simp only at hy hl hat hacc hinv ⊢
  refine KC.seq ?_
  refine KC.seq ?_
  refine KC.region ?_
  refine KT.step rfl rfl (K.move rfl) ?_
  refine KT.step rfl rfl (K.gtr rfl rfl) ?_
  refine KT.nil ?_
  refine thenK_n ?_
  refine KC.cond rfl (fun hc18 => ?_) (fun hc18 => ?_)
  · skip
    replace hc18 := of_decide_eq_true hc18
    obtain ⟨l, rfl⟩ : ∃ l', l = l' + 1 := ⟨l - 1, by omega⟩
    have hinv' : acc ++ nextI n g first l at_ :: trc n g first l (nextI n g first l at_) = first :: trc n g first Q first := hinv
    refine KC.skip ?_
    refine thenK_n ?_
    refine KC.seq ?_
    refine KC.block ?_
    refine KC.seq ?_
    refine KC.region ?_
    refine KT.step rfl rfl (K.move rfl) ?_
    refine KT.step rfl rfl (K.move rfl) ?_
    refine KT.step rfl rfl (K.add rfl rfl (show IntKind.i64.wrap (((l + 1 : Nat) : Int) + 1) = ((l + 2 : Nat) : Int) from (wrap_id (by omega)).trans (by omega))) ?_
    refine KT.idx rfl rfl rfl (pwS_vec n g (Q + 2)) rfl (by simp; omega) Try.underlying78 Try.size22 fun c24 cs24 hq24 => ?_
    rw [List.getElem_range] at hq24
    subst hq24
    refine KT.step rfl rfl (K.load rfl Try.agg22) ?_
    refine KT.step rfl rfl (K.move rfl) ?_
    refine KT.idx rfl rfl rfl (genD_mat (R := n) (N := n) (f := pwI n g (l + 2))) rfl (by rw [genM_len]; omega) Try.underlying22 Try.size33 fun c27 cs27 hq27 => ?_
    rw [genM_row] at hq27
    refine KT.step rfl rfl (K.load rfl Try.agg33) ?_
    refine KT.step rfl rfl (K.move rfl) ?_
    refine KT.idxI rfl rfl rfl (by assumption) rfl (by simp; omega) Try.underlying33 Try.size3 fun cs30 => ?_
    rw [get_range]
    refine KT.step rfl rfl (K.load rfl Try.agg3) ?_
    refine KT.step rfl rfl (K.assign rfl) ?_
    refine KT.nil ?_
    refine thenK_n ?_
    refine KC.seq ?_
    refine KC.seq ?_
    refine KC.region ?_
    refine KT.step rfl rfl (K.move rfl) ?_
    refine KT.idx (m := 1) rfl rfl rfl (pwS_vec n g (Q + 2)) rfl (by simp) Try.underlying78 Try.size22 fun c33 cs33 hq33 => ?_
    rw [List.getElem_range] at hq33
    subst hq33
    refine KT.step rfl rfl (K.load rfl Try.agg22) ?_
    refine KT.step rfl rfl (K.move rfl) ?_
    refine KT.idx rfl rfl rfl (genD_mat (R := n) (N := n) (f := pwI n g (1))) rfl (by rw [genM_len]; omega) Try.underlying22 Try.size33 fun c36 cs36 hq36 => ?_
    rw [genM_row] at hq36
    refine KT.step rfl rfl (K.load rfl Try.agg33) ?_
    refine KT.step rfl rfl (K.len rfl hq36 Try.underlying33) ?_
    rw [List.length_map, List.length_range]
    refine KT.step rfl rfl (K.move rfl) ?_
    refine KT.nil ?_
    refine thenK_n ?_
    refine KC.block ?_
    refine KC.loop (fun _ : Nat => σ0) (fun x => [(0, .d (pwS n g (Q + 2))), (1, .d (DI (first : Nat))), (5, y), (6, .d (DI (at_ : Nat))), (7, .d (DI ((l + 1 : Nat) : Int))), (8, .d (DI (pwI n g (l + 2) at_ first))), (37, .d c36), (38, .d (DI (n : Nat))), (39, .d (DI (x : Nat)))]) (fun x => x ≤ n ∧ ∀ z, z < x → ¬ ncond n g first l at_ z) (fun x => n - x) 0 ⟨Nat.zero_le _, fun z hz => by omega⟩ rfl (by simp [Go.Vm.look, extK, enterK]) ?_
    intro x hx
    obtain ⟨hx, hall⟩ := hx
    refine KC.seq ?_
    refine KC.region ?_
    refine KT.step rfl rfl (K.lss rfl rfl) ?_
    refine KT.nil ?_
    refine thenK_n ?_
    refine KC.seq ?_
    refine KC.cond rfl (fun hc40 => ?_) (fun hc40 => ?_)
    · skip
      replace hc40 := of_decide_eq_true hc40
      refine KC.skip ?_
      refine thenK_n ?_
      refine KC.seq ?_
      refine KC.block ?_
      refine KC.seq ?_
      refine KC.region ?_
      refine KT.step rfl rfl (K.move rfl) ?_
      refine KT.idxI rfl rfl rfl (by assumption) rfl (by simp; omega) Try.underlying33 Try.size3 fun cs42 => ?_
      rw [get_range]
      refine KT.step rfl rfl (K.load rfl Try.agg3) ?_
      refine KT.step rfl rfl (K.assign rfl) ?_
      refine KT.step rfl rfl (K.assign rfl) ?_
      refine KT.nil ?_
      refine thenK_n ?_
      refine KC.seq ?_
      refine KC.region ?_
      refine KT.step rfl rfl (K.move rfl) ?_
      refine KT.step rfl rfl (K.move rfl) ?_
      refine KT.step rfl rfl (K.move rfl) ?_
      refine KT.idx rfl rfl rfl (pwS_vec n g (Q + 2)) rfl (by simp; omega) Try.underlying78 Try.size22 fun c47 cs47 hq47 => ?_
      rw [List.getElem_range] at hq47
      subst hq47
      refine KT.step rfl rfl (K.load rfl Try.agg22) ?_
      refine KT.step rfl rfl (K.move rfl) ?_
      refine KT.idx rfl rfl rfl (genD_mat (R := n) (N := n) (f := pwI n g (l + 1))) rfl (by rw [genM_len]; omega) Try.underlying22 Try.size33 fun c50 cs50 hq50 => ?_
      rw [genM_row] at hq50
      refine KT.step rfl rfl (K.load rfl Try.agg33) ?_
      refine KT.step rfl rfl (K.move rfl) ?_
      refine KT.idxI rfl rfl rfl (by assumption) rfl (by simp; omega) Try.underlying33 Try.size3 fun cs53 => ?_
      rw [get_range]
      refine KT.step rfl rfl (K.load rfl Try.agg3) ?_
      refine KT.step rfl rfl (K.call2 rfl rfl plainTry_87 (after87 (good_bd (B.pow (k := 1) (by omega) at_ x) (Int.le_refl _)) (good_bd (B.pow (k := l + 1) (by omega) x first) (Int.le_refl _)))) ?_
      refine KT.step rfl rfl (K.move rfl) ?_
      refine KT.step rfl rfl (K.eql rfl rfl) ?_
      refine KT.nil ?_
      refine thenK_n ?_
      refine KC.cond rfl (fun hc57 => ?_) (fun hc57 => ?_)
      · skip
        replace hc57 := of_decide_eq_true hc57
        refine KC.seq ?_
        refine KC.region ?_
        refine KT.step rfl rfl (K.move rfl) ?_
        refine KT.step rfl rfl (K.assign rfl) ?_
        refine KT.nil ?_
        refine thenK_n ?_
        refine KC.exit ?_
        refine blockK_x (by decide) ?_
        refine thenK_x ?_
        refine thenK_x ?_
        refine blockK_e ?_
        refine thenK_n ?_
        refine KC.region ?_
        refine KT.step rfl rfl (K.move rfl) ?_
        refine KT.step rfl rfl (K.move rfl) ?_
        refine KT.step rfl rfl (K.build1' (v := .d (DI (x : Nat))) rfl rfl Try.underlying33 Try.one3) ?_
        have hnext : nextI n g first l at_ = x := next_yes (by omega) hc57 hall
        refine KT.appK (k := 1) (vs := [.d (DI (x : Nat))]) rfl rfl rfl rfl (hy.pushed _) (List.getElem?_concat_length ..) rfl rfl (by rw [List.length_map]; omega) Try.underlying33 Try.size3 ebytes3 ecells3 (by omega) fun σ1 y1 ho1 k1 w1 => ?_
        rw [show ncells acc ++ [.d (DI (x : Nat))] = ncells (acc ++ [x]) by simp] at ho1
        refine KT.step rfl rfl (K.assign rfl) ?_
        refine KT.nil ?_
        refine blockK_n ?_
        refine thenK_n ?_
        refine KC.region ?_
        refine KT.step rfl rfl (K.move rfl) ?_
        refine KT.step rfl rfl (K.sub rfl rfl (show IntKind.i64.wrap (((l + 1 : Nat) : Int) - 1) = ((l : Nat) : Int) from (wrap_id (by omega)).trans (by omega))) ?_
        refine KT.step rfl rfl (K.assign rfl) ?_
        refine KT.nil ?_
        refine thenK_n ?_
        refine ⟨(σ1, y1, l, x, acc ++ [x]), ⟨ho1, by simp only; omega, by simp only; omega, by simp; omega, ?_⟩, by simp only; omega, rfl, by simp [Go.Vm.look, extK]⟩
        rw [hnext] at hinv'
        simpa using hinv' 
      · skip
        replace hc57 := of_decide_eq_false hc57
        refine KC.skip ?_
        refine blockK_n ?_
        refine thenK_n ?_
        refine KC.region ?_
        refine KT.step rfl rfl (K.add rfl rfl (wrap_id (by omega))) ?_
        refine KT.step rfl rfl (K.move rfl) ?_
        refine KT.nil ?_
        refine thenK_n ?_
        refine ⟨x + 1, ⟨by omega, fun z hz => ?_⟩, by omega, rfl, by simp [Go.Vm.look, extK]⟩
        by_cases e : z = x
        · subst e; exact hc57
        · exact hall z (by omega)
    · skip
      replace hc40 := of_decide_eq_false hc40
      refine KC.exit ?_
      refine thenK_x ?_
      refine thenK_x ?_
      refine blockK_e ?_
      refine thenK_n ?_
      refine KC.region ?_
      refine KT.step rfl rfl (K.move rfl) ?_
      refine KT.step rfl rfl (K.move rfl) ?_
      refine KT.step rfl rfl (K.build1' (v := .d (DI (at_ : Nat))) rfl rfl Try.underlying33 Try.one3) ?_
      have hnext : nextI n g first l at_ = at_ := next_no fun z hz => hall z (by omega)
      refine KT.appK (k := 1) (vs := [.d (DI (at_ : Nat))]) rfl rfl rfl rfl (hy.pushed _) (List.getElem?_concat_length ..) rfl rfl (by rw [List.length_map]; omega) Try.underlying33 Try.size3 ebytes3 ecells3 (by omega) fun σ1 y1 ho1 k1 w1 => ?_
      rw [show ncells acc ++ [.d (DI (at_ : Nat))] = ncells (acc ++ [at_]) by simp] at ho1
      refine KT.step rfl rfl (K.assign rfl) ?_
      refine KT.nil ?_
      refine blockK_n ?_
      refine thenK_n ?_
      refine KC.region ?_
      refine KT.step rfl rfl (K.move rfl) ?_
      refine KT.step rfl rfl (K.sub rfl rfl (show IntKind.i64.wrap (((l + 1 : Nat) : Int) - 1) = ((l : Nat) : Int) from (wrap_id (by omega)).trans (by omega))) ?_
      refine KT.step rfl rfl (K.assign rfl) ?_
      refine KT.nil ?_
      refine thenK_n ?_
      refine ⟨(σ1, y1, l, at_, acc ++ [at_]), ⟨ho1, by simp only; omega, by simp only; omega, by simp; omega, ?_⟩, by simp only; omega, rfl, by simp [Go.Vm.look, extK]⟩
      rw [hnext] at hinv'
      simpa using hinv' 
  · skip
    replace hc18 := of_decide_eq_false hc18
    obtain rfl : l = 0 := by omega
    have hinv' : acc = first :: trc n g first Q first := by rw [← hinv]; simp [trc]
    refine KC.exit ?_
    refine thenK_x ?_
    refine thenK_x ?_
    refine blockK_e ?_
    refine thenK_n ?_
    refine KC.seq ?_
    refine KC.region ?_
    refine KT.step rfl rfl (K.move rfl) ?_
    refine KT.step rfl rfl (K.assign rfl) ?_
    refine KT.nil ?_
    refine thenK_n ?_
    refine KC.ret ?_
    subst hinv'
    exact ⟨.inl rfl, _, rfl, ow_fin (k := 3) hy (by simp)⟩

def critD (n : Nat) (g : Nat → Nat → Int) : DV := match (List.range n).find? (hasZ n g) with
  | none => Dnil
  | some k => icD (critL n g k)
theorem critD_ints (n : Nat) (g : Nat → Nat → Int) : Ints (critD n g) (critI n g) := by
  unfold critD critI
  cases (List.range n).find? (hasZ n g) with
  | none => exact .nil
  | some k => exact icD_ints _
set_option maxHeartbeats 800000 in
set_option maxRecDepth 10000 in
theorem firstC58 {d : DV} {n : Nat} {g : Nat → Nat → Int} (hd : Mat d (genM n n g)) (B : PGd n g) : DeepCall Try.prog 58 [d] (critD n g) := by
  have n1 := B.n1
  have n6 := B.n6
  refine deepCall_K 5 Try.func58 rfl (Nat.le_of_ble_eq_true rfl) fun M W0 => ?_
  refine KC.seq ?_
  refine KC.region ?_
  refine KT.step rfl rfl (K.assign rfl) ?_
  refine KT.nil ?_
  refine thenK_n ?_
  refine KC.seq ?_
  refine KC.region ?_
  refine KT.step rfl rfl (K.move rfl) ?_
  refine KT.step rfl rfl (K.len rfl hd Try.underlying22) ?_
  rw [genM_len]
  refine KT.step rfl rfl (K.call (ds := [DI (n : Nat), .fn (.func 88) [] []]) rfl plainTry_85 (build85 (f := pwI n g 0) (by omega) plainTry_88 fun i j hi hj => one88 hi)) ?_
  refine KT.step rfl rfl (K.build1' (v := pRow n g 0) rfl rfl Try.underlying78 Try.one22) ?_
  refine KT.step rfl rfl (K.assign rfl) ?_
  refine KT.nil ?_
  refine thenK_n ?_
  refine KC.seq ?_
  refine KC.seq ?_
  refine KC.ghostX (t := 3) (y := .osl 0 0 1 1 1 false) rfl (fun w ι F v h => osl_loose h) ?_
  refine KC.region ?_
  refine KT.step rfl rfl (K.move rfl) ?_
  refine KT.step rfl rfl (K.len rfl hd Try.underlying22) ?_
  rw [genM_len]
  refine KT.step rfl rfl (K.move rfl) ?_
  refine KT.nil ?_
  refine thenK_n ?_
  refine KC.block ?_
  refine KC.loop (fun p : List VObj × XV × Nat => p.1) (fun p => [(0, .d d), (12, .d (DI (n : Nat))), (3, p.2.1), (13, .d (DI (p.2.2 : Nat)))]) (fun p => p.2.2 ≤ n ∧ OwnK 1 p.1 p.2.1 (pRows n g (p.2.2 + 1)) ∧ ∀ j, j < p.2.2 → hasZ n g j = false) (fun p => n - p.2.2) (_, .osl 0 0 1 1 1 false, 0) ⟨Nat.zero_le _, .sl rfl (by simp [pRows]), fun j hj => by simp only at hj; omega⟩ rfl (by simp [Go.Vm.look, extK, enterK]) ?_
  intro p hp
  obtain ⟨σ0, x0, k⟩ := p
  obtain ⟨hk, hown, hall⟩ := hp
  simp only at hk hown hall ⊢
  have hown' := hown
  rw [pRows_succ] at hown'
  obtain ⟨ib, hxb, yb⟩ := own_sl hown'
  rw [pRows_len] at hxb
  rw [← pRows_succ] at yb
  subst hxb
  refine KC.seq ?_
  refine KC.region ?_
  refine KT.step rfl rfl (K.lss rfl rfl) ?_
  refine KT.nil ?_
  refine thenK_n ?_
  refine KC.seq ?_
  refine KC.cond rfl (fun hc14 => ?_) (fun hc14 => ?_)
  · skip
    replace hc14 := of_decide_eq_true hc14
    refine KC.skip ?_
    refine thenK_n ?_
    refine KC.seq ?_
    refine KC.block ?_
    refine KC.seq ?_
    refine KC.region ?_
    refine KT.step rfl rfl (K.move rfl) ?_
    refine KT.step rfl rfl (K.assign rfl) ?_
    refine KT.nil ?_
    refine thenK_n ?_
    refine KC.seq ?_
    refine KC.region ?_
    refine KT.step rfl rfl (K.move rfl) ?_
    refine KT.step rfl rfl (K.move rfl) ?_
    refine KT.step rfl rfl (K.idxO rfl rfl (by omega) Try.underlying78 Try.size22) ?_
    refine KT.step rfl rfl (K.loadO rfl yb (by simp) (pRows_get (show k < k + 1 by omega)) Try.agg22) ?_
    refine KT.step rfl rfl (K.move rfl) ?_
    refine KT.step rfl rfl (K.call2 rfl rfl plainTry_48 (product48 genD_mat hd n1 (by omega) (B.pow (k := k) (by omega)) (fun i j => (B.gd i j).mono (by omega)))) ?_
    refine KT.step rfl rfl (K.assign rfl) ?_
    refine KT.nil ?_
    refine thenK_n ?_
    refine KC.seq ?_
    refine KC.region ?_
    refine KT.step rfl rfl (K.move rfl) ?_
    refine KT.step rfl rfl (K.move rfl) ?_
    refine KT.step rfl rfl (K.build1' (v := pRow n g (k + 1)) rfl rfl Try.underlying78 Try.one22) ?_
    refine KT.appK (k := 1) (vs := [pRow n g (k + 1)]) rfl rfl rfl rfl (hown.pushed _) (by simp) rfl rfl (by rw [pRows_len]; omega) Try.underlying78 Try.size22 bytes22 cells22 (by omega) fun σ1 x1 ho1 k1 w1 => ?_
    obtain ⟨ib1, hxb1, yb1⟩ := own_sl ho1
    rw [pRows_len] at hxb1
    rw [← pRows_succ] at yb1 ho1
    subst hxb1
    refine KT.step rfl rfl (K.assign rfl) ?_
    refine KT.nil ?_
    refine thenK_n ?_
    refine KC.seq ?_
    refine KC.region ?_
    refine KT.step rfl rfl (K.move rfl) ?_
    refine KT.step rfl rfl (K.len rfl (genD_mat (R := n) (N := n) (f := pwI n g (k + 1))) Try.underlying22) ?_
    rw [genM_len]
    refine KT.step rfl rfl (K.move rfl) ?_
    refine KT.nil ?_
    refine thenK_n ?_
    refine KC.block ?_
    refine KC.loop (fun _ : Nat => σ1) (fun i => [(0, .d d), (12, .d (DI (n : Nat))), (3, .osl ib1 0 (k + 1 + 1) 1 (k + 1 + 1) false), (13, .d (DI (k : Nat))), (5, .d (genD n n (pwI n g (k + 1)))), (27, .d (DI (n : Nat))), (28, .d (DI (i : Nat)))]) (fun i => i ≤ n ∧ ∀ j, j < i → pwI n g (k + 1) j j ≠ 0) (fun i => n - i) 0 ⟨Nat.zero_le _, fun j hj => by omega⟩ rfl (by simp [Go.Vm.look, extK, pwI]) ?_
    intro i hi
    obtain ⟨hi, hmin⟩ := hi
    refine KC.seq ?_
    refine KC.region ?_
    refine KT.step rfl rfl (K.lss rfl rfl) ?_
    refine KT.nil ?_
    refine thenK_n ?_
    refine KC.seq ?_
    refine KC.cond rfl (fun hc29 => ?_) (fun hc29 => ?_)
    · skip
      replace hc29 := of_decide_eq_true hc29
      refine KC.skip ?_
      refine thenK_n ?_
      refine KC.seq ?_
      refine KC.block ?_
      refine KC.seq ?_
      refine KC.region ?_
      refine KT.step rfl rfl (K.move rfl) ?_
      refine KT.step rfl rfl (K.assign rfl) ?_
      refine KT.nil ?_
      refine thenK_n ?_
      refine KC.seq ?_
      refine KC.region ?_
      refine KT.step rfl rfl (K.move rfl) ?_
      refine KT.step rfl rfl (K.move rfl) ?_
      refine KT.idx rfl rfl rfl (genD_mat (R := n) (N := n) (f := pwI n g (k + 1))) rfl (by rw [genM_len]; omega) Try.underlying22 Try.size33 fun c33 cs33 hq33 => ?_
      rw [genM_row] at hq33
      refine KT.step rfl rfl (K.load rfl Try.agg33) ?_
      refine KT.step rfl rfl (K.move rfl) ?_
      refine KT.idxI rfl rfl rfl (by assumption) rfl (by simp; omega) Try.underlying33 Try.size3 fun cs36 => ?_
      rw [get_range]
      refine KT.step rfl rfl (K.load rfl Try.agg3) ?_
      refine KT.step rfl rfl (K.eql rfl rfl) ?_
      refine KT.nil ?_
      refine thenK_n ?_
      refine KC.cond rfl (fun hc38 => ?_) (fun hc38 => ?_)
      · skip
        replace hc38 := of_decide_eq_true hc38
        refine KC.seq ?_
        refine KC.region ?_
        refine KT.step rfl rfl (K.move rfl) ?_
        refine KT.step rfl rfl (K.move rfl) ?_
        have hlc := leastC_yes (P := pwI n g (k + 1)) (n := n) (show i < n by omega) hmin hc38
        have hz : hasZ n g k = true := decide_eq_true (by rw [hlc]; exact hc38)
        refine KT.step rfl rfl (K.callZ (xs := [.osl ib1 0 (k + 1 + 1) 1 (k + 1 + 1) false, .d (DI (i : Nat))]) (ds := [pwS n g (k + 2), DI (i : Nat)]) [ib1] 5 rfl plainTry_91 (by
          have h2 := freezeIds_in (ids := [ib1]) (by simp) yb1
          have h3 : deepen (freezeIds σ1 [ib1]) 5 (.osl ib1 0 (k + 1 + 1) 1 (k + 1 + 1) false) = some (pwS n g (k + 2)) := by
            rw [deepen_cells (k := 3) (R := k + 1 + 1) (ds := (List.range (k + 2)).map fun k => genD n n (pwI n g k)) h2 (by simp [pRows, pRow, Function.comp_def]) (by simp)]
            rfl
          rw [List.mapM_cons, List.mapM_cons, h3]; rfl) (traced91 B (show i < n by omega) (by omega))) ?_
        refine KT.step rfl rfl (K.assign rfl) ?_
        refine KT.nil ?_
        refine thenK_n ?_
        refine KC.ret ?_
        refine blockK_r ?_
        refine thenK_r ?_
        refine thenK_r ?_
        refine blockK_r ?_
        refine blockK_r ?_
        refine thenK_r ?_
        refine thenK_r ?_
        refine blockK_r ?_
        refine thenK_r ?_
        have hfind : (List.range n).find? (hasZ n g) = some k := List.find?_range_eq_some.2 ⟨hz, List.mem_range.2 (by omega), fun j hj => by rw [hall j hj]; rfl⟩
        exact ⟨.inl rfl, _, rfl, by show some _ = some _; unfold critD critL; rw [hfind]; simp only [hlc]⟩
      · skip
        replace hc38 := of_decide_eq_false hc38
        refine KC.skip ?_
        refine blockK_n ?_
        refine thenK_n ?_
        refine KC.region ?_
        refine KT.step rfl rfl (K.add rfl rfl (wrap_id (by omega))) ?_
        refine KT.step rfl rfl (K.move rfl) ?_
        refine KT.nil ?_
        refine thenK_n ?_
        refine ⟨i + 1, ⟨by omega, fun j hj => ?_⟩, by omega, rfl, by simp [Go.Vm.look, extK]⟩
        by_cases e : j = i
        · subst e; exact hc38
        · exact hmin j (by omega)
    · skip
      replace hc29 := of_decide_eq_false hc29
      refine KC.exit ?_
      refine thenK_x ?_
      refine thenK_x ?_
      refine blockK_e ?_
      refine blockK_n ?_
      refine thenK_n ?_
      refine KC.region ?_
      refine KT.step rfl rfl (K.add rfl rfl (wrap_id (by omega))) ?_
      refine KT.step rfl rfl (K.move rfl) ?_
      refine KT.nil ?_
      refine thenK_n ?_
      have hlc := leastC_no (P := pwI n g (k + 1)) (n := n) fun j hj => hmin j (by omega)
      have hz : hasZ n g k = false := decide_eq_false (by rw [hlc]; exact hmin 0 (by omega))
      refine ⟨(σ1, _, k + 1), ⟨by simp only; omega, ho1, fun j hj => ?_⟩, by simp only; omega, rfl, by simp [Go.Vm.look, extK]⟩
      by_cases e : j = k
      · subst e; exact hz
      · exact hall j (by simp only at hj; omega)
  · skip
    replace hc14 := of_decide_eq_false hc14
    refine KC.exit ?_
    refine thenK_x ?_
    refine thenK_x ?_
    refine blockK_e ?_
    refine thenK_n ?_
    refine KC.seq ?_
    refine KC.region ?_
    refine KT.step rfl rfl (K.assign rfl) ?_
    refine KT.nil ?_
    refine thenK_n ?_
    refine KC.ret ?_
    have hfind : (List.range n).find? (hasZ n g) = none := List.find?_eq_none.2 fun j hj => by rw [hall j (by have := List.mem_range.1 hj; omega)]; simp
    exact ⟨.inl rfl, _, rfl, by show some _ = some _; unfold critD; rw [hfind]⟩

def crD (m : List (List Int)) : DV := if measE m = 0 then critD m.length (gainM m) else Dnil
def crV (m : List (List Int)) : List Int := if measE m = 0 then critI m.length (gainM m) else []
theorem cr_ints (m : List (List Int)) : Ints (crD m) (crV m) := by unfold crD crV; split; exact critD_ints _ _; exact .nil
def poD (m : List (List Int)) : DV := if measE m = 0 then rowG m.length (potI m.length (gainM m)) else Dnil
def poV (m : List (List Int)) : List Int := if measE m = 0 then (List.range m.length).map (potI m.length (gainM m)) else []
theorem po_ints (m : List (List Int)) : Ints (poD m) (poV m) := by unfold poD poV; split; exact rowG_ints _; exact .nil
theorem few_crV (m : List (List Int)) : crV (fewM m) = crV m := few_fun crV [] (fun m h => by unfold crV; rw [(meas_no h).1]; rfl) m
theorem few_poV (m : List (List Int)) : poV (fewM m) = poV m := few_fun poV [] (fun m h => by unfold poV; rw [(meas_no h).1]; rfl) m
set_option maxRecDepth 10000 in
theorem Critical27 {d : DV} {m : List (List Int)} (hd : Mat d m) (hl : m.length ≤ 9223372036854775807) (hr : ∀ r ∈ m, r.length ≤ 9223372036854775807) : DeepCall Try.prog 27 [d] (.tup [crD m, DI (measE m)]) := by
  refine deepCall_K 5 Try.func27 rfl (Nat.le_of_ble_eq_true rfl) fun M W0 => ?_
  refine KC.seq ?_
  refine KC.region ?_
  refine KT.step rfl rfl (K.assign rfl) ?_
  refine KT.step rfl rfl (K.assign rfl) ?_
  refine KT.nil ?_
  refine thenK_n ?_
  refine KC.seq ?_
  refine KC.region ?_
  refine KT.step rfl rfl (K.move rfl) ?_
  refine KT.step rfl rfl (K.call1 rfl plainTry_56 (measured56 hd hl hr)) ?_
  refine KT.step rfl rfl (K.move rfl) ?_
  refine KT.step rfl rfl (K.extract rfl rfl) ?_
  refine KT.step rfl rfl (K.extract rfl rfl) ?_
  refine KT.step rfl rfl (K.extract rfl rfl) ?_
  refine KT.step rfl rfl (K.alloc Try.zero59) ?_
  refine KT.step rfl rfl (K.assign rfl) ?_
  refine KT.step rfl rfl (K.storeN rfl rfl rfl (by simp [cellsX, Value.cells]) rfl Try.size59) ?_
  refine KT.step rfl rfl (K.assign rfl) ?_
  refine KT.nil ?_
  refine thenK_n ?_
  refine KC.seq ?_
  refine KC.seq ?_
  refine KC.region ?_
  refine KT.step rfl rfl (K.move rfl) ?_
  refine KT.step rfl rfl (K.neq rfl rfl) ?_
  refine KT.nil ?_
  refine thenK_n ?_
  refine KC.cond rfl (fun hc14 => ?_) (fun hc14 => ?_)
  · skip
    replace hc14 := of_decide_eq_true hc14
    refine KC.seq ?_
    refine KC.region ?_
    refine KT.step rfl rfl (K.move rfl) ?_
    refine KT.step rfl rfl (K.assign rfl) ?_
    refine KT.step rfl rfl (K.assign rfl) ?_
    refine KT.nil ?_
    refine thenK_n ?_
    refine KC.ret ?_
    refine thenK_r ?_
    exact ⟨.inl rfl, _, rfl, by show some _ = some _; unfold crD; rw [if_neg hc14]; rfl⟩
  · skip
    replace hc14 := of_decide_eq_false hc14
    have hm0 : measE m = 0 := by omega
    obtain ⟨hg, hG⟩ := meas_G hm0
    have B : PGd m.length (gainM m) := ⟨hg.n1, hg.n6, hg.gd⟩
    have gm : Mat (measG m) (genM m.length m.length (gainM m)) := by rw [hG]; exact genD_mat
    have hn6 := hg.n6
    refine KC.skip ?_
    refine thenK_n ?_
    refine KC.seq ?_
    refine KC.region ?_
    refine KT.step rfl rfl (K.move rfl) ?_
    refine KT.step rfl rfl (K.call1 rfl plainTry_58 (firstC58 gm B)) ?_
    refine KT.step rfl rfl (K.assign rfl) ?_
    refine KT.step rfl rfl (K.assign rfl) ?_
    refine KT.nil ?_
    refine thenK_n ?_
    refine KC.ret ?_
    exact ⟨.inl rfl, _, rfl, by show some _ = some _; unfold crD; rw [if_pos hm0, hm0]; rfl⟩
set_option maxRecDepth 10000 in
theorem Potential30 {d : DV} {m : List (List Int)} (hd : Mat d m) (hl : m.length ≤ 9223372036854775807) (hr : ∀ r ∈ m, r.length ≤ 9223372036854775807) : DeepCall Try.prog 30 [d] (.tup [poD m, DI (measE m)]) := by
  refine deepCall_K 5 Try.func30 rfl (Nat.le_of_ble_eq_true rfl) fun M W0 => ?_
  refine KC.seq ?_
  refine KC.region ?_
  refine KT.step rfl rfl (K.assign rfl) ?_
  refine KT.step rfl rfl (K.assign rfl) ?_
  refine KT.nil ?_
  refine thenK_n ?_
  refine KC.seq ?_
  refine KC.region ?_
  refine KT.step rfl rfl (K.move rfl) ?_
  refine KT.step rfl rfl (K.call1 rfl plainTry_56 (measured56 hd hl hr)) ?_
  refine KT.step rfl rfl (K.move rfl) ?_
  refine KT.step rfl rfl (K.extract rfl rfl) ?_
  refine KT.step rfl rfl (K.extract rfl rfl) ?_
  refine KT.step rfl rfl (K.extract rfl rfl) ?_
  refine KT.step rfl rfl (K.alloc Try.zero59) ?_
  refine KT.step rfl rfl (K.assign rfl) ?_
  refine KT.step rfl rfl (K.storeN rfl rfl rfl (by simp [cellsX, Value.cells]) rfl Try.size59) ?_
  refine KT.step rfl rfl (K.assign rfl) ?_
  refine KT.nil ?_
  refine thenK_n ?_
  refine KC.seq ?_
  refine KC.seq ?_
  refine KC.region ?_
  refine KT.step rfl rfl (K.move rfl) ?_
  refine KT.step rfl rfl (K.neq rfl rfl) ?_
  refine KT.nil ?_
  refine thenK_n ?_
  refine KC.cond rfl (fun hc17 => ?_) (fun hc17 => ?_)
  · skip
    replace hc17 := of_decide_eq_true hc17
    refine KC.seq ?_
    refine KC.region ?_
    refine KT.step rfl rfl (K.move rfl) ?_
    refine KT.step rfl rfl (K.assign rfl) ?_
    refine KT.step rfl rfl (K.assign rfl) ?_
    refine KT.nil ?_
    refine thenK_n ?_
    refine KC.ret ?_
    refine thenK_r ?_
    exact ⟨.inl rfl, _, rfl, by show some _ = some _; unfold poD; rw [if_neg hc17]; rfl⟩
  · skip
    replace hc17 := of_decide_eq_false hc17
    have hm0 : measE m = 0 := by omega
    obtain ⟨hg, hG⟩ := meas_G hm0
    have B : PGd m.length (gainM m) := ⟨hg.n1, hg.n6, hg.gd⟩
    have gm : Mat (measG m) (genM m.length m.length (gainM m)) := by rw [hG]; exact genD_mat
    have hn6 := hg.n6
    refine KC.skip ?_
    refine thenK_n ?_
    refine KC.seq ?_
    refine KC.region ?_
    refine KT.step rfl rfl (K.move rfl) ?_
    refine KT.step rfl rfl (K.len rfl hd Try.underlying22) ?_
    refine KT.step rfl rfl (K.make rfl rfl (Nat.le_refl _) (by omega) Try.underlying33 Try.one3) ?_
    rw [mixL_rep (n := m.length) (f := rowX (potI m.length (gainM m)))]
    refine KT.step rfl rfl (K.assign rfl) ?_
    refine KT.nil ?_
    refine thenK_n ?_
    refine KC.seq ?_
    refine KC.seq ?_
    refine KC.region ?_
    refine KT.step rfl rfl (K.move rfl) ?_
    refine KT.step rfl rfl (K.call1 rfl plainTry_59 (ways59 gm hg.n1 (by omega) hg.gd (by omega) hg.sup)) ?_
    refine KT.step rfl rfl (K.len rfl genD_mat Try.underlying22) ?_
    rw [genM_len]
    refine KT.step rfl rfl (K.move rfl) ?_
    refine KT.nil ?_
    refine thenK_n ?_
    refine KC.block ?_
    refine KC.loop (fun i : Nat => [⟨[.d (DI (measF m).1), .d (DI (measF m).2)], 0⟩, ⟨mixL m.length (rowX (potI m.length (gainM m))) (fun _ => .d (.lit (.int .i64 0))) i, 0⟩]) (fun i => [(0, .d d), (7, .osl 1 0 m.length 1 m.length true), (23, .d (genD m.length m.length (waysI m.length (gainM m)))), (24, .d (DI (m.length : Nat))), (25, .d (DI (i : Nat)))]) (fun i => i ≤ m.length) (fun i => m.length - i) 0 (Nat.zero_le _) rfl (by simp [Go.Vm.look, extK, enterK]) ?_
    intro i hi
    refine KC.seq ?_
    refine KC.region ?_
    refine KT.step rfl rfl (K.lss rfl rfl) ?_
    refine KT.nil ?_
    refine thenK_n ?_
    refine KC.seq ?_
    refine KC.cond rfl (fun hc26 => ?_) (fun hc26 => ?_)
    · skip
      replace hc26 := of_decide_eq_true hc26
      refine KC.skip ?_
      refine thenK_n ?_
      refine KC.seq ?_
      refine KC.block ?_
      refine KC.seq ?_
      refine KC.region ?_
      refine KT.step rfl rfl (K.move rfl) ?_
      refine KT.idx rfl rfl rfl (genD_mat (R := m.length)) rfl (by rw [genM_len]; omega) Try.underlying22 Try.size33 fun c28 cs28 hq28 => ?_
      rw [genM_row] at hq28
      refine KT.step rfl rfl (K.load rfl Try.agg33) ?_
      refine KT.step rfl rfl (K.assign rfl) ?_
      refine KT.step rfl rfl (K.assign rfl) ?_
      refine KT.nil ?_
      refine thenK_n ?_
      refine KC.region ?_
      refine KT.step rfl rfl (K.move rfl) ?_
      refine KT.step rfl rfl (K.move rfl) ?_
      refine KT.step rfl rfl (K.move rfl) ?_
      refine KT.step rfl rfl (K.call1 rfl plainTry_60 (greatest60 hq28 (by simp; omega))) ?_
      refine KT.step rfl rfl (K.idxO rfl rfl (by omega) Try.underlying33 Try.size3) ?_
      refine KT.step rfl rfl (K.storeO rfl rfl rfl (by rw [mixL_len]; omega) rfl rfl Try.size3) ?_
      refine KT.nil ?_
      refine blockK_n ?_
      refine thenK_n ?_
      refine KC.region ?_
      refine KT.step rfl rfl (K.add rfl rfl (wrap_id (by omega))) ?_
      refine KT.step rfl rfl (K.move rfl) ?_
      refine KT.nil ?_
      refine thenK_n ?_
      refine ⟨i + 1, by omega, by omega, ?_, by simp [Go.Vm.look, extK]⟩
      rw [← mixL_set (f := rowX (potI m.length (gainM m))) (show i < m.length by omega)]; rfl
    · skip
      replace hc26 := of_decide_eq_false hc26
      refine KC.exit ?_
      refine thenK_x ?_
      refine thenK_x ?_
      refine blockK_e ?_
      refine thenK_n ?_
      refine KC.seq ?_
      refine KC.region ?_
      refine KT.step rfl rfl (K.move rfl) ?_
      refine KT.step rfl rfl (K.assign rfl) ?_
      refine KT.step rfl rfl (K.assign rfl) ?_
      refine KT.nil ?_
      refine thenK_n ?_
      refine KC.ret ?_
      obtain rfl : i = m.length := by omega
      refine ⟨.inl rfl, _, rfl, ?_⟩
      have hE : poD m = rowG m.length (potI m.length (gainM m)) := by unfold poD; rw [if_pos hm0]
      rw [hE, hm0]
      exact deepen_tup2 (k := 3) (row_fin (k := 2) rfl)

theorem gain_of {m : List (List Int)} {p q : Int} (hv : validB 1000 m = true) (hm : meanI m.length (mf m) = some (p, q)) : gainM m = gainI (mf m) p q := by
  unfold gainM; rw [(meas_some hv hm).2.1]
theorem check_self {m : List (List Int)} (h0 : measE m = 0) : checkB m (crV m) (poV m) (measF m).1 (measF m).2 = true := by
  obtain ⟨hv, p, q, hm⟩ := meas_inv h0
  obtain ⟨sm, _⟩ := Cy.Small.of hv
  obtain ⟨_, _, b1, b2, _⟩ := sm.mean hm
  have hF : measF m = (p, q) := (meas_some hv hm).2.1
  have hG := gain_of hv hm
  have n6 := sm.n6
  have hg := sm.gst hm
  obtain ⟨c1, c2, c3⟩ := sm.crit hm
  obtain ⟨p1, p2⟩ := hg.pot
  have hcr : crV m = critI m.length (gainI (mf m) p q) := by unfold crV; rw [if_pos h0, hG]
  have hpo : poV m = (List.range m.length).map (potI m.length (gainI (mf m) p q)) := by unfold poV; rw [if_pos h0, hG]
  have hpg : ∀ i, i < m.length → (poV m).getD i 0 = potI m.length (gainI (mf m) p q) i := fun i hi => by rw [hpo]; simp [hi]
  unfold checkB
  rw [hv, hF]
  have w1 : wideB p q = true := wideB_iff.2 ⟨⟨by unfold F40; omega, by unfold F40; omega⟩, by omega, by unfold F40; omega⟩
  have w2 : meanB m.length (mf m) (crV m) p q = true := by
    unfold meanB
    rw [hcr, cycB_true c1 c2, decide_eq_true c3]; rfl
  have w3 : potB m.length (mf m) (poV m) p q = true := potB_true (by
    refine ⟨by rw [hpo]; simp, fun x hx => ?_, fun i hi j hj hne => ?_⟩
    · rw [hpo] at hx
      obtain ⟨i, hi, rfl⟩ := List.mem_map.1 hx
      have := p1 i (List.mem_range.1 hi)
      exact ⟨by unfold F40; omega, by unfold F40; omega⟩
    · rw [hpg i hi, hpg j hj]
      have hgi : gainI (mf m) p q i j = q * mf m i j - p := if_neg hne
      have hmb := mul_bd (a := 6) (b := 1000) (x := q) (y := mf m i j) (by omega) ((sm.ga i j).resolve_left hne) (by omega) (by omega)
      have := p2 i hi j hj (by rw [hgi]; unfold Nv; omega)
      omega)
  rw [w1, w2, w3]; rfl
theorem check_parts {m : List (List Int)} {c v : List Int} {num den : Int} (h : checkB m c v num den = true) : validB 1000 m = true ∧ inF num ∧ 1 ≤ den ∧ den ≤ F40 ∧ cycP m.length (mf m) c ∧ 0 < c.length ∧ MeanOf m.length (DM (mf m)) num den := by
  unfold checkB at h
  simp only [Bool.and_eq_true] at h
  obtain ⟨hv, ⟨hw, hm⟩, hp⟩ := h
  obtain ⟨sm, _⟩ := Cy.Small.of hv
  obtain ⟨w1, w2, w3⟩ := wideB_iff.1 hw
  unfold meanB at hm
  simp only [Bool.and_eq_true, decide_eq_true_eq] at hm
  obtain ⟨hc, h0⟩ := cycB_iff.1 hm.1
  exact ⟨hv, w1, w2, w3, hc, h0, mean_of_check sm.sup (by omega) hc h0 hm.2 (potB_iff.1 hp)⟩
theorem check_none {m : List (List Int)} {c v : List Int} {num den : Int} (h5 : measE m = 5) : checkB m c v num den = false := by
  cases h : checkB m c v num den with
  | false => rfl
  | true =>
    obtain ⟨hv, _, _, _, _, _, hm⟩ := check_parts h
    obtain ⟨sm, _⟩ := Cy.Small.of hv
    obtain ⟨k, c0, w, k1, k2, _⟩ := hm.eq
    have hn : meanI m.length (mf m) = none := by
      unfold measE at h5
      rw [hv] at h5
      cases hm : meanI m.length (mf m) with
      | none => rfl
      | some x => rw [hm] at h5; cases h5
    rw [sm.none hn k c0 k1] at k2; cases k2
theorem check_uniq {m : List (List Int)} {c v : List Int} {num den : Int} (h0 : measE m = 0) (h : checkB m c v num den = true) : num * (measF m).2 = (measF m).1 * den := by
  obtain ⟨hv, _, _, _, _, _, hm⟩ := check_parts h
  obtain ⟨_, p, q, hmm⟩ := meas_inv h0
  obtain ⟨sm, _⟩ := Cy.Small.of hv
  rw [(meas_some hv hmm).2.1]
  exact hm.uniq (sm.mean hmm).1
theorem errV_meas {m : List (List Int)} : (measE m = 2 → errV m = 2) ∧ (measE m ≠ 2 → errV m = 0) ∧ (measE m = 2 ∨ measE m = 5 ∨ measE m = 0) := by
  unfold measE errV
  cases h : validB 1000 m with
  | false => exact ⟨fun _ => rfl, fun h => absurd rfl h, .inl rfl⟩
  | true =>
    refine ⟨fun h => ?_, fun _ => rfl, ?_⟩
    · cases hm : meanI m.length (mf m) <;> rw [hm] at h <;> cases h
    · cases hm : meanI m.length (mf m) with
      | none => exact .inr (.inl rfl)
      | some x => exact .inr (.inr rfl)
theorem meas_bd {m : List (List Int)} (h0 : measE m = 0) : (-6000 ≤ (measF m).1 ∧ (measF m).1 ≤ 6000) ∧ 1 ≤ (measF m).2 ∧ (measF m).2 ≤ 6 := by
  obtain ⟨hv, p, q, hm⟩ := meas_inv h0
  obtain ⟨sm, _⟩ := Cy.Small.of hv
  obtain ⟨_, _, b1, b2, _⟩ := sm.mean hm
  rw [(meas_some hv hm).2.1]; simp only; omega
theorem crV_len {m : List (List Int)} : (crV m).length ≤ 9223372036854775807 := by
  by_cases h0 : measE m = 0
  · obtain ⟨hv, p, q, hm⟩ := meas_inv h0
    obtain ⟨sm, _⟩ := Cy.Small.of hv
    obtain ⟨c1, _, _⟩ := sm.crit hm
    have : crV m = critI m.length (gainI (mf m) p q) := by unfold crV; rw [if_pos h0, gain_of hv hm]
    rw [this]
    have := dif_le fun q hq => ⟨(c1 q hq).1, (c1 q hq).2.2.1⟩
    have := sm.n6
    omega
  · unfold crV; rw [if_neg h0]; simp
theorem poV_len {m : List (List Int)} : (poV m).length ≤ 9223372036854775807 := by
  by_cases h0 : measE m = 0
  · obtain ⟨hv, p, q, hm⟩ := meas_inv h0
    obtain ⟨sm, _⟩ := Cy.Small.of hv
    have := sm.n6
    unfold poV; rw [if_pos h0]; simp; omega
  · unfold poV; rw [if_neg h0]; simp
theorem CriticalF {d : DV} {m : List (List Int)} (hd : Mat d m) (hl : m.length ≤ 9223372036854775807) (hr : ∀ r ∈ m, r.length ≤ 9223372036854775807) : DeepCall Try.prog 27 [rows8 m d] (.tup [crD (fewM m), DI (measE m)]) := by
  have h := Critical27 (show Mat (rows8 m d) (fewM m) from rows8_mat hd) (few_len m).1 (few_len m).2
  rwa [few_measE] at h
theorem PotentialF {d : DV} {m : List (List Int)} (hd : Mat d m) (hl : m.length ≤ 9223372036854775807) (hr : ∀ r ∈ m, r.length ≤ 9223372036854775807) : DeepCall Try.prog 30 [rows8 m d] (.tup [poD (fewM m), DI (measE m)]) := by
  have h := Potential30 (show Mat (rows8 m d) (fewM m) from rows8_mat hd) (few_len m).1 (few_len m).2
  rwa [few_measE] at h
theorem CheckF {d e f : DV} {m : List (List Int)} {c v : List Int} {num den : Int} (hd : Mat d m) (hl : m.length ≤ 9223372036854775807) (hr : ∀ r ∈ m, r.length ≤ 9223372036854775807) (he : Ints e c) (hlc : c.length ≤ 9223372036854775807) (hf : Ints f v) (hlv : v.length ≤ 9223372036854775807) : DeepCall Try.prog 32 [rows8 m d, e, f, DI num, DI den] (.tup [DB (checkB m c v num den), DI (errV m)]) := by
  have h := check32 (num := num) (den := den) (show Mat (rows8 m d) (fewM m) from rows8_mat hd) (few_len m).1 (few_len m).2 he hlc hf hlv
  rwa [(few_check m c v num den).1, (few_check m c v num den).2] at h
set_option maxHeartbeats 1600000 in
set_option maxRecDepth 10000 in
theorem law7 {d e f : DV} {m : List (List Int)} {c v : List Int} {num den : Int} (hd : Mat d m) (hl : m.length ≤ 9223372036854775807) (hr : ∀ r ∈ m, r.length ≤ 9223372036854775807) (he : Ints e c) (hlc : c.length ≤ 9223372036854775807) (hf : Ints f v) (hlv : v.length ≤ 9223372036854775807) : DeepCall Try.prog 7 [d, e, f, DI num, DI den] (DB true) := by
  obtain ⟨x1, x2, x3⟩ := errV_meas (m := m)
  have c1 : Ints (crD (fewM m)) (crV m) := by have := cr_ints (fewM m); rwa [few_crV] at this
  have c2 : Ints (poD (fewM m)) (poV m) := by have := po_ints (fewM m); rwa [few_poV] at this
  refine deepCall_K 5 Try.func7 rfl (Nat.le_of_ble_eq_true rfl) fun M W0 => ?_
  refine KC.seq ?_
  refine KC.region ?_
  refine KT.step rfl rfl (K.assign rfl) ?_
  refine KT.nil ?_
  refine thenK_n ?_
  refine KC.seq ?_
  refine KC.region ?_
  refine KT.step rfl rfl (K.move rfl) ?_
  refine KT.step rfl rfl (K.call1 rfl plainTry_19 (rows19 hd hl (fun i hi => by rw [show m.getD i [] = m[i] by simp [hi]]; exact hr _ (List.getElem_mem hi)))) ?_
  refine KT.step rfl rfl (K.call1 rfl plainTry_25 (MeanF hd hl hr)) ?_
  refine KT.step rfl rfl (K.move rfl) ?_
  refine KT.step rfl rfl (K.extract rfl rfl) ?_
  refine KT.step rfl rfl (K.extract rfl rfl) ?_
  refine KT.step rfl rfl (K.extract rfl rfl) ?_
  refine KT.step rfl rfl (K.assign rfl) ?_
  refine KT.step rfl rfl (K.assign rfl) ?_
  refine KT.step rfl rfl (K.assign rfl) ?_
  refine KT.nil ?_
  refine thenK_n ?_
  refine KC.seq ?_
  refine KC.region ?_
  refine KT.step rfl rfl (K.move rfl) ?_
  refine KT.step rfl rfl (K.call1 rfl plainTry_19 (rows19 hd hl (fun i hi => by rw [show m.getD i [] = m[i] by simp [hi]]; exact hr _ (List.getElem_mem hi)))) ?_
  refine KT.step rfl rfl (K.move rfl) ?_
  refine KT.step rfl rfl (K.move rfl) ?_
  refine KT.step rfl rfl (K.move rfl) ?_
  refine KT.step rfl rfl (K.move rfl) ?_
  refine KT.step rfl rfl (K.call5 rfl rfl rfl rfl rfl plainTry_32 (CheckF hd hl hr he hlc hf hlv)) ?_
  refine KT.step rfl rfl (K.move rfl) ?_
  refine KT.step rfl rfl (K.extract rfl rfl) ?_
  refine KT.step rfl rfl (K.extract rfl rfl) ?_
  refine KT.step rfl rfl (K.assign rfl) ?_
  refine KT.step rfl rfl (K.assign rfl) ?_
  refine KT.nil ?_
  refine thenK_n ?_
  refine KC.seq ?_
  refine KC.seq ?_
  refine KC.region ?_
  refine KT.step rfl rfl (K.move rfl) ?_
  refine KT.step rfl rfl (K.neq rfl rfl) ?_
  refine KT.nil ?_
  refine thenK_n ?_
  refine KC.cond rfl (fun hc40 => ?_) (fun hc40 => ?_)
  · skip
    replace hc40 := of_decide_eq_true hc40
    refine KC.seq ?_
    refine KC.region ?_
    refine KT.step rfl rfl (K.move rfl) ?_
    refine KT.step rfl rfl (K.eql rfl rfl) ?_
    refine KT.step rfl rfl (K.move rfl) ?_
    refine KT.bcase (fun hb43 => ?_) (fun hb43 => ?_)
    · skip
      replace hb43 := of_decide_eq_true hb43
      refine KT.step rfl rfl (K.move rfl) ?_
      refine KT.step rfl rfl (K.eql rfl rfl) ?_
      refine KT.step rfl rfl (K.pick rfl (fun _ => rfl) (fun h => by cases h)) ?_
      refine KT.step rfl rfl (K.move rfl) ?_
      refine KT.bcase (fun hb47 => ?_) (fun hb47 => ?_)
      · skip
        replace hb47 := of_decide_eq_true hb47
        refine KT.skip rfl rfl ?_
        refine KT.skip rfl rfl ?_
        refine KT.skip rfl rfl ?_
        refine KT.skip rfl rfl ?_
        refine KT.skip rfl rfl ?_
        refine KT.skip rfl rfl ?_
        refine KT.skip rfl rfl ?_
        refine KT.skip rfl rfl ?_
        refine KT.skip rfl rfl ?_
        refine KT.skip rfl rfl ?_
        refine KT.step rfl rfl (K.pick rfl (fun _ => rfl) (fun h => by cases h)) ?_
        refine KT.step rfl rfl (K.move rfl) ?_
        refine KT.step rfl rfl (K.call0 plainTry_24 (awake24)) ?_
        refine KT.step rfl rfl (K.pick rfl (fun _ => rfl) (fun h => by cases h)) ?_
        refine KT.step rfl rfl (K.assign rfl) ?_
        refine KT.nil ?_
        refine thenK_n ?_
        refine KC.ret ?_
        refine thenK_r ?_
        exact ⟨.inl rfl, _, rfl, rfl⟩
      · skip
        exact absurd (x1 (by omega)) (of_decide_eq_false hb47)
    · skip
      replace hb43 := of_decide_eq_false hb43
      refine KT.skip rfl rfl ?_
      refine KT.skip rfl rfl ?_
      refine KT.step rfl rfl (K.pick rfl (fun h => by cases h) (fun _ => rfl)) ?_
      refine KT.step rfl rfl (K.move rfl) ?_
      refine KT.step rfl rfl (K.move rfl) ?_
      refine KT.step rfl rfl (K.eql rfl rfl) ?_
      refine KT.step rfl rfl (K.move rfl) ?_
      refine KT.bcase (fun hb50 => ?_) (fun hb50 => ?_)
      · skip
        replace hb50 := of_decide_eq_true hb50
        refine KT.step rfl rfl (K.move rfl) ?_
        refine KT.step rfl rfl (K.eql rfl rfl) ?_
        refine KT.step rfl rfl (K.pick rfl (fun _ => rfl) (fun h => by cases h)) ?_
        refine KT.step rfl rfl (K.move rfl) ?_
        refine KT.bcase (fun hb54 => ?_) (fun hb54 => ?_)
        · skip
          replace hb54 := of_decide_eq_true hb54
          refine KT.step rfl rfl (K.move rfl) ?_
          refine KT.step rfl rfl (K.not rfl) ?_
          refine KT.step rfl rfl (K.pick rfl (fun _ => rfl) (fun h => by cases h)) ?_
          refine KT.step rfl rfl (K.pick rfl (fun h => by cases h) (fun _ => rfl)) ?_
          refine KT.step rfl rfl (K.move rfl) ?_
          refine KT.bcase (fun hb59 => ?_) (fun hb59 => ?_)
          · skip
            refine KT.step rfl rfl (K.call0 plainTry_24 (awake24)) ?_
            refine KT.step rfl rfl (K.pick rfl (fun _ => rfl) (fun h => by cases h)) ?_
            refine KT.step rfl rfl (K.assign rfl) ?_
            refine KT.nil ?_
            refine thenK_n ?_
            refine KC.ret ?_
            refine thenK_r ?_
            exact ⟨.inl rfl, _, rfl, rfl⟩
          · skip
            rw [check_none (by omega)] at hb59
            cases hb59
        · skip
          exact absurd (x2 (by omega)) (of_decide_eq_false hb54)
      · skip
        exact absurd (of_decide_eq_false hb50) (by omega)
  · skip
    replace hc40 := of_decide_eq_false hc40
    have h0 : measE m = 0 := by omega
    have hself := check_self h0
    obtain ⟨b1, b2⟩ := meas_bd h0
    refine KC.skip ?_
    refine thenK_n ?_
    refine KC.seq ?_
    refine KC.region ?_
    refine KT.step rfl rfl (K.move rfl) ?_
    refine KT.step rfl rfl (K.call1 rfl plainTry_19 (rows19 hd hl (fun i hi => by rw [show m.getD i [] = m[i] by simp [hi]]; exact hr _ (List.getElem_mem hi)))) ?_
    refine KT.step rfl rfl (K.call1 rfl plainTry_27 (CriticalF hd hl hr)) ?_
    refine KT.step rfl rfl (K.move rfl) ?_
    refine KT.step rfl rfl (K.extract rfl rfl) ?_
    refine KT.step rfl rfl (K.extract rfl rfl) ?_
    refine KT.step rfl rfl (K.assign rfl) ?_
    refine KT.step rfl rfl (K.assign rfl) ?_
    refine KT.nil ?_
    refine thenK_n ?_
    refine KC.seq ?_
    refine KC.region ?_
    refine KT.step rfl rfl (K.move rfl) ?_
    refine KT.step rfl rfl (K.call1 rfl plainTry_19 (rows19 hd hl (fun i hi => by rw [show m.getD i [] = m[i] by simp [hi]]; exact hr _ (List.getElem_mem hi)))) ?_
    refine KT.step rfl rfl (K.call1 rfl plainTry_30 (PotentialF hd hl hr)) ?_
    refine KT.step rfl rfl (K.move rfl) ?_
    refine KT.step rfl rfl (K.extract rfl rfl) ?_
    refine KT.step rfl rfl (K.extract rfl rfl) ?_
    refine KT.step rfl rfl (K.assign rfl) ?_
    refine KT.step rfl rfl (K.assign rfl) ?_
    refine KT.nil ?_
    refine thenK_n ?_
    refine KC.seq ?_
    refine KC.region ?_
    refine KT.step rfl rfl (K.move rfl) ?_
    refine KT.step rfl rfl (K.call1 rfl plainTry_19 (rows19 hd hl (fun i hi => by rw [show m.getD i [] = m[i] by simp [hi]]; exact hr _ (List.getElem_mem hi)))) ?_
    refine KT.step rfl rfl (K.move rfl) ?_
    refine KT.step rfl rfl (K.move rfl) ?_
    refine KT.step rfl rfl (K.move rfl) ?_
    refine KT.step rfl rfl (K.move rfl) ?_
    refine KT.step rfl rfl (K.call5 rfl rfl rfl rfl rfl plainTry_32 (CheckF hd hl hr c1 crV_len c2 poV_len)) ?_
    refine KT.step rfl rfl (K.move rfl) ?_
    refine KT.step rfl rfl (K.extract rfl rfl) ?_
    refine KT.step rfl rfl (K.extract rfl rfl) ?_
    refine KT.step rfl rfl (K.assign rfl) ?_
    refine KT.step rfl rfl (K.assign rfl) ?_
    refine KT.nil ?_
    refine thenK_n ?_
    refine KC.seq ?_
    refine KC.seq ?_
    refine KC.region ?_
    refine KT.step rfl rfl (K.move rfl) ?_
    refine KT.step rfl rfl (K.neq rfl rfl) ?_
    refine KT.step rfl rfl (K.move rfl) ?_
    refine KT.bcase (fun hb86 => ?_) (fun hb86 => ?_)
    · skip
      exact absurd h0 (of_decide_eq_true hb86)
    · skip
      replace hb86 := of_decide_eq_false hb86
      refine KT.step rfl rfl (K.move rfl) ?_
      refine KT.step rfl rfl (K.neq rfl rfl) ?_
      refine KT.step rfl rfl (K.pick rfl (fun h => by cases h) (fun _ => rfl)) ?_
      refine KT.step rfl rfl (K.move rfl) ?_
      refine KT.bcase (fun hb90 => ?_) (fun hb90 => ?_)
      · skip
        exact absurd h0 (of_decide_eq_true hb90)
      · skip
        replace hb90 := of_decide_eq_false hb90
        refine KT.step rfl rfl (K.move rfl) ?_
        refine KT.step rfl rfl (K.neq rfl rfl) ?_
        refine KT.step rfl rfl (K.pick rfl (fun h => by cases h) (fun _ => rfl)) ?_
        refine KT.step rfl rfl (K.move rfl) ?_
        refine KT.bcase (fun hb94 => ?_) (fun hb94 => ?_)
        · skip
          exact absurd (x2 (by omega)) (of_decide_eq_true hb94)
        · skip
          replace hb94 := of_decide_eq_false hb94
          refine KT.step rfl rfl (K.move rfl) ?_
          refine KT.step rfl rfl (K.not rfl) ?_
          refine KT.step rfl rfl (K.pick rfl (fun h => by cases h) (fun _ => rfl)) ?_
          refine KT.step rfl rfl (K.move rfl) ?_
          refine KT.bcase (fun hb98 => ?_) (fun hb98 => ?_)
          · skip
            rw [hself] at hb98
            cases hb98
          · skip
            refine KT.step rfl rfl (K.move rfl) ?_
            refine KT.step rfl rfl (K.neq rfl rfl) ?_
            refine KT.step rfl rfl (K.pick rfl (fun h => by cases h) (fun _ => rfl)) ?_
            refine KT.nil ?_
            refine thenK_n ?_
            refine KC.cond rfl (fun hc101 => ?_) (fun hc101 => ?_)
            · skip
              exact absurd (x2 (by omega)) (of_decide_eq_true hc101)
            · skip
              replace hc101 := of_decide_eq_false hc101
              refine KC.skip ?_
              refine thenK_n ?_
              refine KC.seq ?_
              refine KC.region ?_
              refine KT.step rfl rfl (K.move rfl) ?_
              refine KT.step rfl rfl (K.not rfl) ?_
              refine KT.step rfl rfl (K.move rfl) ?_
              refine KT.bcase (fun hb104 => ?_) (fun hb104 => ?_)
              · skip
                refine KT.skip rfl rfl ?_
                refine KT.skip rfl rfl ?_
                refine KT.skip rfl rfl ?_
                refine KT.skip rfl rfl ?_
                refine KT.skip rfl rfl ?_
                refine KT.skip rfl rfl ?_
                refine KT.skip rfl rfl ?_
                refine KT.skip rfl rfl ?_
                refine KT.skip rfl rfl ?_
                refine KT.skip rfl rfl ?_
                refine KT.skip rfl rfl ?_
                refine KT.step rfl rfl (K.pick rfl (fun _ => rfl) (fun h => by cases h)) ?_
                refine KT.step rfl rfl (K.move rfl) ?_
                refine KT.step rfl rfl (K.call0 plainTry_24 (awake24)) ?_
                refine KT.step rfl rfl (K.pick rfl (fun _ => rfl) (fun h => by cases h)) ?_
                refine KT.step rfl rfl (K.assign rfl) ?_
                refine KT.nil ?_
                refine thenK_n ?_
                refine KC.ret ?_
                exact ⟨.inl rfl, _, rfl, rfl⟩
              · skip
                have hx : checkB m c v num den = true := by simpa using hb104
                obtain ⟨_, w1, w2, w3, _⟩ := check_parts hx
                have huq := check_uniq h0 hx
                unfold inF F40 at w1
                unfold F40 at w3
                have hm1 := mul_bd (a := 1099511627776) (b := 6) (x := num) (y := (measF m).2) (by omega) (by omega) (by omega) (by omega)
                have hm2 := mul_bd (a := 6000) (b := 1099511627776) (x := (measF m).1) (y := den) (by omega) (by omega) (by omega) (by omega)
                refine KT.step rfl rfl (K.move rfl) ?_
                refine KT.step rfl rfl (K.gtr rfl rfl) ?_
                refine KT.step rfl rfl (K.move rfl) ?_
                refine KT.bcase (fun hb107 => ?_) (fun hb107 => ?_)
                · skip
                  replace hb107 := of_decide_eq_true hb107
                  refine KT.step rfl rfl (K.move rfl) ?_
                  refine KT.step rfl rfl (K.move rfl) ?_
                  refine KT.step rfl rfl (K.mul rfl rfl (wrap_id (by omega))) ?_
                  refine KT.step rfl rfl (K.move rfl) ?_
                  refine KT.step rfl rfl (K.move rfl) ?_
                  refine KT.step rfl rfl (K.mul rfl rfl (wrap_id (by omega))) ?_
                  refine KT.step rfl rfl (K.eql rfl rfl) ?_
                  refine KT.step rfl rfl (K.pick rfl (fun _ => rfl) (fun h => by cases h)) ?_
                  refine KT.step rfl rfl (K.pick rfl (fun h => by cases h) (fun _ => rfl)) ?_
                  refine KT.step rfl rfl (K.move rfl) ?_
                  refine KT.bcase (fun hb117 => ?_) (fun hb117 => ?_)
                  · skip
                    replace hb117 := of_decide_eq_true hb117
                    refine KT.step rfl rfl (K.call0 plainTry_24 (awake24)) ?_
                    refine KT.step rfl rfl (K.pick rfl (fun _ => rfl) (fun h => by cases h)) ?_
                    refine KT.step rfl rfl (K.assign rfl) ?_
                    refine KT.nil ?_
                    refine thenK_n ?_
                    refine KC.ret ?_
                    exact ⟨.inl rfl, _, rfl, rfl⟩
                  · skip
                    exact absurd huq (of_decide_eq_false hb117)
                · skip
                  exact absurd (of_decide_eq_false hb107) (by omega)
end Go.Proofs.Ythbnnffmhnjpjaa

