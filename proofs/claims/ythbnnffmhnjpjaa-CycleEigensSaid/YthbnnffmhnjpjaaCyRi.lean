import Derived.Test.YthbnnffmhnjpjaaCyEg
import Derived.Test.YthbnnffmhnjpjaaCyRg
import Derived.Test.YthbnnffmhnjpjaaCyK2
/-
  Times: the reference: the ways of so many different nodes.
-/
namespace Go.Proofs.Ythbnnffmhnjpjaa
open Go.Vm Go.Cy Go.RowKit

def extP (w : List Nat) (j : Nat) : List (List Nat) := ((List.range' (w.headD 0 + 1) (j - (w.headD 0 + 1))).filter fun z => !w.contains z).map fun z => w ++ [z]
def usedB (w : List Nat) (j q : Nat) : Bool := (w.take q).contains j
theorem usedB_succ {w : List Nat} {j q : Nat} (h : q < (cI w).length) : usedB w j (q + 1) = (usedB w j q || decide ((cI w)[q] = ((j : Nat) : Int))) := by
  have h' : q < w.length := by rwa [cI_len] at h
  have e : (cI w)[q] = ((w[q] : Nat) : Int) := by simp [cI]
  unfold usedB
  rw [List.take_succ_eq_append_getElem h', e]
  generalize List.take q w = l
  generalize w[q] = y
  by_cases k : y = j
  · subst k; simp
  · have k2 : ¬ j = y := fun e => k e.symm
    have k3 : ¬ ((y : Nat) : Int) = ((j : Nat) : Int) := by omega
    simp [k2, k3]
theorem extP_succ {w : List Nat} {j : Nat} (h : w.headD 0 + 1 ≤ j) : extP w (j + 1) = extP w j ++ if usedB w j w.length then [] else [w ++ [j]] := by
  unfold extP usedB
  rw [show j + 1 - (w.headD 0 + 1) = (j - (w.headD 0 + 1)) + 1 by omega, List.range'_concat, List.filter_append, List.map_append, List.take_length, show w.headD 0 + 1 + 1 * (j - (w.headD 0 + 1)) = j by omega]
  congr 1
  rw [List.filter_cons, List.filter_nil]
  cases hc : w.contains j <;> simp only [Bool.not_false, Bool.not_true, if_true, if_false, Bool.false_eq_true, List.map_cons, List.map_nil]
theorem extP_zero {w : List Nat} : extP w (w.headD 0 + 1) = [] := by simp [extP]
theorem extN_step {n s : Nat} : extN n (s + 2) = (extN n (s + 1)).flatMap fun w => extP w n := rfl
theorem take_flat {E : List (List Nat)} {n i : Nat} (h : i < E.length) : ((E.take (i + 1)).flatMap fun w => extP w n) = ((E.take i).flatMap fun w => extP w n) ++ extP E[i] n := by
  rw [List.take_succ_eq_append_getElem h, List.flatMap_append]; simp
theorem wbytes3 : bytesT Try.prog 3 ≤ 65536 := of_decide_eq_true (by kernel_rfl)
theorem wcells3 : (zeroT Try.prog 3).map (·.cells.size) = some 1 := by kernel_rfl
abbrev nc (l : List Nat) : List XV := l.map fun x => .d (DI (x : Nat))
theorem wayD_two {w : List Nat} {j : Nat} (h : 1 ≤ w.length) : wayD (w ++ [j]) = .sl ((w ++ [j]).map fun x => DI (x : Nat)) (w.length + 1) none := by
  unfold wayD
  rw [if_neg (by rw [List.length_append]; simp only [List.length_cons, List.length_nil]; omega), List.length_append]; rfl
set_option maxRecDepth 10000 in
theorem extended102_one {n : Nat} (hn : n ≤ 6) : DeepCall Try.prog 102 [DI (n : Nat), DI 1] (waysD (extN n 1)) := by
  refine deepCall_K 5 Try.func102 rfl (Nat.le_of_ble_eq_true rfl) fun M W0 => ?_
  refine KC.seq ?_
  refine KC.region ?_
  refine KT.step rfl rfl (K.assign rfl) ?_
  refine KT.nil ?_
  refine thenK_n ?_
  refine KC.seq ?_
  refine KC.region ?_
  refine KT.step rfl rfl (K.assign rfl) ?_
  refine KT.nil ?_
  refine thenK_n ?_
  refine KC.seq ?_
  refine KC.seq ?_
  refine KC.region ?_
  refine KT.step rfl rfl (K.move rfl) ?_
  refine KT.step rfl rfl (K.eql rfl rfl) ?_
  refine KT.nil ?_
  refine thenK_n ?_
  refine KC.cond rfl (fun hc14 => ?_) (fun hc14 => ?_)
  · skip
    replace hc14 := of_decide_eq_true hc14
    refine KC.seq ?_
    refine KC.seq ?_
    refine KC.region ?_
    refine KT.step rfl rfl (K.move rfl) ?_
    refine KT.step rfl rfl (K.move rfl) ?_
    refine KT.nil ?_
    refine thenK_n ?_
    refine KC.block ?_
    refine KC.loop (fun p : List VObj × XV × Nat => p.1) (fun p => [(5, p.2.1), (15, .d (DI (n : Nat))), (16, .d (DI (p.2.2 : Nat)))]) (fun p => p.2.2 ≤ n ∧ OwnK 1 p.1 p.2.1 (wcells ((List.range p.2.2).map fun z => [z])) ∧ (p.2.2 = 0 → p.2.1 = .d Dnil)) (fun p => n - p.2.2) ([], .d Dnil, 0) ⟨Nat.zero_le _, .nil, fun _ => rfl⟩ rfl (by simp [Go.Vm.look, extK, enterK]) ?_
    intro p hp
    obtain ⟨σ, x, i⟩ := p
    obtain ⟨hi, hx, hxn⟩ := hp
    simp only at hi hx hxn ⊢
    refine KC.seq ?_
    refine KC.region ?_
    refine KT.step rfl rfl (K.lss rfl rfl) ?_
    refine KT.nil ?_
    refine thenK_n ?_
    refine KC.seq ?_
    refine KC.cond rfl (fun hc17 => ?_) (fun hc17 => ?_)
    · skip
      replace hc17 := of_decide_eq_true hc17
      refine KC.skip ?_
      refine thenK_n ?_
      refine KC.seq ?_
      refine KC.block ?_
      refine KC.seq ?_
      refine KC.region ?_
      refine KT.step rfl rfl (K.move rfl) ?_
      refine KT.step rfl rfl (K.assign rfl) ?_
      refine KT.nil ?_
      refine thenK_n ?_
      refine KC.region ?_
      refine KT.step rfl rfl (K.move rfl) ?_
      refine KT.step rfl rfl (K.move rfl) ?_
      refine KT.step rfl rfl (K.build1' (v := .d (DI (i : Nat))) rfl rfl Try.underlying33 Try.one3) ?_
      refine KT.step rfl rfl (K.build1' (v := .osl σ.length 0 1 1 1 true) rfl rfl Try.underlying22 Try.one33) ?_
      refine KT.appK (k := 1) (vs := [.osl σ.length 0 1 1 1 true]) rfl rfl rfl rfl ((hx.pushed _).pushed _) (List.getElem?_concat_length ..) rfl rfl (by simp; omega) Try.underlying22 Try.size33 wbytes33 wcells33 (by omega) fun σ1 y1 ho1 k1 w1 => ?_
      refine KT.step rfl rfl (K.assign rfl) ?_
      refine KT.nil ?_
      refine blockK_n ?_
      refine thenK_n ?_
      refine KC.tell (ds := [DI (i : Nat)]) ho1 ?_ rfl ?_ fun σ2 ho2 => ?_
      · rw [k1 _ (fun e => by have := hx.lt e; omega) (by simp), List.getElem?_append_left (by simp), List.getElem?_concat_length]; rfl
      · obtain ⟨j1, e1, l1⟩ := w1
        rw [e1]; intro e; cases e; simp at l1; omega
      rw [show wcells ((List.range i).map fun z => [z]) ++ [.d (.sl [DI (i : Nat)] 1 (if true then some 1 else none))] = wcells ((List.range (i + 1)).map fun z => [z]) by rw [List.range_succ]; simp [wayD]] at ho2
      refine KC.region ?_
      refine KT.step rfl rfl (K.add rfl rfl (wrap_id (by omega))) ?_
      refine KT.step rfl rfl (K.move rfl) ?_
      refine KT.nil ?_
      refine thenK_n ?_
      exact ⟨(σ2, y1, i + 1), ⟨by simp only; omega, ho2, fun h => by simp at h⟩, by simp only; omega, rfl, by simp [Go.Vm.look, extK]⟩
    · skip
      replace hc17 := of_decide_eq_false hc17
      refine KC.exit ?_
      refine thenK_x ?_
      refine thenK_x ?_
      refine blockK_e ?_
      refine thenK_n ?_
      refine KC.seq ?_
      refine KC.region ?_
      refine KT.step rfl rfl (K.move rfl) ?_
      refine KT.step rfl rfl (K.assign rfl) ?_
      refine KT.nil ?_
      refine thenK_n ?_
      refine KC.ret ?_
      refine thenK_r ?_
      obtain rfl : i = n := by omega
      exact ⟨.inl rfl, _, rfl, wcells_fin (k := 3) hx fun h => hxn (by have := congrArg List.length (show (List.range _).map (fun z => [z]) = [] from h); simpa using this)⟩
  · skip
    exact absurd hc14 (by decide)
set_option maxHeartbeats 1600000 in
set_option maxRecDepth 10000 in
theorem extended102_step {n s : Nat} (hn : n ≤ 6) (hs : s + 1 < 6) (hprev : DeepCall Try.prog 102 [DI (n : Nat), DI ((s + 1 : Nat) : Int)] (waysD (extN n (s + 1)))) : DeepCall Try.prog 102 [DI (n : Nat), DI ((s + 2 : Nat) : Int)] (waysD (extN n (s + 2))) := by
  refine deepCall_K 5 Try.func102 rfl (Nat.le_of_ble_eq_true rfl) fun M W0 => ?_
  refine KC.seq ?_
  refine KC.region ?_
  refine KT.step rfl rfl (K.assign rfl) ?_
  refine KT.nil ?_
  refine thenK_n ?_
  refine KC.seq ?_
  refine KC.region ?_
  refine KT.step rfl rfl (K.assign rfl) ?_
  refine KT.nil ?_
  refine thenK_n ?_
  refine KC.seq ?_
  refine KC.seq ?_
  refine KC.region ?_
  refine KT.step rfl rfl (K.move rfl) ?_
  refine KT.step rfl rfl (K.eql rfl rfl) ?_
  refine KT.nil ?_
  refine thenK_n ?_
  refine KC.cond rfl (fun hc14 => ?_) (fun hc14 => ?_)
  · skip
    exact absurd (of_decide_eq_true hc14) (by omega)
  · skip
    replace hc14 := of_decide_eq_false hc14
    refine KC.skip ?_
    refine thenK_n ?_
    refine KC.seq ?_
    refine KC.seq ?_
    refine KC.region ?_
    refine KT.step rfl rfl (K.move rfl) ?_
    refine KT.step rfl rfl (K.move rfl) ?_
    refine KT.step rfl rfl (K.sub rfl rfl (show IntKind.i64.wrap (((s + 2 : Nat) : Int) - 1) = ((s + 1 : Nat) : Int) from (wrap_id (by omega)).trans (by omega))) ?_
    refine KT.step rfl rfl (K.call2 rfl rfl plainTry_102 (hprev)) ?_
    refine KT.step rfl rfl (K.len rfl (waysD_vec (extN n (s + 1))) Try.underlying22) ?_
    refine KT.step rfl rfl (K.move rfl) ?_
    refine KT.nil ?_
    refine thenK_n ?_
    refine KC.block ?_
    have hE := extN_len6 hn (show s < 6 by omega)
    refine KC.loop (fun p : List VObj × XV × Nat => p.1) (fun p => [(0, .d (DI (n : Nat))), (5, p.2.1), (29, .d (waysD (extN n (s + 1)))), (30, .d (DI ((extN n (s + 1)).length : Nat))), (31, .d (DI (p.2.2 : Nat)))]) (fun p => p.2.2 ≤ (extN n (s + 1)).length ∧ OwnK 1 p.1 p.2.1 (wcells (((extN n (s + 1)).take p.2.2).flatMap fun w => extP w n)) ∧ ((((extN n (s + 1)).take p.2.2).flatMap fun w => extP w n) = [] → p.2.1 = .d Dnil)) (fun p => (extN n (s + 1)).length - p.2.2) ([], .d Dnil, 0) ⟨Nat.zero_le _, .nil, fun _ => rfl⟩ rfl (by simp [Go.Vm.look, extK, enterK]) ?_
    intro p hp
    obtain ⟨σ, x, i⟩ := p
    obtain ⟨hi, hx, hxn⟩ := hp
    simp only at hi hx hxn ⊢
    refine KC.seq ?_
    refine KC.region ?_
    refine KT.step rfl rfl (K.lss rfl rfl) ?_
    refine KT.nil ?_
    refine thenK_n ?_
    refine KC.seq ?_
    refine KC.cond rfl (fun hc32 => ?_) (fun hc32 => ?_)
    · skip
      replace hc32 := of_decide_eq_true hc32
      refine KC.skip ?_
      refine thenK_n ?_
      refine KC.seq ?_
      refine KC.block ?_
      refine KC.seq ?_
      refine KC.region ?_
      refine KT.idx rfl rfl rfl (waysD_vec (extN n (s + 1))) rfl (by omega) Try.underlying22 Try.size33 fun c33 cs33 hq33 => ?_
      subst hq33
      have hmem := List.getElem_mem (l := (extN n (s + 1))) (n := i) (by omega)
      obtain ⟨w, hwE⟩ : ∃ w, (extN n (s + 1))[i] = w := ⟨_, rfl⟩
      rw [hwE] at hmem ⊢
      obtain ⟨wl, wd, wn, wt⟩ := (mem_extN s w).1 hmem
      obtain ⟨x0, hx0⟩ : ∃ x0, w.headD 0 = x0 := ⟨_, rfl⟩
      have hx0n : x0 < n := by
        rw [← hx0]
        cases w with
        | nil => cases wl
        | cons y r => exact wn y (by simp)
      have hw0 : ∀ h : 0 < (cI w).length, (cI w)[0] = ((x0 : Nat) : Int) := fun h => by
        rw [← hx0]
        cases w with
        | nil => cases wl
        | cons y r => rfl
      have etk : ((w.map fun x => DI (x : Nat)).take w.length).map XV.d = nc w := by rw [List.take_of_length_le (by simp)]; simp [nc]
      refine KT.step rfl rfl (K.load rfl Try.agg33) ?_
      refine KT.step rfl rfl (K.assign rfl) ?_
      refine KT.nil ?_
      refine thenK_n ?_
      refine KC.seq ?_
      refine KC.region ?_
      refine KT.step rfl rfl (K.move rfl) ?_
      refine KT.idxI (m := 0) rfl rfl rfl (wayD_ints w) rfl (by rw [cI_len]; omega) Try.underlying33 Try.size3 fun cs36 => ?_
      refine KT.step rfl rfl (K.load rfl Try.agg3) ?_
      refine KT.step rfl rfl (K.add rfl rfl (show IntKind.i64.wrap ((cI w)[0]'(by rw [cI_len]; omega) + 1) = ((x0 + 1 : Nat) : Int) from by rw [hw0]; exact wrap_id (by omega))) ?_
      refine KT.step rfl rfl (K.assign rfl) ?_
      refine KT.nil ?_
      refine thenK_n ?_
      refine KC.block ?_
      have hb0 : ∀ j, j ≤ n → ((((extN n (s + 1)).take i).flatMap fun w => extP w n) ++ extP w j).length ≤ 300000 := fun j hj => by
        have b1 := extN_len6 hn (show s < 6 by omega)
        have b2 := flat_le (b := 6) (f := fun w => extP w n) ((extN n (s + 1)).take i) fun w _ => by
          unfold extP
          rw [List.length_map]
          refine Nat.le_trans (List.length_filter_le _ _) ?_
          rw [List.length_range']; omega
        have b3 : (extP w j).length ≤ 6 := by
          unfold extP
          rw [List.length_map]
          refine Nat.le_trans (List.length_filter_le _ _) ?_
          rw [List.length_range']; omega
        have b4 := List.length_take_le' i (extN n (s + 1))
        rw [List.length_append]; omega
      refine KC.loop (fun p : List VObj × XV × Nat => p.1) (fun p => [(0, .d (DI (n : Nat))), (5, p.2.1), (8, .d (wayD w)), (9, .d (DI (p.2.2 : Nat))), (29, .d (waysD (extN n (s + 1)))), (30, .d (DI ((extN n (s + 1)).length : Nat))), (31, .d (DI (i : Nat)))]) (fun p => (x0 + 1 ≤ p.2.2 ∧ p.2.2 ≤ n) ∧ OwnK 1 p.1 p.2.1 (wcells ((((extN n (s + 1)).take i).flatMap fun w => extP w n) ++ extP w p.2.2)) ∧ (((((extN n (s + 1)).take i).flatMap fun w => extP w n) ++ extP w p.2.2) = [] → p.2.1 = .d Dnil)) (fun p => n - p.2.2) (σ, x, x0 + 1) ⟨⟨Nat.le_refl _, hx0n⟩, by simp only; rw [← hx0, extP_zero, List.append_nil]; exact hx, by simp only; rw [← hx0, extP_zero, List.append_nil]; exact hxn⟩ rfl (by simp [Go.Vm.look, extK]) ?_
      intro p hp
      obtain ⟨σ0, y, j⟩ := p
      obtain ⟨⟨hj1, hj⟩, hy, hyn⟩ := hp
      simp only at hj1 hj hy hyn ⊢
      have hb1 := hb0 j hj
      refine KC.seq ?_
      refine KC.seq ?_
      refine KC.region ?_
      refine KT.step rfl rfl (K.move rfl) ?_
      refine KT.step rfl rfl (K.move rfl) ?_
      refine KT.step rfl rfl (K.lss rfl rfl) ?_
      refine KT.nil ?_
      refine thenK_n ?_
      refine KC.cond rfl (fun hc41 => ?_) (fun hc41 => ?_)
      · skip
        replace hc41 := of_decide_eq_true hc41
        refine KC.skip ?_
        refine thenK_n ?_
        refine KC.seq ?_
        refine KC.block ?_
        refine KC.seq ?_
        refine KC.region ?_
        refine KT.step rfl rfl (K.assign rfl) ?_
        refine KT.nil ?_
        refine thenK_n ?_
        refine KC.seq ?_
        refine KC.seq ?_
        refine KC.region ?_
        refine KT.step rfl rfl (K.move rfl) ?_
        refine KT.step rfl rfl (K.len rfl (wayD_ints w) Try.underlying33) ?_
        rw [cI_len]
        refine KT.step rfl rfl (K.move rfl) ?_
        refine KT.nil ?_
        refine thenK_n ?_
        refine KC.block ?_
        refine KC.loop (fun _ : Nat => σ0) (fun q => [(0, .d (DI (n : Nat))), (5, y), (8, .d (wayD w)), (9, .d (DI (j : Nat))), (29, .d (waysD (extN n (s + 1)))), (30, .d (DI ((extN n (s + 1)).length : Nat))), (31, .d (DI (i : Nat))), (10, .d (DB (usedB w j q))), (44, .d (wayD w)), (45, .d (DI (w.length : Nat))), (46, .d (DI (q : Nat)))]) (fun q => q ≤ w.length) (fun q => w.length - q) 0 (Nat.zero_le _) rfl (by simp [Go.Vm.look, extK, usedB]) ?_
        intro q hq
        refine KC.seq ?_
        refine KC.region ?_
        refine KT.step rfl rfl (K.lss rfl rfl) ?_
        refine KT.nil ?_
        refine thenK_n ?_
        refine KC.seq ?_
        refine KC.cond rfl (fun hc47 => ?_) (fun hc47 => ?_)
        · skip
          replace hc47 := of_decide_eq_true hc47
          refine KC.skip ?_
          refine thenK_n ?_
          refine KC.seq ?_
          refine KC.block ?_
          refine KC.seq ?_
          refine KC.region ?_
          refine KT.idxI rfl rfl rfl (wayD_ints w) rfl (by rw [cI_len]; omega) Try.underlying33 Try.size3 fun cs48 => ?_
          refine KT.step rfl rfl (K.load rfl Try.agg3) ?_
          refine KT.step rfl rfl (K.assign rfl) ?_
          refine KT.nil ?_
          refine thenK_n ?_
          refine KC.region ?_
          refine KT.step rfl rfl (K.move rfl) ?_
          refine KT.step rfl rfl (K.move rfl) ?_
          refine KT.bcase (fun hb51 => ?_) (fun hb51 => ?_)
          · skip
            refine KT.skip rfl rfl ?_
            refine KT.skip rfl rfl ?_
            refine KT.skip rfl rfl ?_
            refine KT.step rfl rfl (K.pick rfl (fun _ => rfl) (fun h => by cases h)) ?_
            refine KT.step rfl rfl (K.assign rfl) ?_
            refine KT.nil ?_
            refine blockK_n ?_
            refine thenK_n ?_
            refine KC.region ?_
            refine KT.step rfl rfl (K.add rfl rfl (wrap_id (by omega))) ?_
            refine KT.step rfl rfl (K.move rfl) ?_
            refine KT.nil ?_
            refine thenK_n ?_
            have hst := usedB_succ (w := w) (j := j) (q := q) (by rw [cI_len]; omega)
            rw [hb51] at hst
            simp only [Bool.true_or] at hst
            exact ⟨q + 1, by omega, by omega, rfl, by rw [hst]; simp [Go.Vm.look, extK]⟩
          · skip
            refine KT.step rfl rfl (K.move rfl) ?_
            refine KT.step rfl rfl (K.move rfl) ?_
            refine KT.step rfl rfl (K.eql rfl rfl) ?_
            refine KT.step rfl rfl (K.pick rfl (fun h => by cases h) (fun _ => rfl)) ?_
            refine KT.step rfl rfl (K.assign rfl) ?_
            refine KT.nil ?_
            refine blockK_n ?_
            refine thenK_n ?_
            refine KC.region ?_
            refine KT.step rfl rfl (K.add rfl rfl (wrap_id (by omega))) ?_
            refine KT.step rfl rfl (K.move rfl) ?_
            refine KT.nil ?_
            refine thenK_n ?_
            have hst := usedB_succ (w := w) (j := j) (q := q) (by rw [cI_len]; omega)
            rw [hb51] at hst
            simp only [Bool.false_or] at hst
            exact ⟨q + 1, by omega, by omega, rfl, by rw [hst]; simp [Go.Vm.look, extK]⟩
        · skip
          replace hc47 := of_decide_eq_false hc47
          refine KC.exit ?_
          refine thenK_x ?_
          refine thenK_x ?_
          refine blockK_e ?_
          refine thenK_n ?_
          refine KC.seq ?_
          refine KC.region ?_
          refine KT.step rfl rfl (K.move rfl) ?_
          refine KT.step rfl rfl (K.not rfl) ?_
          refine KT.nil ?_
          refine thenK_n ?_
          refine KC.cond rfl (fun hc58 => ?_) (fun hc58 => ?_)
          · skip
            obtain rfl : q = w.length := by omega
            have hu : usedB w j w.length = false := by rw [Bool.not_eq_true'] at hc58; exact hc58
            refine KC.region ?_
            refine KT.step rfl rfl (K.move rfl) ?_
            refine KT.step rfl rfl (K.build0 Try.underlying33 Try.one3) ?_
            refine KT.step rfl rfl (K.move rfl) ?_
            refine KT.step rfl rfl (K.appAll (cs := w.map fun x => DI (x : Nat)) (len := w.length) rfl rfl (List.getElem?_concat_length ..) (by simp) (by rw [etk]; simp [oneX, Value.oneCell']) (by omega) (by omega) Try.underlying33 Try.one3) ?_
            rw [etk]
            refine KT.step rfl rfl (K.move rfl) ?_
            refine KT.step rfl rfl (K.build1' (v := .d (DI (j : Nat))) rfl rfl Try.underlying33 Try.one3) ?_
            refine KT.appK (k := 1) (vs := [.d (DI (j : Nat))]) rfl rfl rfl rfl ((OwnK.sl (List.getElem?_concat_length ..) (by simp)).pushed _) (List.getElem?_concat_length ..) rfl rfl (by rw [List.length_map]; omega) Try.underlying33 Try.size3 wbytes3 wcells3 (by omega) fun σ2 y2 ho2 k2 w2 => ?_
            obtain ⟨r2, hr2, yr2⟩ := own_sl ho2
            obtain ⟨j2, e2, l2⟩ := w2
            subst hr2
            cases e2
            rw [show (nc w).length = w.length from List.length_map ..] at ho2 ⊢
            have hy2 := (((hy.pushed ⟨[], 0⟩).pushed ⟨nc w, 0⟩).pushed ⟨[.d (DI (j : Nat))], 0⟩).keep (σ' := σ2) fun j hj => k2 j (by have := hy.lt hj; simp [idX]; omega) (by have := hy.lt hj; simp; omega)
            refine KT.step rfl rfl (K.build1' (v := .osl r2 0 (w.length + 1) 1 (w.length + 1) false) rfl rfl Try.underlying22 Try.one33) ?_
            refine KT.appK (k := 1) (vs := [.osl r2 0 (w.length + 1) 1 (w.length + 1) false]) rfl rfl rfl rfl (hy2.pushed _) (List.getElem?_concat_length ..) rfl rfl (by rw [List.length_map]; omega) Try.underlying22 Try.size33 wbytes33 wcells33 (by omega) fun σ3 y3 ho3 k3 w3 => ?_
            refine KT.step rfl rfl (K.assign rfl) ?_
            refine KT.nil ?_
            refine blockK_n ?_
            refine thenK_n ?_
            refine KC.tell (ds := (w ++ [j]).map fun x => DI (x : Nat)) ho3 ?_ (by simp) ?_ fun σ4 ho4 => ?_
            · have hlt := (List.getElem?_eq_some_iff.1 yr2).1
              rw [k3 _ (fun e => by have := hy.lt e; simp at l2; omega) (by simp; omega), List.getElem?_append_left hlt, yr2]; simp [nc]
            · have hlt := (List.getElem?_eq_some_iff.1 yr2).1
              obtain ⟨j1, e1, l1⟩ := w3
              rw [e1]; intro e; cases e; simp at l1; omega
            rw [show (if (false : Bool) = true then some (w.length + 1) else none) = (none : Option Nat) from rfl, ← wayD_two (by omega)] at ho4
            refine KC.region ?_
            refine KT.step rfl rfl (K.move rfl) ?_
            refine KT.step rfl rfl (K.add rfl rfl (wrap_id (by omega))) ?_
            refine KT.step rfl rfl (K.assign rfl) ?_
            refine KT.nil ?_
            refine thenK_n ?_
            refine ⟨(σ4, y3, j + 1), ⟨by simp only; omega, ?_, ?_⟩, by simp only; omega, rfl, by simp [Go.Vm.look, extK]⟩
            · rw [extP_succ (by omega), hu, if_neg (by decide), ← List.append_assoc]
              simpa [List.map_append] using ho4
            · rw [extP_succ (by omega), hu, if_neg (by decide)]; intro h; simp at h
          · skip
            obtain rfl : q = w.length := by omega
            have hu : usedB w j w.length = true := by rw [Bool.not_eq_false'] at hc58; exact hc58
            refine KC.skip ?_
            refine blockK_n ?_
            refine thenK_n ?_
            refine KC.region ?_
            refine KT.step rfl rfl (K.move rfl) ?_
            refine KT.step rfl rfl (K.add rfl rfl (wrap_id (by omega))) ?_
            refine KT.step rfl rfl (K.assign rfl) ?_
            refine KT.nil ?_
            refine thenK_n ?_
            refine ⟨(σ0, y, j + 1), ⟨by simp only; omega, ?_, ?_⟩, by simp only; omega, rfl, by simp [Go.Vm.look, extK]⟩
            · rw [extP_succ (by omega), hu, if_pos rfl, List.append_nil]; exact hy
            · rw [extP_succ (by omega), hu, if_pos rfl, List.append_nil]; exact hyn
      · skip
        replace hc41 := of_decide_eq_false hc41
        refine KC.exit ?_
        refine thenK_x ?_
        refine thenK_x ?_
        refine blockK_e ?_
        refine blockK_n ?_
        refine thenK_n ?_
        refine KC.region ?_
        refine KT.step rfl rfl (K.add rfl rfl (wrap_id (by omega))) ?_
        refine KT.step rfl rfl (K.move rfl) ?_
        refine KT.nil ?_
        refine thenK_n ?_
        obtain rfl : j = n := by omega
        rw [← hwE, ← take_flat (by omega)] at hy hyn
        exact ⟨(σ0, y, i + 1), ⟨by simp only; omega, hy, hyn⟩, by simp only; omega, rfl, by simp [Go.Vm.look, extK]⟩
    · skip
      replace hc32 := of_decide_eq_false hc32
      refine KC.exit ?_
      refine thenK_x ?_
      refine thenK_x ?_
      refine blockK_e ?_
      refine thenK_n ?_
      refine KC.seq ?_
      refine KC.region ?_
      refine KT.step rfl rfl (K.move rfl) ?_
      refine KT.step rfl rfl (K.assign rfl) ?_
      refine KT.nil ?_
      refine thenK_n ?_
      refine KC.ret ?_
      obtain rfl : i = (extN n (s + 1)).length := by omega
      rw [List.take_length, ← extN_step] at hx hxn
      exact ⟨.inl rfl, _, rfl, wcells_fin (k := 3) hx hxn⟩

theorem extended102 {n : Nat} (hn : n ≤ 6) : ∀ s, s < 6 → DeepCall Try.prog 102 [DI (n : Nat), DI ((s + 1 : Nat) : Int)] (waysD (extN n (s + 1)))
  | 0, _ => extended102_one hn
  | s + 1, hs => extended102_step hn hs (extended102 hn s (by omega))
end Go.Proofs.Ythbnnffmhnjpjaa

