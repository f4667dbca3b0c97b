/-
  The law NetSiphons: Siphons and Trap of the program return what the reference says.
-/
import Derived.Test.YtnhcippeejldiaaNetL
namespace Go.Proofs.Ytnhcippeejldiaa
open Go.Vm
theorem sipD_cp (pre post : List (List Int)) (start : List Int) : sipD (cp pre) (cp post) (start.take 8) = sipD pre post start := by
  by_cases h : validB pre post start = true
  · obtain ⟨e1, e2, e3⟩ := valid_cp (.inl h)
    rw [e1, e2, e3]
  · have h2 := h
    rw [← validB_cp] at h2
    unfold sipD
    rw [if_neg h, if_neg h2]
theorem trapD_cp (pre post : List (List Int)) (start : List Int) (set : Int) : trapD (cp pre) (cp post) (start.take 8) set = trapD pre post start set := by
  by_cases h : validB pre post start = true
  · obtain ⟨e1, e2, e3⟩ := valid_cp (.inl h)
    rw [e1, e2, e3]
  · have h2 := h
    rw [← validB_cp] at h2
    unfold trapD
    rw [if_neg (fun e => h2 (by simp only [okTrap, Bool.and_eq_true] at e; exact e.1)), if_neg (fun e => h (by simp only [okTrap, Bool.and_eq_true] at e; exact e.1))]
theorem slNat_ints (l : List Nat) : Ints (slOf (l.map fun n => DI (n : Nat))) (natsI l) := by
  cases l with
  | nil => exact .nil
  | cons a l =>
    have : Ints (.sl ((a :: l).map fun n => DI (n : Nat)) (natsI (a :: l)).length none) (natsI (a :: l)) := .sl (by simp [natsI]) fun i c x hc hx => by
      unfold natsI at hx
      rw [List.getElem?_map] at hc hx
      cases hi : (a :: l)[i]? with
      | none => rw [hi] at hc; cases hc
      | some k => rw [hi] at hc hx; simp at hc hx; subst hc hx; rfl
    have e : (natsI (a :: l)).length = ((a :: l).map fun n => DI (n : Nat)).length := by simp [natsI]
    rw [e] at this
    exact this
set_option maxRecDepth 10000 in
theorem lawN_no {a b c : DV} {pre post : List (List Int)} {start : List Int} {set : Int} (h : NetD a b c pre post start) (hv : validB pre post start = false) : DeepCall Try.prog 8 [.agg [a, b, c], DI set] (DB true) := by
  have c1 := Siphons39 h.cp
  have c2 := Trap40 (set := set) h.cp
  rw [sipD_cp] at c1
  rw [trapD_cp] at c2
  have c3 := rvalid20 h
  rw [hv] at c3
  rw [show sipD pre post start = .tup [Dnil, DI 2] by unfold sipD; rw [if_neg (by simp [hv])]] at c1
  rw [show trapD pre post start set = .tup [DI 0, DI 2] by unfold trapD; rw [if_neg (by unfold okTrap; simp [hv])]] at c2
  refine deepCall_K 5 Try.func8 rfl (Nat.le_of_ble_eq_true rfl) fun M W0 => ?_
  refine KC.seq ?_
  refine KC.region ?_
  refine KT.step rfl rfl (K.box rfl) ?_
  refine KT.step rfl rfl (K.assign rfl) ?_
  refine KT.nil ?_
  refine thenK_n ?_
  refine KC.seq ?_
  refine KC.region ?_
  refine KT.step rfl rfl (K.loadOAgg (m := 3) rfl rfl (by simp) Try.agg25 Try.size25 (by simp [cellsX])) ?_
  refine KT.step rfl rfl (K.call1 rfl plainTry_16 (of16 h)) ?_
  refine KT.step rfl rfl (K.call1 rfl plainTry_39 (c1)) ?_
  refine KT.step rfl rfl (K.move rfl) ?_
  refine KT.step rfl rfl (K.extract rfl rfl) ?_
  refine KT.step rfl rfl (K.extract rfl rfl) ?_
  refine KT.step rfl rfl (K.assign rfl) ?_
  refine KT.step rfl rfl (K.assign rfl) ?_
  refine KT.nil ?_
  refine thenK_n ?_
  refine KC.seq ?_
  refine KC.region ?_
  refine KT.step rfl rfl (K.loadOAgg (m := 3) rfl rfl (by simp) Try.agg25 Try.size25 (by simp [cellsX])) ?_
  refine KT.step rfl rfl (K.call1 rfl plainTry_16 (of16 h)) ?_
  refine KT.step rfl rfl (K.move rfl) ?_
  refine KT.step rfl rfl (K.call2 rfl rfl plainTry_40 (c2)) ?_
  refine KT.step rfl rfl (K.move rfl) ?_
  refine KT.step rfl rfl (K.extract rfl rfl) ?_
  refine KT.step rfl rfl (K.extract rfl rfl) ?_
  refine KT.step rfl rfl (K.assign rfl) ?_
  refine KT.step rfl rfl (K.assign rfl) ?_
  refine KT.nil ?_
  refine thenK_n ?_
  refine KC.seq ?_
  refine KC.seq ?_
  refine KC.region ?_
  refine KT.step rfl rfl (K.loadOAgg (m := 3) rfl rfl (by simp) Try.agg25 Try.size25 (by simp [cellsX])) ?_
  refine KT.step rfl rfl (K.call1 rfl plainTry_20 (c3)) ?_
  refine KT.step rfl rfl (K.not rfl) ?_
  refine KT.nil ?_
  refine thenK_n ?_
  refine KC.cond rfl (fun hc24 => ?_) (fun hc24 => ?_)
  · skip
    refine KC.seq ?_
    refine KC.region ?_
    refine KT.step rfl rfl (K.move rfl) ?_
    refine KT.step rfl rfl (K.len (l := ([] : List Int)) (R := IsI) rfl .nil Try.underlying23) ?_
    refine KT.step rfl rfl (K.eql rfl rfl) ?_
    refine KT.step rfl rfl (K.move rfl) ?_
    refine KT.bcase (fun hb28 => ?_) (fun hb28 => ?_)
    · skip
      refine KT.step rfl rfl (K.move rfl) ?_
      refine KT.step rfl rfl (K.eql rfl rfl) ?_
      refine KT.step rfl rfl (K.pick rfl (fun _ => rfl) (fun h => by cases h)) ?_
      refine KT.step rfl rfl (K.move rfl) ?_
      refine KT.bcase (fun hb32 => ?_) (fun hb32 => ?_)
      · skip
        refine KT.step rfl rfl (K.move rfl) ?_
        refine KT.step rfl rfl (K.eql rfl rfl) ?_
        refine KT.step rfl rfl (K.pick rfl (fun _ => rfl) (fun h => by cases h)) ?_
        refine KT.step rfl rfl (K.move rfl) ?_
        refine KT.bcase (fun hb36 => ?_) (fun hb36 => ?_)
        · skip
          refine KT.step rfl rfl (K.move rfl) ?_
          refine KT.step rfl rfl (K.eql rfl rfl) ?_
          refine KT.step rfl rfl (K.pick rfl (fun _ => rfl) (fun h => by cases h)) ?_
          refine KT.step rfl rfl (K.move rfl) ?_
          refine KT.bcase (fun hb40 => ?_) (fun hb40 => ?_)
          · skip
            refine KT.step rfl rfl (K.call0 plainTry_22 (awake22)) ?_
            refine KT.step rfl rfl (K.pick rfl (fun _ => rfl) (fun h => by cases h)) ?_
            refine KT.step rfl rfl (K.assign rfl) ?_
            refine KT.nil ?_
            refine thenK_n ?_
            refine KC.ret ?_
            refine thenK_r ?_
            exact ⟨.inl rfl, _, rfl, fin_d rfl⟩
          · skip
            simp at hb40
        · skip
          simp at hb36
      · skip
        simp at hb32
    · skip
      simp at hb28
  · skip
    simp at hc24
set_option maxRecDepth 10000 in
theorem lawN_yes {a b c : DV} {pre post : List (List Int)} {start : List Int} {set : Int} (h : NetD a b c pre post start) (hv : validB pre post start = true) : DeepCall Try.prog 8 [.agg [a, b, c], DI set] (DB true) := by
  obtain ⟨v1, v2, v3, v4, v5, v6, v7, v8⟩ := validB_iff.1 hv
  have hp6 := pow6 v2
  have hc0 := h.hc
  have c4 := rSiphons41 h.ha h.hb h.hc v2 v6 v5 (good_of v7 v2) (good_of v8 v2)
  rw [refL_sipL] at c4
  have hin := slNat_ints (sipL pre post (2 ^ start.length))
  have hll : (natsI (sipL pre post (2 ^ start.length))).length ≤ 9223372036854775807 := by have := sipL_len pre post (2 ^ start.length); simp [natsI]; omega
  have c1 := Siphons39 h.cp
  have c2 := Trap40 (set := set) h.cp
  rw [sipD_cp] at c1
  rw [trapD_cp] at c2
  have c3 := rvalid20 h
  rw [hv] at c3
  rw [show sipD pre post start = .tup [slOf ((sipL pre post (2 ^ start.length)).map fun n => DI (n : Nat)), DI 0] by unfold sipD; rw [if_pos hv]] at c1
  obtain ⟨w, e2, ht, hw⟩ : ∃ (w e2 : Int), trapD pre post start set = .tup [DI w, DI e2] ∧ ((okTrap pre post start set = false ∧ w = 0 ∧ e2 = 2) ∨ (okTrap pre post start set = true ∧ w = (trapR pre post set.toNat : Nat) ∧ e2 = 0)) := by
    unfold trapD
    cases ho : okTrap pre post start set with
    | true => exact ⟨_, _, rfl, .inr ⟨rfl, rfl, rfl⟩⟩
    | false => exact ⟨_, _, rfl, .inl ⟨rfl, rfl, rfl⟩⟩
  rw [ht] at c2
  unfold okTrap at hw
  rw [hv] at hw
  simp only [Bool.true_and] at hw
  refine deepCall_K 5 Try.func8 rfl (Nat.le_of_ble_eq_true rfl) fun M W0 => ?_
  refine KC.seq ?_
  refine KC.region ?_
  refine KT.step rfl rfl (K.box rfl) ?_
  refine KT.step rfl rfl (K.assign rfl) ?_
  refine KT.nil ?_
  refine thenK_n ?_
  refine KC.seq ?_
  refine KC.region ?_
  refine KT.step rfl rfl (K.loadOAgg (m := 3) rfl rfl (by simp) Try.agg25 Try.size25 (by simp [cellsX])) ?_
  refine KT.step rfl rfl (K.call1 rfl plainTry_16 (of16 h)) ?_
  refine KT.step rfl rfl (K.call1 rfl plainTry_39 (c1)) ?_
  refine KT.step rfl rfl (K.move rfl) ?_
  refine KT.step rfl rfl (K.extract rfl rfl) ?_
  refine KT.step rfl rfl (K.extract rfl rfl) ?_
  refine KT.step rfl rfl (K.assign rfl) ?_
  refine KT.step rfl rfl (K.assign rfl) ?_
  refine KT.nil ?_
  refine thenK_n ?_
  refine KC.seq ?_
  refine KC.region ?_
  refine KT.step rfl rfl (K.loadOAgg (m := 3) rfl rfl (by simp) Try.agg25 Try.size25 (by simp [cellsX])) ?_
  refine KT.step rfl rfl (K.call1 rfl plainTry_16 (of16 h)) ?_
  refine KT.step rfl rfl (K.move rfl) ?_
  refine KT.step rfl rfl (K.call2 rfl rfl plainTry_40 (c2)) ?_
  refine KT.step rfl rfl (K.move rfl) ?_
  refine KT.step rfl rfl (K.extract rfl rfl) ?_
  refine KT.step rfl rfl (K.extract rfl rfl) ?_
  refine KT.step rfl rfl (K.assign rfl) ?_
  refine KT.step rfl rfl (K.assign rfl) ?_
  refine KT.nil ?_
  refine thenK_n ?_
  refine KC.seq ?_
  refine KC.seq ?_
  refine KC.region ?_
  refine KT.step rfl rfl (K.loadOAgg (m := 3) rfl rfl (by simp) Try.agg25 Try.size25 (by simp [cellsX])) ?_
  refine KT.step rfl rfl (K.call1 rfl plainTry_20 (c3)) ?_
  refine KT.step rfl rfl (K.not rfl) ?_
  refine KT.nil ?_
  refine thenK_n ?_
  refine KC.cond rfl (fun hc24 => ?_) (fun hc24 => ?_)
  · skip
    simp at hc24
  · skip
    refine KC.skip ?_
    refine thenK_n ?_
    refine KC.seq ?_
    refine KC.seq ?_
    refine KC.region ?_
    refine KT.step rfl rfl (K.move rfl) ?_
    refine KT.step rfl rfl (K.loadOAgg (m := 3) rfl rfl (by simp) Try.agg25 Try.size25 (by simp [cellsX])) ?_
    refine KT.step rfl rfl (K.call1 rfl plainTry_41 (c4)) ?_
    refine KT.step rfl rfl (K.call2 rfl rfl plainTry_21 (equal21 hin hin hll)) ?_
    refine KT.step rfl rfl (K.not rfl) ?_
    refine KT.step rfl rfl (K.move rfl) ?_
    refine KT.bcase (fun hb48 => ?_) (fun hb48 => ?_)
    · skip
      simp at hb48
    · skip
      refine KT.step rfl rfl (K.move rfl) ?_
      refine KT.step rfl rfl (K.neq rfl rfl) ?_
      refine KT.step rfl rfl (K.pick rfl (fun h => by cases h) (fun _ => rfl)) ?_
      refine KT.nil ?_
      refine thenK_n ?_
      refine KC.cond rfl (fun hc51 => ?_) (fun hc51 => ?_)
      · skip
        simp at hc51
      · skip
        refine KC.skip ?_
        refine thenK_n ?_
        refine KC.seq ?_
        refine KC.seq ?_
        refine KC.region ?_
        refine KT.step rfl rfl (K.move rfl) ?_
        refine KT.step rfl rfl (K.lss rfl rfl) ?_
        refine KT.step rfl rfl (K.move rfl) ?_
        refine KT.bcase (fun hb54 => ?_) (fun hb54 => ?_)
        · skip
          replace hb54 := of_decide_eq_true hb54
          refine KT.skip rfl rfl ?_
          refine KT.skip rfl rfl ?_
          refine KT.skip rfl rfl ?_
          refine KT.skip rfl rfl ?_
          refine KT.skip rfl rfl ?_
          refine KT.skip rfl rfl ?_
          refine KT.step rfl rfl (K.pick rfl (fun _ => rfl) (fun h => by cases h)) ?_
          refine KT.nil ?_
          refine thenK_n ?_
          refine KC.cond rfl (fun hc61 => ?_) (fun hc61 => ?_)
          · skip
            refine KC.seq ?_
            refine KC.region ?_
            obtain ⟨rfl, rfl⟩ : w = 0 ∧ e2 = 2 := by
              rcases hw with ⟨_, h1, h2⟩ | ⟨h1, _⟩
              · exact ⟨h1, h2⟩
              · exfalso; simp only [Bool.and_eq_true, decide_eq_true_eq] at h1; omega
            refine KT.step rfl rfl (K.move rfl) ?_
            refine KT.step rfl rfl (K.eql rfl rfl) ?_
            refine KT.step rfl rfl (K.move rfl) ?_
            refine KT.bcase (fun hb64 => ?_) (fun hb64 => ?_)
            · skip
              refine KT.step rfl rfl (K.move rfl) ?_
              refine KT.step rfl rfl (K.eql rfl rfl) ?_
              refine KT.step rfl rfl (K.pick rfl (fun _ => rfl) (fun h => by cases h)) ?_
              refine KT.step rfl rfl (K.move rfl) ?_
              refine KT.bcase (fun hb68 => ?_) (fun hb68 => ?_)
              · skip
                refine KT.step rfl rfl (K.call0 plainTry_22 (awake22)) ?_
                refine KT.step rfl rfl (K.pick rfl (fun _ => rfl) (fun h => by cases h)) ?_
                refine KT.step rfl rfl (K.assign rfl) ?_
                refine KT.nil ?_
                refine thenK_n ?_
                refine KC.ret ?_
                refine thenK_r ?_
                exact ⟨.inl rfl, _, rfl, fin_d rfl⟩
              · skip
                simp at hb68
            · skip
              simp at hb64
          · cases hc61
        · skip
          replace hb54 := of_decide_eq_false hb54
          refine KT.step rfl rfl (K.move rfl) ?_
          refine KT.step rfl rfl (K.fieldAddrO rfl Try.fld25_2 Try.size23) ?_
          refine KT.step rfl rfl (K.loadO rfl rfl (by simp) rfl Try.agg23) ?_
          refine KT.step rfl rfl (K.len (l := start) rfl hc0 Try.underlying23) ?_
          refine KT.step rfl rfl (K.shl rfl rfl (by omega) (shlI (by omega))) ?_
          refine KT.step rfl rfl (K.geq rfl rfl) ?_
          refine KT.step rfl rfl (K.pick rfl (fun h => by cases h) (fun _ => rfl)) ?_
          refine KT.nil ?_
          refine thenK_n ?_
          refine KC.cond rfl (fun hc61 => ?_) (fun hc61 => ?_)
          · skip
            replace hc61 := of_decide_eq_true hc61
            refine KC.seq ?_
            refine KC.region ?_
            obtain ⟨rfl, rfl⟩ : w = 0 ∧ e2 = 2 := by
              rcases hw with ⟨_, h1, h2⟩ | ⟨h1, _⟩
              · exact ⟨h1, h2⟩
              · exfalso; simp only [Bool.and_eq_true, decide_eq_true_eq] at h1; omega
            refine KT.step rfl rfl (K.move rfl) ?_
            refine KT.step rfl rfl (K.eql rfl rfl) ?_
            refine KT.step rfl rfl (K.move rfl) ?_
            refine KT.bcase (fun hb64 => ?_) (fun hb64 => ?_)
            · skip
              refine KT.step rfl rfl (K.move rfl) ?_
              refine KT.step rfl rfl (K.eql rfl rfl) ?_
              refine KT.step rfl rfl (K.pick rfl (fun _ => rfl) (fun h => by cases h)) ?_
              refine KT.step rfl rfl (K.move rfl) ?_
              refine KT.bcase (fun hb68 => ?_) (fun hb68 => ?_)
              · skip
                refine KT.step rfl rfl (K.call0 plainTry_22 (awake22)) ?_
                refine KT.step rfl rfl (K.pick rfl (fun _ => rfl) (fun h => by cases h)) ?_
                refine KT.step rfl rfl (K.assign rfl) ?_
                refine KT.nil ?_
                refine thenK_n ?_
                refine KC.ret ?_
                refine thenK_r ?_
                exact ⟨.inl rfl, _, rfl, fin_d rfl⟩
              · skip
                simp at hb68
            · skip
              simp at hb64
          · skip
            replace hc61 := of_decide_eq_false hc61
            obtain ⟨k, rfl⟩ := Int.eq_ofNat_of_zero_le (show 0 ≤ set by omega)
            have c5 := rTrap42 (set := k) h.ha h.hb h.hc v6 v4 v5 (good_of v7 v2) (good_of v8 v2) (by omega)
            obtain ⟨rfl, rfl⟩ : w = (trapR pre post k : Nat) ∧ e2 = 0 := by
              rcases hw with ⟨h1, _⟩ | ⟨_, h1, h2⟩
              · exfalso; simp only [Bool.and_eq_false_iff, decide_eq_false_iff_not] at h1; omega
              · exact ⟨by simpa using h1, h2⟩
            refine KC.skip ?_
            refine thenK_n ?_
            refine KC.seq ?_
            refine KC.region ?_
            refine KT.step rfl rfl (K.move rfl) ?_
            refine KT.step rfl rfl (K.loadOAgg (m := 3) rfl rfl (by simp) Try.agg25 Try.size25 (by simp [cellsX])) ?_
            refine KT.step rfl rfl (K.move rfl) ?_
            refine KT.step rfl rfl (K.call2 rfl rfl plainTry_42 (c5)) ?_
            refine KT.step rfl rfl (K.eql rfl rfl) ?_
            refine KT.step rfl rfl (K.move rfl) ?_
            refine KT.bcase (fun hb76 => ?_) (fun hb76 => ?_)
            · skip
              refine KT.step rfl rfl (K.move rfl) ?_
              refine KT.step rfl rfl (K.eql rfl rfl) ?_
              refine KT.step rfl rfl (K.pick rfl (fun _ => rfl) (fun h => by cases h)) ?_
              refine KT.step rfl rfl (K.move rfl) ?_
              refine KT.bcase (fun hb80 => ?_) (fun hb80 => ?_)
              · skip
                refine KT.step rfl rfl (K.call0 plainTry_22 (awake22)) ?_
                refine KT.step rfl rfl (K.pick rfl (fun _ => rfl) (fun h => by cases h)) ?_
                refine KT.step rfl rfl (K.assign rfl) ?_
                refine KT.nil ?_
                refine thenK_n ?_
                refine KC.ret ?_
                exact ⟨.inl rfl, _, rfl, fin_d rfl⟩
              · skip
                simp at hb80
            · skip
              simp at hb76
theorem law8 {a b c : DV} {pre post : List (List Int)} {start : List Int} {set : Int} (h : NetD a b c pre post start) : DeepCall Try.prog 8 [.agg [a, b, c], DI set] (DB true) := by
  cases hv : validB pre post start with
  | true => exact lawN_yes h hv
  | false => exact lawN_no h hv
end Go.Proofs.Ytnhcippeejldiaa
