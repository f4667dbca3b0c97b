import Derived.Test.YtocgjopmlhpjdaaNtX
import Derived.Test.YtocgjopmlhpjdaaNtSf
/-
  Nets: the law NetLives.
-/
namespace Go.Proofs.Ytocgjopmlhpjdaa
open Go.Vm Go.RowKit Go.Nt Go.Ht
theorem bool_of (Q : Prop) : ∃ b : Bool, b = true ↔ Q := by
  rcases Classical.em Q with h | h
  · exact ⟨true, fun _ => h, fun _ => rfl⟩
  · exact ⟨false, (fun e => by cases e), fun e => absurd e h⟩
theorem livV_cp (pre post : List (List Int)) (start : List Int) (r : Bool) : livV (cp pre) (cp post) (start.take 8) r = livV pre post start r := by
  obtain ⟨e1, e2, _⟩ := xOf_cp pre post start
  unfold livV; rw [e1, e2]
theorem livV_is (pre post : List (List Int)) (start : List Int) (r : Bool) : ∃ (lb : Bool) (le : Int), livV pre post start r = .tup [DB lb, DI le] := by
  unfold livV
  cases xOf pre post start with
  | none => exact ⟨_, _, rfl⟩
  | some _ => exact ⟨_, _, rfl⟩
theorem cmn_is (pre post : List (List Int)) (start : List Int) (r : Bool) : ∃ (x e : Int), (if r then cmnV pre post start else .tup [DI 0, DI 7]) = .tup [DI x, DI e] := by
  cases r with
  | false => exact ⟨_, _, rfl⟩
  | true =>
    unfold cmnV
    simp only [if_true]
    cases (sipL pre post (2 ^ start.length)).find? (noMark pre post start) with
    | none => exact ⟨_, _, rfl⟩
    | some s => exact ⟨_, _, rfl⟩
set_option maxHeartbeats 2000000 in
set_option maxRecDepth 10000 in
theorem law6 {a b c : DV} {pre post : List (List Int)} {start : List Int} (h : NetD a b c pre post start) : DeepCall Try.prog 6 [.agg [a, b, c]] (DB true) := by
  have h9 := h
  obtain ⟨ha, hb, hc, l1, l2, l3, r1, r2⟩ := h9
  obtain ⟨r, hr⟩ := bool_of (FC pre post start.length)
  obtain ⟨lv, hlv⟩ : ∃ lv : Bool, ∀ fs, xOf pre post start = some fs → (lv = true ↔ LiveN pre.length (nextN (nxN pre post) pre.length fs fs.length 0)) := by
    cases hx : xOf pre post start with
    | none => exact ⟨true, fun fs h => by cases h⟩
    | some fs =>
      obtain ⟨b, hb⟩ := bool_of (LiveN pre.length (nextN (nxN pre post) pre.length fs fs.length 0))
      exact ⟨b, fun gs h => by cases h; exact hb⟩
  have hrc : validB (cp pre) (cp post) (start.take 8) = true → (r = true ↔ FC (cp pre) (cp post) (start.take 8).length) := fun hv => by
    obtain ⟨e1, e2, e3⟩ := valid_cp (.inr hv)
    rw [e1, e2, e3]; exact hr
  have hlc : ∀ fs, xOf (cp pre) (cp post) (start.take 8) = some fs → (lv = true ↔ LiveN (cp pre).length (nextN (nxN (cp pre) (cp post)) (cp pre).length fs fs.length 0)) := fun fs hx => by
    obtain ⟨hv, _⟩ := xOf_yes hx
    obtain ⟨e1, e2, e3⟩ := valid_cp (.inr hv)
    rw [e1, e2, e3] at hx
    rw [e1, e2]
    exact hlv fs hx
  have c1 := FreeChoice28 h.cp hrc
  have c2 := Commoner29 h.cp hrc
  have c3 := Live30 h.cp hlc
  rw [validB_cp] at c1 c2
  rw [livV_cp] at c3
  have ecm : cmnV (cp pre) (cp post) (start.take 8) = cmnV (cp pre) (cp post) (start.take 8) := rfl
  refine deepCall_K 5 Try.func6 rfl (Nat.le_of_ble_eq_true rfl) fun M W0 => ?_
  refine KC.seq ?_
  refine KC.region ?_
  refine KT.step rfl rfl (K.box rfl) ?_
  refine KT.step rfl rfl (K.assign rfl) ?_
  refine KT.nil ?_
  refine thenK_n ?_
  refine KC.seq ?_
  refine KC.region ?_
  refine KT.step rfl rfl (K.loadOAgg (m := 3) rfl rfl (by simp) Try.agg25 Try.size25 (by simp [cellsX])) ?_
  by_cases hv : validB pre post start = true
  · skip
    obtain ⟨e1, e2, e3⟩ := valid_cp (.inl hv)
    rw [if_pos hv] at c1 c2
    rw [e1, e2, e3] at c2
    have c4 := rCommoner32 h hv hr
    have c5 := rLive33 h hlv
    obtain ⟨v1, v2, v3, v4, v5, v6, v7, v8⟩ := validB_iff.1 hv
    have c6 := rFreeChoice34 ha hb hc v2 v6 v5 (fun r hr => fitsB_len (allB_mem v7 r hr)) (fun r hr => fitsB_len (allB_mem v8 r hr)) (fun r h => fitsB_mem (allB_mem v7 r h)) (fun r h => fitsB_mem (allB_mem v8 r h)) hr
    obtain ⟨cx, ce, hce⟩ := cmn_is pre post start r
    rw [hce] at c2 c4
    obtain ⟨lb, le, hle⟩ := livV_is pre post start lv
    rw [hle] at c3 c5
    refine KT.step rfl rfl (K.call1 rfl plainTry_13 (of13 h)) ?_
    refine KT.step rfl rfl (K.call1 rfl plainTry_28 (c1)) ?_
    refine KT.step rfl rfl (K.move rfl) ?_
    refine KT.step rfl rfl (K.extract rfl rfl) ?_
    refine KT.step rfl rfl (K.extract rfl rfl) ?_
    refine KT.step rfl rfl (K.assign rfl) ?_
    refine KT.step rfl rfl (K.assign rfl) ?_
    refine KT.nil ?_
    refine thenK_n ?_
    refine KC.seq ?_
    refine KC.region ?_
    refine KT.step rfl rfl (K.loadOAgg (m := 3) rfl rfl (by simp) Try.agg25 Try.size25 (by simp [cellsX])) ?_
    refine KT.step rfl rfl (K.call1 rfl plainTry_13 (of13 h)) ?_
    refine KT.step rfl rfl (K.call1 rfl plainTry_29 (c2)) ?_
    refine KT.step rfl rfl (K.move rfl) ?_
    refine KT.step rfl rfl (K.extract rfl rfl) ?_
    refine KT.step rfl rfl (K.extract rfl rfl) ?_
    refine KT.step rfl rfl (K.assign rfl) ?_
    refine KT.step rfl rfl (K.assign rfl) ?_
    refine KT.nil ?_
    refine thenK_n ?_
    refine KC.seq ?_
    refine KC.region ?_
    refine KT.step rfl rfl (K.loadOAgg (m := 3) rfl rfl (by simp) Try.agg25 Try.size25 (by simp [cellsX])) ?_
    refine KT.step rfl rfl (K.call1 rfl plainTry_13 (of13 h)) ?_
    refine KT.step rfl rfl (K.call1 rfl plainTry_30 (c3)) ?_
    refine KT.step rfl rfl (K.move rfl) ?_
    refine KT.step rfl rfl (K.extract rfl rfl) ?_
    refine KT.step rfl rfl (K.extract rfl rfl) ?_
    refine KT.step rfl rfl (K.assign rfl) ?_
    refine KT.step rfl rfl (K.assign rfl) ?_
    refine KT.nil ?_
    refine thenK_n ?_
    refine KC.seq ?_
    refine KC.seq ?_
    refine KC.region ?_
    refine KT.step rfl rfl (K.loadOAgg (m := 3) rfl rfl (by simp) Try.agg25 Try.size25 (by simp [cellsX])) ?_
    refine KT.step rfl rfl (K.call1 rfl plainTry_31 (rvalid31 h)) ?_
    refine KT.step rfl rfl (K.not rfl) ?_
    refine KT.nil ?_
    refine thenK_n ?_
    refine KC.cond rfl (fun hc33 => ?_) (fun hc33 => ?_)
    · skip
      exact absurd hc33 (by rw [hv]; decide)
    · skip
      refine KC.skip ?_
      refine thenK_n ?_
      refine KC.seq ?_
      refine KC.region ?_
      refine KT.step rfl rfl (K.loadOAgg (m := 3) rfl rfl (by simp) Try.agg25 Try.size25 (by simp [cellsX])) ?_
      refine KT.step rfl rfl (K.call1 rfl plainTry_32 (c4)) ?_
      refine KT.step rfl rfl (K.move rfl) ?_
      refine KT.step rfl rfl (K.extract rfl rfl) ?_
      refine KT.step rfl rfl (K.extract rfl rfl) ?_
      refine KT.step rfl rfl (K.assign rfl) ?_
      refine KT.step rfl rfl (K.assign rfl) ?_
      refine KT.nil ?_
      refine thenK_n ?_
      refine KC.seq ?_
      refine KC.region ?_
      refine KT.step rfl rfl (K.loadOAgg (m := 3) rfl rfl (by simp) Try.agg25 Try.size25 (by simp [cellsX])) ?_
      refine KT.step rfl rfl (K.call1 rfl plainTry_33 (c5)) ?_
      refine KT.step rfl rfl (K.move rfl) ?_
      refine KT.step rfl rfl (K.extract rfl rfl) ?_
      refine KT.step rfl rfl (K.extract rfl rfl) ?_
      refine KT.step rfl rfl (K.assign rfl) ?_
      refine KT.step rfl rfl (K.assign rfl) ?_
      refine KT.nil ?_
      refine thenK_n ?_
      refine KC.seq ?_
      refine KC.region ?_
      refine KT.step rfl rfl (K.move rfl) ?_
      refine KT.step rfl rfl (K.loadOAgg (m := 3) rfl rfl (by simp) Try.agg25 Try.size25 (by simp [cellsX])) ?_
      refine KT.step rfl rfl (K.call1 rfl plainTry_34 (c6)) ?_
      refine KT.step rfl rfl (K.eqB Try.underlying4 rfl rfl) ?_
      refine KT.step rfl rfl (K.move rfl) ?_
      refine KT.bcase (fun hb73 => ?_) (fun hb73 => ?_)
      · skip
        refine KT.step rfl rfl (K.move rfl) ?_
        refine KT.step rfl rfl (K.eql rfl rfl) ?_
        refine KT.step rfl rfl (K.pick rfl (fun _ => rfl) (fun h => by cases h)) ?_
        refine KT.step rfl rfl (K.move rfl) ?_
        refine KT.bcase (fun hb77 => ?_) (fun hb77 => ?_)
        · skip
          refine KT.step rfl rfl (K.move rfl) ?_
          refine KT.step rfl rfl (K.move rfl) ?_
          refine KT.step rfl rfl (K.eql rfl rfl) ?_
          refine KT.step rfl rfl (K.pick rfl (fun _ => rfl) (fun h => by cases h)) ?_
          refine KT.step rfl rfl (K.move rfl) ?_
          refine KT.bcase (fun hb82 => ?_) (fun hb82 => ?_)
          · skip
            refine KT.step rfl rfl (K.move rfl) ?_
            refine KT.step rfl rfl (K.move rfl) ?_
            refine KT.step rfl rfl (K.eql rfl rfl) ?_
            refine KT.step rfl rfl (K.pick rfl (fun _ => rfl) (fun h => by cases h)) ?_
            refine KT.step rfl rfl (K.move rfl) ?_
            refine KT.bcase (fun hb87 => ?_) (fun hb87 => ?_)
            · skip
              refine KT.step rfl rfl (K.move rfl) ?_
              refine KT.step rfl rfl (K.move rfl) ?_
              refine KT.step rfl rfl (K.eqB Try.underlying4 rfl rfl) ?_
              refine KT.step rfl rfl (K.pick rfl (fun _ => rfl) (fun h => by cases h)) ?_
              refine KT.step rfl rfl (K.move rfl) ?_
              refine KT.bcase (fun hb92 => ?_) (fun hb92 => ?_)
              · skip
                refine KT.step rfl rfl (K.move rfl) ?_
                refine KT.step rfl rfl (K.move rfl) ?_
                refine KT.step rfl rfl (K.eql rfl rfl) ?_
                refine KT.step rfl rfl (K.pick rfl (fun _ => rfl) (fun h => by cases h)) ?_
                refine KT.step rfl rfl (K.move rfl) ?_
                refine KT.bcase (fun hb97 => ?_) (fun hb97 => ?_)
                · skip
                  refine KT.step rfl rfl (K.call0 plainTry_19 (awake19)) ?_
                  refine KT.step rfl rfl (K.pick rfl (fun _ => rfl) (fun h => by cases h)) ?_
                  refine KT.step rfl rfl (K.assign rfl) ?_
                  refine KT.nil ?_
                  refine thenK_n ?_
                  refine KC.ret ?_
                  exact ⟨.inl rfl, _, rfl, fin_d rfl⟩
                · skip
                  exact absurd hb97 (by simp)
              · skip
                exact absurd hb92 (by simp)
            · skip
              exact absurd hb87 (by simp)
          · skip
            exact absurd hb82 (by simp)
        · skip
          exact absurd hb77 (by simp)
      · skip
        exact absurd hb73 (by simp)
  · skip
    rw [if_neg hv] at c1 c2
    have e1 : xOf pre post start = none := by unfold xOf; rw [if_neg hv]
    have e2 : xE pre post start = 2 := by unfold xE; rw [if_neg hv]
    unfold livV at c3
    rw [e1, e2] at c3
    simp only at c3
    refine KT.step rfl rfl (K.call1 rfl plainTry_13 (of13 h)) ?_
    refine KT.step rfl rfl (K.call1 rfl plainTry_28 (c1)) ?_
    refine KT.step rfl rfl (K.move rfl) ?_
    refine KT.step rfl rfl (K.extract rfl rfl) ?_
    refine KT.step rfl rfl (K.extract rfl rfl) ?_
    refine KT.step rfl rfl (K.assign rfl) ?_
    refine KT.step rfl rfl (K.assign rfl) ?_
    refine KT.nil ?_
    refine thenK_n ?_
    refine KC.seq ?_
    refine KC.region ?_
    refine KT.step rfl rfl (K.loadOAgg (m := 3) rfl rfl (by simp) Try.agg25 Try.size25 (by simp [cellsX])) ?_
    refine KT.step rfl rfl (K.call1 rfl plainTry_13 (of13 h)) ?_
    refine KT.step rfl rfl (K.call1 rfl plainTry_29 (c2)) ?_
    refine KT.step rfl rfl (K.move rfl) ?_
    refine KT.step rfl rfl (K.extract rfl rfl) ?_
    refine KT.step rfl rfl (K.extract rfl rfl) ?_
    refine KT.step rfl rfl (K.assign rfl) ?_
    refine KT.step rfl rfl (K.assign rfl) ?_
    refine KT.nil ?_
    refine thenK_n ?_
    refine KC.seq ?_
    refine KC.region ?_
    refine KT.step rfl rfl (K.loadOAgg (m := 3) rfl rfl (by simp) Try.agg25 Try.size25 (by simp [cellsX])) ?_
    refine KT.step rfl rfl (K.call1 rfl plainTry_13 (of13 h)) ?_
    refine KT.step rfl rfl (K.call1 rfl plainTry_30 (c3)) ?_
    refine KT.step rfl rfl (K.move rfl) ?_
    refine KT.step rfl rfl (K.extract rfl rfl) ?_
    refine KT.step rfl rfl (K.extract rfl rfl) ?_
    refine KT.step rfl rfl (K.assign rfl) ?_
    refine KT.step rfl rfl (K.assign rfl) ?_
    refine KT.nil ?_
    refine thenK_n ?_
    refine KC.seq ?_
    refine KC.seq ?_
    refine KC.region ?_
    refine KT.step rfl rfl (K.loadOAgg (m := 3) rfl rfl (by simp) Try.agg25 Try.size25 (by simp [cellsX])) ?_
    refine KT.step rfl rfl (K.call1 rfl plainTry_31 (rvalid31 h)) ?_
    refine KT.step rfl rfl (K.not rfl) ?_
    refine KT.nil ?_
    refine thenK_n ?_
    refine KC.cond rfl (fun hc33 => ?_) (fun hc33 => ?_)
    · skip
      refine KC.seq ?_
      refine KC.region ?_
      refine KT.step rfl rfl (K.move rfl) ?_
      refine KT.step rfl rfl (K.not rfl) ?_
      refine KT.step rfl rfl (K.move rfl) ?_
      refine KT.bcase (fun hb36 => ?_) (fun hb36 => ?_)
      · skip
        refine KT.step rfl rfl (K.move rfl) ?_
        refine KT.step rfl rfl (K.eql rfl rfl) ?_
        refine KT.step rfl rfl (K.pick rfl (fun _ => rfl) (fun h => by cases h)) ?_
        refine KT.step rfl rfl (K.move rfl) ?_
        refine KT.bcase (fun hb40 => ?_) (fun hb40 => ?_)
        · skip
          refine KT.step rfl rfl (K.move rfl) ?_
          refine KT.step rfl rfl (K.not rfl) ?_
          refine KT.step rfl rfl (K.pick rfl (fun _ => rfl) (fun h => by cases h)) ?_
          refine KT.step rfl rfl (K.move rfl) ?_
          refine KT.bcase (fun hb44 => ?_) (fun hb44 => ?_)
          · skip
            refine KT.step rfl rfl (K.move rfl) ?_
            refine KT.step rfl rfl (K.eql rfl rfl) ?_
            refine KT.step rfl rfl (K.pick rfl (fun _ => rfl) (fun h => by cases h)) ?_
            refine KT.step rfl rfl (K.move rfl) ?_
            refine KT.bcase (fun hb48 => ?_) (fun hb48 => ?_)
            · skip
              refine KT.step rfl rfl (K.move rfl) ?_
              refine KT.step rfl rfl (K.eql rfl rfl) ?_
              refine KT.step rfl rfl (K.pick rfl (fun _ => rfl) (fun h => by cases h)) ?_
              refine KT.step rfl rfl (K.move rfl) ?_
              refine KT.bcase (fun hb52 => ?_) (fun hb52 => ?_)
              · skip
                refine KT.step rfl rfl (K.move rfl) ?_
                refine KT.step rfl rfl (K.eql rfl rfl) ?_
                refine KT.step rfl rfl (K.pick rfl (fun _ => rfl) (fun h => by cases h)) ?_
                refine KT.step rfl rfl (K.move rfl) ?_
                refine KT.bcase (fun hb56 => ?_) (fun hb56 => ?_)
                · skip
                  refine KT.step rfl rfl (K.call0 plainTry_19 (awake19)) ?_
                  refine KT.step rfl rfl (K.pick rfl (fun _ => rfl) (fun h => by cases h)) ?_
                  refine KT.step rfl rfl (K.assign rfl) ?_
                  refine KT.nil ?_
                  refine thenK_n ?_
                  refine KC.ret ?_
                  refine thenK_r ?_
                  exact ⟨.inl rfl, _, rfl, fin_d rfl⟩
                · skip
                  exact absurd hb56 (by simp)
              · skip
                exact absurd hb52 (by simp)
            · skip
              exact absurd hb48 (by simp)
          · skip
            exact absurd hb44 (by simp)
        · skip
          exact absurd hb40 (by simp)
      · skip
        exact absurd hb36 (by simp)
    · skip
      exact absurd hc33 (by simp [hv])
end Go.Proofs.Ytocgjopmlhpjdaa

