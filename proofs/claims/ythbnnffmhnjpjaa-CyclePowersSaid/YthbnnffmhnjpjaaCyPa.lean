/-
  Times: the law CyclePowers.
-/
import Derived.Test.YthbnnffmhnjpjaaCyU
import Derived.Test.YthbnnffmhnjpjaaCyZ
namespace Go.Proofs.Ythbnnffmhnjpjaa
open Go.Vm Go.Cy
theorem plainTry_13 : plainFn Try.prog 13 = true := by kernel_rfl
set_option maxRecDepth 10000 in
theorem power_zero {d : DV} {n : Nat} {a : Nat → Nat → Int} (hd : Mat d (genM n n a)) (hn : n ≤ 1000) : OwnCall Try.prog 53 [] [.d d, .d (DI (0 : Nat))] (gP 0 n (oneI n) n) (.osl 0 0 n 1 n true) := by
  refine ownCall_K Try.func53 rfl (Nat.le_of_ble_eq_true rfl) fun M W0 => ?_
  refine KC.seq ?_
  refine KC.region ?_
  refine KT.step rfl rfl (K.assign rfl) ?_
  refine KT.nil ?_
  refine thenK_n ?_
  refine KC.seq ?_
  refine KC.seq ?_
  refine KC.region ?_
  refine KT.step rfl rfl (K.move rfl) ?_
  refine KT.step rfl rfl (K.eql rfl rfl) ?_
  refine KT.nil ?_
  refine thenK_n ?_
  refine KC.cond rfl (fun hc8 => ?_) (fun hc8 => ?_)
  · skip
    replace hc8 := of_decide_eq_true hc8
    refine KC.seq ?_
    refine KC.region ?_
    refine KT.step rfl rfl (K.move rfl) ?_
    refine KT.step rfl rfl (K.len rfl hd Try.underlying22) ?_
    rw [genM_len]
    refine KT.step rfl rfl (K.callO (xs := [.d (DI (n : Nat)), .d (.fn (.func 88) [] [])]) rfl plainTry_85 (by
      have h := build85_own (N := n) (L := 0) (f := oneI n) (fv := .d (.fn (.func 88) [] [])) (fid := 88) (first := []) (caps := []) (pf := fun _ => []) hn rfl plainTry_88 (fun _ => rfl) (fun i j hi hj τ => by
        have := (one88 (n := n) (i := i) (j := j) hi).own τ
        simpa using this)
      exact h)) ?_
    refine KT.step rfl rfl (K.assign rfl) ?_
    refine KT.nil ?_
    refine thenK_n ?_
    refine KC.ret ?_
    refine thenK_r ?_
    exact ⟨.inl rfl, rfl, rfl⟩
  · skip
    exact absurd rfl (of_decide_eq_false hc8)
set_option maxRecDepth 10000 in
theorem pow_zero {d : DV} {m : List (List Int)} (hd : Mat d m) (hl : m.length ≤ 9223372036854775807) (hr : ∀ r ∈ m, r.length ≤ 9223372036854775807) (hv : validB 1000 m = true) : OwnCall Try.prog 21 [] [.d d, .d (DI (0 : Nat))] (gP 0 m.length (oneI m.length) m.length) (.tup [.osl 0 0 m.length 1 m.length true, .d (DI 0)]) := by
  obtain ⟨p1, p2, p3, p4, p5⟩ := valid_of hv
  have hd' : Mat d (genM m.length m.length (mf m)) := p3 ▸ hd
  refine ownCall_K Try.func21 rfl (Nat.le_of_ble_eq_true rfl) fun M W0 => ?_
  refine KC.seq ?_
  refine KC.region ?_
  refine KT.step rfl rfl (K.assign rfl) ?_
  refine KT.step rfl rfl (K.assign rfl) ?_
  refine KT.nil ?_
  refine thenK_n ?_
  refine KC.seq ?_
  refine KC.seq ?_
  refine KC.region ?_
  refine KT.step rfl rfl (K.move rfl) ?_
  refine KT.step rfl rfl (K.call2 rfl rfl plainTry_47 (valid47 hd hl hr (L := 1000) (by omega))) ?_
  refine KT.step rfl rfl (K.not rfl) ?_
  refine KT.step rfl rfl (K.move rfl) ?_
  refine KT.bcase (fun hb9 => ?_) (fun hb9 => ?_)
  · skip
    rw [hv] at hb9
    cases hb9
  · skip
    refine KT.step rfl rfl (K.move rfl) ?_
    refine KT.step rfl rfl (K.call3 rfl rfl rfl plainTry_52 (within52 _ _ _)) ?_
    refine KT.step rfl rfl (K.not rfl) ?_
    refine KT.step rfl rfl (K.pick rfl (fun h => by cases h) (fun _ => rfl)) ?_
    refine KT.nil ?_
    refine thenK_n ?_
    refine KC.cond rfl (fun hc13 => ?_) (fun hc13 => ?_)
    · skip
      exact absurd hc13 (by decide)
    · skip
      refine KC.skip ?_
      refine thenK_n ?_
      refine KC.seq ?_
      refine KC.region ?_
      refine KT.step rfl rfl (K.move rfl) ?_
      refine KT.step rfl rfl (K.move rfl) ?_
      refine KT.step rfl rfl (K.callO (xs := [.d d, .d (DI (0 : Nat))]) rfl plainTry_53 (power_zero hd' (by omega))) ?_
      refine KT.step rfl rfl (K.assign rfl) ?_
      refine KT.step rfl rfl (K.assign rfl) ?_
      refine KT.nil ?_
      refine thenK_n ?_
      refine KC.ret ?_
      exact ⟨.inl rfl, rfl, rfl⟩

def bSg (N : Nat) (a : Nat → Nat → Int) : Nat → List VObj
  | 0 => []
  | k + 1 => bO N (curI N a k)
def bX (N : Nat) : Nat → XV
  | 0 => .d Dnil
  | _ + 1 => .osl 0 0 N 1 N true
/-- Some cells of the next. -/
def mixF (n : Nat) (a : Nat → Nat → Int) (k r j : Nat) : Nat → Nat → Int := fun r' j' => if r' < r ∨ (r' = r ∧ j' < j) then curI n a (k + 1) r' j' else curI n a k r' j'
theorem mixF_zero (n : Nat) (a : Nat → Nat → Int) (k : Nat) : mixF n a k 0 0 = curI n a k := by
  funext r' j'; exact if_neg (by omega)
theorem mixF_row {n : Nat} {a : Nat → Nat → Int} {k r : Nat} : bO n (mixF n a k r n) = bO n (mixF n a k (r + 1) 0) := by
  unfold bO
  congr 1
  refine List.map_congr_left fun r' hr' => ?_
  congr 1
  refine List.map_congr_left fun j' hj' => ?_
  have h1 : j' < n := by simpa using hj'
  unfold mixF
  by_cases h : r' < r + 1
  · rw [if_pos (by omega), if_pos (by omega)]
  · rw [if_neg (by omega), if_neg (by omega)]
theorem mixF_done {n : Nat} {a : Nat → Nat → Int} {k : Nat} : bO n (mixF n a k n 0) = bO n (curI n a (k + 1)) := by
  unfold bO
  congr 1
  refine List.map_congr_left fun r' hr' => ?_
  congr 1
  refine List.map_congr_left fun j' hj' => ?_
  have h1 : r' < n := by simpa using hr'
  unfold mixF
  rw [if_pos (by omega)]
theorem mixF_step {n : Nat} {a : Nat → Nat → Int} {k r j : Nat} (hr : r < n) {v : Int} (hv : v = max (curI n a k r j) (pwI n a (k + 1) r j)) :
    (bO n (mixF n a k r j)).set (0 + r + 1) ⟨((List.range n).map fun j' => XV.d (DI (mixF n a k r j r j'))).set (0 + j) (.d (DI v)), 0⟩ = bO n (mixF n a k r (j + 1)) := by
  subst hv
  refine bO_set hr fun r' hr' j' hj' => ?_
  unfold mixF
  by_cases e : r' = r ∧ j' = j
  · obtain ⟨rfl, rfl⟩ := e
    rw [if_pos (by omega), if_pos ⟨rfl, rfl⟩]; rfl
  · rw [if_neg e]
    by_cases h : r' < r ∨ (r' = r ∧ j' < j)
    · rw [if_pos h, if_pos (by omega)]
    · rw [if_neg h, if_neg (by omega)]
theorem mixF_at (n : Nat) (a : Nat → Nat → Int) (k r j : Nat) : mixF n a k r j r j = curI n a k r j := if_neg (by omega)
theorem mulF {m : List (List Int)} (hv : validB 1000 m = true) {j k : Nat} (hj : j ≤ 400) (hk : k ≤ 400) :
    DeepCall Try.prog 18 [powD (fewM m) (j : Nat), powD (fewM m) (k : Nat)] (.tup [mulD (genM m.length m.length (pwI m.length (mf m) j)) (genM m.length m.length (pwI m.length (mf m) k)), DI 0]) ∧ mulM (genM m.length m.length (pwI m.length (mf m) j)) (genM m.length m.length (pwI m.length (mf m) k)) = genM m.length m.length (pwI m.length (mf m) (j + k)) := by
  obtain ⟨sm, _⟩ := Cy.Small.of hv
  have n6 := sm.n6
  have g1 : validB 1000000 (genM m.length m.length (pwI m.length (mf m) j)) = true := valid_gen sm.n1 sm.n6 fun i l => (pw_good sm.ga (by omega) j i l).mono (by omega)
  have g2 : validB 1000000 (genM m.length m.length (pwI m.length (mf m) k)) = true := valid_gen sm.n1 sm.n6 fun i l => (pw_good sm.ga (by omega) k i l).mono (by omega)
  have hok : sq2 (genM m.length m.length (pwI m.length (mf m) j)) (genM m.length m.length (pwI m.length (mf m) k)) = true := by
    unfold sq2; rw [g1, g2, decide_eq_true (by rw [genM_len, genM_len])]; rfl
  have h := mul18 (pow_ok hv (k := j) (by omega)).2 (genM_lens (by omega) _).1 (genM_lens (by omega) _).2 (pow_ok hv (k := k) (by omega)).2 (genM_lens (by omega) _).1 (genM_lens (by omega) _).2
  rw [show mulE (genM m.length m.length (pwI m.length (mf m) j)) (genM m.length m.length (pwI m.length (mf m) k)) = 0 from if_pos hok] at h
  refine ⟨h, ?_⟩
  unfold mulM
  rw [if_pos hok, genM_len, mf_pw sm (by omega), mf_pw sm (by omega), sm.pw_mul hj hk]
theorem few_starE (m : List (List Int)) : starE (fewM m) = starE m := few_fun starE 2 (fun m h => by unfold starE; rw [h]; rfl) m
theorem few_starM (m : List (List Int)) : starM (fewM m) = starM m := few_fun starM [] (fun m h => by unfold starM starE; rw [h]; rfl) m
theorem starE_or (m : List (List Int)) (hv : validB 1000 m = true) : starE m = 8 ∨ starE m = 0 := by
  unfold starE; rw [hv]; simp only [if_true]; split
  · exact .inl rfl
  · exact .inr rfl
theorem StarF {d : DV} {m : List (List Int)} (hd : Mat d m) (hl : m.length ≤ 9223372036854775807) (hr : ∀ r ∈ m, r.length ≤ 9223372036854775807) : DeepCall Try.prog 34 [rows8 m d] (.tup [starD (fewM m), DI (starE m)]) := by
  have h := Star34 (show Mat (rows8 m d) (fewM m) from rows8_mat hd) (few_len m).1 (few_len m).2
  rwa [few_starE] at h
set_option maxHeartbeats 3200000 in
set_option maxRecDepth 10000 in
theorem law13 {d : DV} {m : List (List Int)} {j k : Int} (hd : Mat d m) (hl : m.length ≤ 9223372036854775807) (hr : ∀ r ∈ m, r.length ≤ 9223372036854775807) : DeepCall Try.prog 13 [d, DI j, DI k] (DB true) := by
  have fm : Mat (rows8 m d) (fewM m) := rows8_mat hd
  refine deepCall_K 5 Try.func13 rfl (Nat.le_of_ble_eq_true rfl) fun M W0 => ?_
  refine KC.seq ?_
  refine KC.region ?_
  refine KT.step rfl rfl (K.assign rfl) ?_
  refine KT.nil ?_
  refine thenK_n ?_
  refine KC.seq ?_
  refine KC.region ?_
  refine KT.step rfl rfl (K.move rfl) ?_
  refine KT.step rfl rfl (K.conv rfl Try.underlying3 Try.underlying45 (wrapUI j)) ?_
  refine KT.step rfl rfl (K.rem rfl rfl (by decide) (show Int.tmod ((j % 2 ^ 64).toNat : Int) 40 = (((j % 2 ^ 64).toNat % 40 : Nat) : Int) from tmodN _ 40)) ?_
  refine KT.step rfl rfl (K.conv rfl Try.underlying45 Try.underlying3 (show IntKind.i64.wrap ((((j % 2 ^ 64).toNat % 40 : Nat)) : Int) = _ from wrap_id (by omega))) ?_
  have htj : (j % 2 ^ 64).toNat % 40 < 40 := Nat.mod_lt _ (by decide)
  generalize (j % 2 ^ 64).toNat % 40 = tj at htj ⊢
  refine KT.step rfl rfl (K.move rfl) ?_
  refine KT.step rfl rfl (K.conv rfl Try.underlying3 Try.underlying45 (wrapUI k)) ?_
  refine KT.step rfl rfl (K.rem rfl rfl (by decide) (show Int.tmod ((k % 2 ^ 64).toNat : Int) 40 = (((k % 2 ^ 64).toNat % 40 : Nat) : Int) from tmodN _ 40)) ?_
  refine KT.step rfl rfl (K.conv rfl Try.underlying45 Try.underlying3 (show IntKind.i64.wrap ((((k % 2 ^ 64).toNat % 40 : Nat)) : Int) = _ from wrap_id (by omega))) ?_
  have htk : (k % 2 ^ 64).toNat % 40 < 40 := Nat.mod_lt _ (by decide)
  generalize (k % 2 ^ 64).toNat % 40 = tk at htk ⊢
  refine KT.step rfl rfl (K.assign rfl) ?_
  refine KT.step rfl rfl (K.assign rfl) ?_
  refine KT.nil ?_
  refine thenK_n ?_
  refine KC.seq ?_
  refine KC.region ?_
  refine KT.step rfl rfl (K.move rfl) ?_
  refine KT.step rfl rfl (K.call1 rfl plainTry_19 (rows19 hd hl (fun i hi => by rw [show m.getD i [] = m[i] by simp [hi]]; exact hr _ (List.getElem_mem hi)))) ?_
  refine KT.step rfl rfl (K.move rfl) ?_
  refine KT.step rfl rfl (K.call2 rfl rfl plainTry_21 (PowF hd hl hr tj)) ?_
  refine KT.step rfl rfl (K.move rfl) ?_
  refine KT.step rfl rfl (K.extract rfl rfl) ?_
  refine KT.step rfl rfl (K.extract rfl rfl) ?_
  refine KT.step rfl rfl (K.assign rfl) ?_
  refine KT.step rfl rfl (K.assign rfl) ?_
  refine KT.nil ?_
  refine thenK_n ?_
  refine KC.seq ?_
  refine KC.region ?_
  refine KT.step rfl rfl (K.move rfl) ?_
  refine KT.step rfl rfl (K.call1 rfl plainTry_19 (rows19 hd hl (fun i hi => by rw [show m.getD i [] = m[i] by simp [hi]]; exact hr _ (List.getElem_mem hi)))) ?_
  refine KT.step rfl rfl (K.move rfl) ?_
  refine KT.step rfl rfl (K.call2 rfl rfl plainTry_21 (PowF hd hl hr tk)) ?_
  refine KT.step rfl rfl (K.move rfl) ?_
  refine KT.step rfl rfl (K.extract rfl rfl) ?_
  refine KT.step rfl rfl (K.extract rfl rfl) ?_
  refine KT.step rfl rfl (K.assign rfl) ?_
  refine KT.step rfl rfl (K.assign rfl) ?_
  refine KT.nil ?_
  refine thenK_n ?_
  refine KC.seq ?_
  refine KC.region ?_
  refine KT.step rfl rfl (K.move rfl) ?_
  refine KT.step rfl rfl (K.call1 rfl plainTry_19 (rows19 hd hl (fun i hi => by rw [show m.getD i [] = m[i] by simp [hi]]; exact hr _ (List.getElem_mem hi)))) ?_
  refine KT.step rfl rfl (K.move rfl) ?_
  refine KT.step rfl rfl (K.move rfl) ?_
  refine KT.step rfl rfl (K.add rfl rfl (show IntKind.i64.wrap ((tj : Int) + (tk : Int)) = ((tj + tk : Nat) : Int) from (wrap_id (by omega)).trans (by omega))) ?_
  refine KT.step rfl rfl (K.call2 rfl rfl plainTry_21 (PowF hd hl hr (tj + tk))) ?_
  refine KT.step rfl rfl (K.move rfl) ?_
  refine KT.step rfl rfl (K.extract rfl rfl) ?_
  refine KT.step rfl rfl (K.extract rfl rfl) ?_
  refine KT.step rfl rfl (K.assign rfl) ?_
  refine KT.step rfl rfl (K.assign rfl) ?_
  refine KT.nil ?_
  refine thenK_n ?_
  refine KC.seq ?_
  refine KC.region ?_
  refine KT.step rfl rfl (K.move rfl) ?_
  refine KT.step rfl rfl (K.move rfl) ?_
  have hE : powE m (tj : Nat) = powE m (tk : Nat) ∧ powE m (tj + tk : Nat) = powE m (tk : Nat) ∧ (powE m (tk : Nat) = 2 ∨ powE m (tk : Nat) = 0) := by
    cases hv : validB 1000 m with
    | true => rw [(pow_ok hv (k := tj) (by omega)).1, (pow_ok hv (k := tk) (by omega)).1, (pow_ok hv (k := tj + tk) (by omega)).1]; exact ⟨rfl, rfl, .inr rfl⟩
    | false =>
      have e : ∀ t : Nat, powE m (t : Nat) = 2 := fun t => if_neg (by unfold okP; rw [hv]; simp)
      rw [e, e, e]; exact ⟨rfl, rfl, .inl rfl⟩
  have hmulX : ∃ md me, DeepCall Try.prog 18 [powD (fewM m) (tj : Nat), powD (fewM m) (tk : Nat)] (.tup [md, DI me]) ∧ (powE m (tk : Nat) = 0 → validB 1000 m = true ∧ md = mulD (genM m.length m.length (pwI m.length (mf m) tj)) (genM m.length m.length (pwI m.length (mf m) tk)) ∧ me = 0) := by
    cases hv : validB 1000 m with
    | true => exact ⟨_, _, (mulF hv (j := tj) (k := tk) (by omega) (by omega)).1, fun _ => ⟨rfl, rfl, rfl⟩⟩
    | false =>
      refine ⟨_, _, mul18 (powD_mat _ _) (powM_len _ _).1 (powM_len _ _).2 (powD_mat _ _) (powM_len _ _).1 (powM_len _ _).2, fun h => ?_⟩
      have : powE m (tk : Nat) = 2 := if_neg (by unfold okP; rw [hv]; simp)
      omega
  obtain ⟨md, me, hmc, hmp⟩ := hmulX
  refine KT.step rfl rfl (K.call2 rfl rfl plainTry_18 hmc) ?_
  refine KT.step rfl rfl (K.move rfl) ?_
  refine KT.step rfl rfl (K.extract rfl rfl) ?_
  refine KT.step rfl rfl (K.extract rfl rfl) ?_
  refine KT.step rfl rfl (K.assign rfl) ?_
  refine KT.step rfl rfl (K.assign rfl) ?_
  refine KT.nil ?_
  refine thenK_n ?_
  refine KC.seq ?_
  refine KC.seq ?_
  refine KC.region ?_
  refine KT.step rfl rfl (K.move rfl) ?_
  refine KT.step rfl rfl (K.neq rfl rfl) ?_
  refine KT.step rfl rfl (K.move rfl) ?_
  refine KT.bcase (fun hb63 => ?_) (fun hb63 => ?_)
  · skip
    replace hb63 := of_decide_eq_true hb63
    refine KT.skip rfl rfl ?_
    refine KT.skip rfl rfl ?_
    refine KT.step rfl rfl (K.pick rfl (fun _ => rfl) (fun h => by cases h)) ?_
    refine KT.step rfl rfl (K.move rfl) ?_
    refine KT.skip rfl rfl ?_
    refine KT.skip rfl rfl ?_
    refine KT.step rfl rfl (K.pick rfl (fun _ => rfl) (fun h => by cases h)) ?_
    refine KT.nil ?_
    refine thenK_n ?_
    refine KC.cond rfl (fun hc70 => ?_) (fun hc70 => ?_)
    · skip
      refine KC.seq ?_
      refine KC.region ?_
      refine KT.step rfl rfl (K.move rfl) ?_
      refine KT.step rfl rfl (K.eql rfl rfl) ?_
      refine KT.step rfl rfl (K.move rfl) ?_
      refine KT.bcase (fun hb73 => ?_) (fun hb73 => ?_)
      · skip
        replace hb73 := of_decide_eq_true hb73
        refine KT.step rfl rfl (K.move rfl) ?_
        refine KT.step rfl rfl (K.eql rfl rfl) ?_
        refine KT.step rfl rfl (K.pick rfl (fun _ => rfl) (fun h => by cases h)) ?_
        refine KT.step rfl rfl (K.move rfl) ?_
        refine KT.bcase (fun hb77 => ?_) (fun hb77 => ?_)
        · skip
          replace hb77 := of_decide_eq_true hb77
          refine KT.step rfl rfl (K.move rfl) ?_
          refine KT.step rfl rfl (K.eql rfl rfl) ?_
          refine KT.step rfl rfl (K.pick rfl (fun _ => rfl) (fun h => by cases h)) ?_
          refine KT.step rfl rfl (K.move rfl) ?_
          refine KT.bcase (fun hb81 => ?_) (fun hb81 => ?_)
          · skip
            replace hb81 := of_decide_eq_true hb81
            refine KT.step rfl rfl (K.call0 plainTry_24 (awake24)) ?_
            refine KT.step rfl rfl (K.pick rfl (fun _ => rfl) (fun h => by cases h)) ?_
            refine KT.step rfl rfl (K.assign rfl) ?_
            refine KT.nil ?_
            refine thenK_n ?_
            refine KC.ret ?_
            refine thenK_r ?_
            exact ⟨.inl rfl, _, rfl, rfl⟩
          · skip
            exact absurd (of_decide_eq_false hb81) (by omega)
        · skip
          exact absurd (of_decide_eq_false hb77) (by omega)
      · skip
        exact absurd (of_decide_eq_false hb73) (by omega)
    · cases hc70
  · skip
    replace hb63 := of_decide_eq_false hb63
    refine KT.step rfl rfl (K.move rfl) ?_
    refine KT.step rfl rfl (K.neq rfl rfl) ?_
    refine KT.step rfl rfl (K.pick rfl (fun h => by cases h) (fun _ => rfl)) ?_
    refine KT.step rfl rfl (K.move rfl) ?_
    refine KT.bcase (fun hb67 => ?_) (fun hb67 => ?_)
    · skip
      replace hb67 := of_decide_eq_true hb67
      refine KT.skip rfl rfl ?_
      refine KT.skip rfl rfl ?_
      refine KT.step rfl rfl (K.pick rfl (fun _ => rfl) (fun h => by cases h)) ?_
      refine KT.nil ?_
      refine thenK_n ?_
      refine KC.cond rfl (fun hc70 => ?_) (fun hc70 => ?_)
      · skip
        refine KC.seq ?_
        refine KC.region ?_
        refine KT.step rfl rfl (K.move rfl) ?_
        refine KT.step rfl rfl (K.eql rfl rfl) ?_
        refine KT.step rfl rfl (K.move rfl) ?_
        refine KT.bcase (fun hb73 => ?_) (fun hb73 => ?_)
        · skip
          replace hb73 := of_decide_eq_true hb73
          refine KT.step rfl rfl (K.move rfl) ?_
          refine KT.step rfl rfl (K.eql rfl rfl) ?_
          refine KT.step rfl rfl (K.pick rfl (fun _ => rfl) (fun h => by cases h)) ?_
          refine KT.step rfl rfl (K.move rfl) ?_
          refine KT.bcase (fun hb77 => ?_) (fun hb77 => ?_)
          · skip
            replace hb77 := of_decide_eq_true hb77
            refine KT.step rfl rfl (K.move rfl) ?_
            refine KT.step rfl rfl (K.eql rfl rfl) ?_
            refine KT.step rfl rfl (K.pick rfl (fun _ => rfl) (fun h => by cases h)) ?_
            refine KT.step rfl rfl (K.move rfl) ?_
            refine KT.bcase (fun hb81 => ?_) (fun hb81 => ?_)
            · skip
              replace hb81 := of_decide_eq_true hb81
              refine KT.step rfl rfl (K.call0 plainTry_24 (awake24)) ?_
              refine KT.step rfl rfl (K.pick rfl (fun _ => rfl) (fun h => by cases h)) ?_
              refine KT.step rfl rfl (K.assign rfl) ?_
              refine KT.nil ?_
              refine thenK_n ?_
              refine KC.ret ?_
              refine thenK_r ?_
              exact ⟨.inl rfl, _, rfl, rfl⟩
            · skip
              exact absurd (of_decide_eq_false hb81) (by omega)
          · skip
            exact absurd (of_decide_eq_false hb77) (by omega)
        · skip
          exact absurd (of_decide_eq_false hb73) (by omega)
      · cases hc70
    · skip
      replace hb67 := of_decide_eq_false hb67
      refine KT.step rfl rfl (K.move rfl) ?_
      refine KT.step rfl rfl (K.neq rfl rfl) ?_
      refine KT.step rfl rfl (K.pick rfl (fun h => by cases h) (fun _ => rfl)) ?_
      refine KT.nil ?_
      refine thenK_n ?_
      refine KC.cond rfl (fun hc70 => ?_) (fun hc70 => ?_)
      · skip
        replace hc70 := of_decide_eq_true hc70
        refine KC.seq ?_
        refine KC.region ?_
        refine KT.step rfl rfl (K.move rfl) ?_
        refine KT.step rfl rfl (K.eql rfl rfl) ?_
        refine KT.step rfl rfl (K.move rfl) ?_
        refine KT.bcase (fun hb73 => ?_) (fun hb73 => ?_)
        · skip
          replace hb73 := of_decide_eq_true hb73
          refine KT.step rfl rfl (K.move rfl) ?_
          refine KT.step rfl rfl (K.eql rfl rfl) ?_
          refine KT.step rfl rfl (K.pick rfl (fun _ => rfl) (fun h => by cases h)) ?_
          refine KT.step rfl rfl (K.move rfl) ?_
          refine KT.bcase (fun hb77 => ?_) (fun hb77 => ?_)
          · skip
            replace hb77 := of_decide_eq_true hb77
            refine KT.step rfl rfl (K.move rfl) ?_
            refine KT.step rfl rfl (K.eql rfl rfl) ?_
            refine KT.step rfl rfl (K.pick rfl (fun _ => rfl) (fun h => by cases h)) ?_
            refine KT.step rfl rfl (K.move rfl) ?_
            refine KT.bcase (fun hb81 => ?_) (fun hb81 => ?_)
            · skip
              replace hb81 := of_decide_eq_true hb81
              refine KT.step rfl rfl (K.call0 plainTry_24 (awake24)) ?_
              refine KT.step rfl rfl (K.pick rfl (fun _ => rfl) (fun h => by cases h)) ?_
              refine KT.step rfl rfl (K.assign rfl) ?_
              refine KT.nil ?_
              refine thenK_n ?_
              refine KC.ret ?_
              refine thenK_r ?_
              exact ⟨.inl rfl, _, rfl, rfl⟩
            · skip
              exact absurd (of_decide_eq_false hb81) (by omega)
          · skip
            exact absurd (of_decide_eq_false hb77) (by omega)
        · skip
          exact absurd (of_decide_eq_false hb73) (by omega)
      · skip
        replace hc70 := of_decide_eq_false hc70
        have hp0 : powE m (tk : Nat) = 0 := by omega
        obtain ⟨hv, rfl, rfl⟩ := hmp hp0
        obtain ⟨sm, p3⟩ := Cy.Small.of hv
        have n6 := sm.n6
        obtain ⟨_, hmm⟩ := mulF hv (j := tj) (k := tk) (by omega) (by omega)
        obtain ⟨_, hZ⟩ := pow_ok hv (k := tj + tk) (by omega)
        refine KC.skip ?_
        refine thenK_n ?_
        refine KC.seq ?_
        refine KC.seq ?_
        refine KC.region ?_
        refine KT.step rfl rfl (K.move rfl) ?_
        refine KT.step rfl rfl (K.neq rfl rfl) ?_
        refine KT.step rfl rfl (K.move rfl) ?_
        refine KT.bcase (fun hb86 => ?_) (fun hb86 => ?_)
        · skip
          exact absurd rfl (of_decide_eq_true hb86)
        · skip
          replace hb86 := of_decide_eq_false hb86
          refine KT.step rfl rfl (K.move rfl) ?_
          refine KT.step rfl rfl (K.move rfl) ?_
          refine KT.step rfl rfl (K.call2 rfl rfl plainTry_23 (same23 (d := mulD (genM m.length m.length (pwI m.length (mf m) tj)) (genM m.length m.length (pwI m.length (mf m) tk))) (x := genM m.length m.length (pwI m.length (mf m) (tj + tk))) (by have := mulD_mat (genM m.length m.length (pwI m.length (mf m) tj)) (genM m.length m.length (pwI m.length (mf m) tk)); rwa [hmm] at this) hZ (genM_lens (by omega) _).1 (genM_lens (by omega) _).2)) ?_
          refine KT.step rfl rfl (K.not rfl) ?_
          refine KT.step rfl rfl (K.pick rfl (fun h => by cases h) (fun _ => rfl)) ?_
          refine KT.nil ?_
          refine thenK_n ?_
          refine KC.cond rfl (fun hc91 => ?_) (fun hc91 => ?_)
          · skip
            rw [decide_eq_true rfl] at hc91
            cases hc91
          · skip
            refine KC.skip ?_
            refine thenK_n ?_
            refine KC.seq ?_
            refine KC.region ?_
            refine KT.step rfl rfl (K.move rfl) ?_
            refine KT.step rfl rfl (K.call1 rfl plainTry_19 (rows19 hd hl (fun i hi => by rw [show m.getD i [] = m[i] by simp [hi]]; exact hr _ (List.getElem_mem hi)))) ?_
            refine KT.step rfl rfl (K.call1 rfl plainTry_34 (StarF hd hl hr)) ?_
            refine KT.step rfl rfl (K.move rfl) ?_
            refine KT.step rfl rfl (K.extract rfl rfl) ?_
            refine KT.step rfl rfl (K.extract rfl rfl) ?_
            refine KT.step rfl rfl (K.assign rfl) ?_
            refine KT.step rfl rfl (K.assign rfl) ?_
            refine KT.nil ?_
            refine thenK_n ?_
            refine KC.seq ?_
            refine KC.seq ?_
            refine KC.region ?_
            refine KT.step rfl rfl (K.move rfl) ?_
            refine KT.step rfl rfl (K.neq rfl rfl) ?_
            refine KT.nil ?_
            refine thenK_n ?_
            refine KC.cond rfl (fun hc99 => ?_) (fun hc99 => ?_)
            · skip
              replace hc99 := of_decide_eq_true hc99
              refine KC.seq ?_
              refine KC.region ?_
              refine KT.step rfl rfl (K.move rfl) ?_
              refine KT.step rfl rfl (K.eql rfl rfl) ?_
              refine KT.step rfl rfl (K.move rfl) ?_
              refine KT.bcase (fun hb102 => ?_) (fun hb102 => ?_)
              · skip
                replace hb102 := of_decide_eq_true hb102
                refine KT.step rfl rfl (K.call0 plainTry_24 (awake24)) ?_
                refine KT.step rfl rfl (K.pick rfl (fun _ => rfl) (fun h => by cases h)) ?_
                refine KT.step rfl rfl (K.assign rfl) ?_
                refine KT.nil ?_
                refine thenK_n ?_
                refine KC.ret ?_
                refine thenK_r ?_
                exact ⟨.inl rfl, _, rfl, rfl⟩
              · skip
                exact absurd (of_decide_eq_false hb102) (by have := starE_or m hv; omega)
            · skip
              replace hc99 := of_decide_eq_false hc99
              have hs0 : starE m = 0 := by omega
              refine KC.skip ?_
              refine thenK_n ?_
              refine KC.seq ?_
              refine KC.region ?_
              refine KT.step rfl rfl (K.assign rfl) ?_
              refine KT.nil ?_
              refine thenK_n ?_
              refine KC.seq ?_
              refine KC.seq ?_
              refine KC.region ?_
              refine KT.step rfl rfl (K.move rfl) ?_
              refine KT.step rfl rfl (K.len rfl hd Try.underlying22) ?_
              refine KT.step rfl rfl (K.move rfl) ?_
              refine KT.nil ?_
              refine thenK_n ?_
              refine KC.block ?_
              refine KC.loop (fun n : Nat => bSg m.length (mf m) n) (fun n => [(0, .d d), (15, .d (starD (fewM m))), (16, bX m.length n), (106, .d (DI (m.length : Nat))), (107, .d (DI (n : Nat)))]) (fun n => n ≤ m.length) (fun n => m.length - n) 0 (Nat.zero_le _) rfl (by simp [Go.Vm.look, extK, enterK, bX]) ?_
              intro n hn
              refine KC.seq ?_
              refine KC.region ?_
              refine KT.step rfl rfl (K.lss rfl rfl) ?_
              refine KT.nil ?_
              refine thenK_n ?_
              refine KC.seq ?_
              refine KC.cond rfl (fun hc108 => ?_) (fun hc108 => ?_)
              · skip
                replace hc108 := of_decide_eq_true hc108
                refine KC.skip ?_
                refine thenK_n ?_
                refine KC.seq ?_
                refine KC.block ?_
                refine KC.seq ?_
                refine KC.region ?_
                refine KT.step rfl rfl (K.move rfl) ?_
                refine KT.step rfl rfl (K.assign rfl) ?_
                refine KT.nil ?_
                refine thenK_n ?_
                refine KC.seq ?_
                refine KC.region ?_
                refine KT.step rfl rfl (K.move rfl) ?_
                refine KT.step rfl rfl (K.call1 rfl plainTry_19 (rows19 hd hl (fun i hi => by rw [show m.getD i [] = m[i] by simp [hi]]; exact hr _ (List.getElem_mem hi)))) ?_
                refine KT.step rfl rfl (K.move rfl) ?_
                rcases n with _ | n
                · skip
                  refine KT.step rfl rfl (K.callO (xs := [.d (rows8 m d), .d (DI (0 : Nat))]) rfl plainTry_21 (by have := pow_zero fm (few_len m).1 (few_len m).2 (by rw [few_validB]; exact hv); rw [few_valid hv] at this; exact this)) ?_
                  rw [bO_gP]
                  refine KT.step rfl rfl (K.move rfl) ?_
                  refine KT.step rfl rfl (K.extractX rfl rfl) ?_
                  refine KT.step rfl rfl (K.extractX rfl rfl) ?_
                  refine KT.step rfl rfl (K.assign rfl) ?_
                  refine KT.step rfl rfl (K.assign rfl) ?_
                  refine KT.nil ?_
                  refine thenK_n ?_
                  refine KC.seq ?_
                  refine KC.seq ?_
                  refine KC.region ?_
                  refine KT.step rfl rfl (K.move rfl) ?_
                  refine KT.step rfl rfl (K.neq rfl rfl) ?_
                  refine KT.step rfl rfl (K.move rfl) ?_
                  refine KT.bcase (fun hb119 => ?_) (fun hb119 => ?_)
                  · skip
                    exact absurd rfl (of_decide_eq_true hb119)
                  · skip
                    replace hb119 := of_decide_eq_false hb119
                    refine KT.step rfl rfl (K.move rfl) ?_
                    refine KT.step rfl rfl (K.lenO rfl Try.underlying22) ?_
                    refine KT.step rfl rfl (K.move rfl) ?_
                    refine KT.step rfl rfl (K.len rfl hd Try.underlying22) ?_
                    refine KT.step rfl rfl (K.neq rfl rfl) ?_
                    refine KT.step rfl rfl (K.pick rfl (fun h => by cases h) (fun _ => rfl)) ?_
                    refine KT.nil ?_
                    refine thenK_n ?_
                    refine KC.cond rfl (fun hc125 => ?_) (fun hc125 => ?_)
                    · skip
                      exact absurd rfl (of_decide_eq_true hc125)
                    · skip
                      replace hc125 := of_decide_eq_false hc125
                      refine KC.skip ?_
                      refine thenK_n ?_
                      refine KC.seq ?_
                      refine KC.seq ?_
                      refine KC.region ?_
                      refine KT.step rfl rfl (K.move rfl) ?_
                      refine KT.step rfl rfl (K.eql rfl rfl) ?_
                      refine KT.nil ?_
                      refine thenK_n ?_
                      refine KC.cond rfl (fun hc127 => ?_) (fun hc127 => ?_)
                      · skip
                        replace hc127 := of_decide_eq_true hc127
                        refine KC.seq ?_
                        refine KC.region ?_
                        refine KT.step rfl rfl (K.move rfl) ?_
                        refine KT.step rfl rfl (K.assign rfl) ?_
                        refine KT.nil ?_
                        refine thenK_n ?_
                        refine KC.exit ?_
                        refine thenK_x ?_
                        refine blockK_e ?_
                        refine thenK_n ?_
                        refine KC.region ?_
                        refine KT.step rfl rfl (K.add rfl rfl (wrap_id (by omega))) ?_
                        refine KT.step rfl rfl (K.move rfl) ?_
                        refine KT.nil ?_
                        refine thenK_n ?_
                        exact ⟨1, by omega, by omega, rfl, by simp [Go.Vm.look, extK, bX]⟩
                      · skip
                        exact absurd rfl (of_decide_eq_false hc127)
                · skip
                  refine KT.step rfl rfl (K.call2 rfl rfl plainTry_21 (PowF hd hl hr (n + 1))) ?_
                  obtain ⟨pe, hP⟩ := pow_ok hv (k := n + 1) (by omega)
                  refine KT.step rfl rfl (K.move rfl) ?_
                  refine KT.step rfl rfl (K.extract rfl rfl) ?_
                  refine KT.step rfl rfl (K.extract rfl rfl) ?_
                  refine KT.step rfl rfl (K.assign rfl) ?_
                  refine KT.step rfl rfl (K.assign rfl) ?_
                  refine KT.nil ?_
                  refine thenK_n ?_
                  refine KC.seq ?_
                  refine KC.seq ?_
                  refine KC.region ?_
                  refine KT.step rfl rfl (K.move rfl) ?_
                  refine KT.step rfl rfl (K.neq rfl rfl) ?_
                  refine KT.step rfl rfl (K.move rfl) ?_
                  refine KT.bcase (fun hb119 => ?_) (fun hb119 => ?_)
                  · skip
                    exact absurd pe (of_decide_eq_true hb119)
                  · skip
                    replace hb119 := of_decide_eq_false hb119
                    refine KT.step rfl rfl (K.move rfl) ?_
                    refine KT.step rfl rfl (K.len rfl hP Try.underlying22) ?_
                    rw [genM_len]
                    refine KT.step rfl rfl (K.move rfl) ?_
                    refine KT.step rfl rfl (K.len rfl hd Try.underlying22) ?_
                    refine KT.step rfl rfl (K.neq rfl rfl) ?_
                    refine KT.step rfl rfl (K.pick rfl (fun h => by cases h) (fun _ => rfl)) ?_
                    refine KT.nil ?_
                    refine thenK_n ?_
                    refine KC.cond rfl (fun hc125 => ?_) (fun hc125 => ?_)
                    · skip
                      exact absurd rfl (of_decide_eq_true hc125)
                    · skip
                      replace hc125 := of_decide_eq_false hc125
                      refine KC.skip ?_
                      refine thenK_n ?_
                      refine KC.seq ?_
                      refine KC.seq ?_
                      refine KC.region ?_
                      refine KT.step rfl rfl (K.move rfl) ?_
                      refine KT.step rfl rfl (K.eql rfl rfl) ?_
                      refine KT.nil ?_
                      refine thenK_n ?_
                      refine KC.cond rfl (fun hc127 => ?_) (fun hc127 => ?_)
                      · skip
                        exact absurd (of_decide_eq_true hc127) (by omega)
                      · skip
                        replace hc127 := of_decide_eq_false hc127
                        refine KC.skip ?_
                        refine thenK_n ?_
                        refine KC.seq ?_
                        refine KC.region ?_
                        skip
                        refine KT.step rfl rfl (K.move rfl) ?_
                        refine KT.step rfl rfl (K.len rfl hP Try.underlying22) ?_
                        rw [genM_len]
                        refine KT.step rfl rfl (K.move rfl) ?_
                        refine KT.nil ?_
                        refine thenK_n ?_
                        refine KC.block ?_
                        refine KC.loop (fun r : Nat => bO m.length (mixF m.length (mf m) n r 0)) (fun r => [(0, .d d), (15, .d (starD (fewM m))), (16, .osl 0 0 m.length 1 m.length true), (106, .d (DI (m.length : Nat))), (107, .d (DI ((n + 1 : Nat) : Int))), (129, .d (powD (fewM m) ((n + 1 : Nat) : Int))), (130, .d (DI (m.length : Nat))), (131, .d (DI (r : Nat)))]) (fun r => r ≤ m.length) (fun r => m.length - r) 0 (Nat.zero_le _) (by rw [mixF_zero]; rfl) (by simp [Go.Vm.look, extK, bX]) ?_
                        intro r hr2
                        refine KC.seq ?_
                        refine KC.region ?_
                        refine KT.step rfl rfl (K.lss rfl rfl) ?_
                        refine KT.nil ?_
                        refine thenK_n ?_
                        refine KC.seq ?_
                        refine KC.cond rfl (fun hc132 => ?_) (fun hc132 => ?_)
                        · skip
                          replace hc132 := of_decide_eq_true hc132
                          refine KC.skip ?_
                          refine thenK_n ?_
                          refine KC.seq ?_
                          refine KC.block ?_
                          refine KC.seq ?_
                          refine KC.region ?_
                          refine KT.step rfl rfl (K.move rfl) ?_
                          refine KT.idx rfl rfl rfl hP rfl (by rw [genM_len]; omega) Try.underlying22 Try.size33 fun c134 cs134 hq134 => ?_
                          rw [genM_row] at hq134
                          refine KT.step rfl rfl (K.load rfl Try.agg33) ?_
                          refine KT.step rfl rfl (K.assign rfl) ?_
                          refine KT.step rfl rfl (K.assign rfl) ?_
                          refine KT.nil ?_
                          refine thenK_n ?_
                          refine KC.seq ?_
                          refine KC.seq ?_
                          refine KC.region ?_
                          refine KT.step rfl rfl (K.move rfl) ?_
                          refine KT.step rfl rfl (K.len rfl hq134 Try.underlying33) ?_
                          rw [List.length_map, List.length_range]
                          refine KT.step rfl rfl (K.move rfl) ?_
                          refine KT.step rfl rfl (K.move rfl) ?_
                          refine KT.step rfl rfl (K.idxO rfl rfl (by omega) Try.underlying22 Try.size33) ?_
                          refine KT.step rfl rfl (K.loadO rfl rfl (by simp) (bO_out (by omega)) Try.agg33) ?_
                          refine KT.step rfl rfl (K.lenO rfl Try.underlying33) ?_
                          refine KT.step rfl rfl (K.neq rfl rfl) ?_
                          refine KT.nil ?_
                          refine thenK_n ?_
                          refine KC.cond rfl (fun hc143 => ?_) (fun hc143 => ?_)
                          · skip
                            exact absurd rfl (of_decide_eq_true hc143)
                          · skip
                            replace hc143 := of_decide_eq_false hc143
                            refine KC.skip ?_
                            refine thenK_n ?_
                            refine KC.seq ?_
                            refine KC.region ?_
                            refine KT.step rfl rfl (K.move rfl) ?_
                            refine KT.step rfl rfl (K.len rfl hq134 Try.underlying33) ?_
                            rw [List.length_map, List.length_range]
                            refine KT.step rfl rfl (K.move rfl) ?_
                            refine KT.nil ?_
                            refine thenK_n ?_
                            refine KC.block ?_
                            refine KC.loop (fun c : Nat => bO m.length (mixF m.length (mf m) n r c)) (fun c => [(0, .d d), (15, .d (starD (fewM m))), (16, .osl 0 0 m.length 1 m.length true), (106, .d (DI (m.length : Nat))), (107, .d (DI ((n + 1 : Nat) : Int))), (129, .d (powD (fewM m) ((n + 1 : Nat) : Int))), (130, .d (DI (m.length : Nat))), (131, .d (DI (r : Nat))), (20, .d (DI (r : Nat))), (144, .d c134), (145, .d (DI (m.length : Nat))), (146, .d (DI (c : Nat)))]) (fun c => c ≤ m.length) (fun c => m.length - c) 0 (Nat.zero_le _) rfl (by simp [Go.Vm.look, extK, enterK]) ?_
                            intro c hc2
                            refine KC.seq ?_
                            refine KC.region ?_
                            refine KT.step rfl rfl (K.lss rfl rfl) ?_
                            refine KT.nil ?_
                            refine thenK_n ?_
                            refine KC.seq ?_
                            refine KC.cond rfl (fun hc147 => ?_) (fun hc147 => ?_)
                            · skip
                              replace hc147 := of_decide_eq_true hc147
                              refine KC.skip ?_
                              refine thenK_n ?_
                              refine KC.seq ?_
                              refine KC.block ?_
                              refine KC.seq ?_
                              refine KC.region ?_
                              refine KT.step rfl rfl (K.move rfl) ?_
                              refine KT.idxI rfl rfl rfl hq134 rfl (by simp; omega) Try.underlying33 Try.size3 fun cs149 => ?_
                              skip
                              rw [get_range]
                              refine KT.step rfl rfl (K.load rfl Try.agg3) ?_
                              refine KT.step rfl rfl (K.assign rfl) ?_
                              refine KT.step rfl rfl (K.assign rfl) ?_
                              refine KT.nil ?_
                              refine thenK_n ?_
                              refine KC.draw Try.mixed ?_
                              refine KT.step rfl rfl (K.move rfl) ?_
                              refine KT.step rfl rfl (K.move rfl) ?_
                              refine KT.step rfl rfl (K.idxO rfl rfl (by omega) Try.underlying22 Try.size33) ?_
                              refine KT.step rfl rfl (K.loadO rfl rfl (by simp) (bO_out (by omega)) Try.agg33) ?_
                              refine KT.step rfl rfl (K.move rfl) ?_
                              refine KT.step rfl rfl (K.move rfl) ?_
                              refine KT.step rfl rfl (K.move rfl) ?_
                              refine KT.step rfl rfl (K.idxO rfl rfl (by omega) Try.underlying22 Try.size33) ?_
                              refine KT.step rfl rfl (K.loadO rfl rfl (by simp) (bO_out (by omega)) Try.agg33) ?_
                              refine KT.step rfl rfl (K.move rfl) ?_
                              refine KT.step rfl rfl (K.idxO rfl rfl (by omega) Try.underlying33 Try.size3) ?_
                              refine KT.step rfl rfl (K.loadO rfl (bO_row (by omega)) (by simp) (bO_cell (by omega)) Try.agg3) ?_
                              refine KT.step rfl rfl (K.move rfl) ?_
                              refine KT.step rfl rfl (K.max2 rfl rfl) ?_
                              rw [mixF_at]
                              refine KT.step rfl rfl (K.idxO rfl rfl (by omega) Try.underlying33 Try.size3) ?_
                              refine KT.step rfl rfl (K.storeO rfl rfl (bO_row (by omega)) (by simp; omega) rfl rfl Try.size3) ?_
                              refine KT.nil ?_
                              refine ⟨by kernel_rfl, ?_⟩
                              refine blockK_n ?_
                              refine thenK_n ?_
                              refine KC.region ?_
                              refine KT.step rfl rfl (K.add rfl rfl (wrap_id (by omega))) ?_
                              refine KT.step rfl rfl (K.move rfl) ?_
                              refine KT.nil ?_
                              refine thenK_n ?_
                              refine ⟨c + 1, by omega, by omega, mixF_step (by omega) rfl, by simp [Go.Vm.look, extK]⟩
                            · skip
                              replace hc147 := of_decide_eq_false hc147
                              refine KC.exit ?_
                              refine thenK_x ?_
                              refine thenK_x ?_
                              refine blockK_e ?_
                              refine blockK_n ?_
                              refine thenK_n ?_
                              refine KC.region ?_
                              refine KT.step rfl rfl (K.add rfl rfl (wrap_id (by omega))) ?_
                              refine KT.step rfl rfl (K.move rfl) ?_
                              refine KT.nil ?_
                              refine thenK_n ?_
                              obtain rfl : c = m.length := by omega
                              refine ⟨r + 1, by omega, by omega, ?_, by simp [Go.Vm.look, extK]⟩
                              rw [mixF_row]
                        · skip
                          replace hc132 := of_decide_eq_false hc132
                          refine KC.exit ?_
                          refine thenK_x ?_
                          refine thenK_x ?_
                          refine blockK_e ?_
                          refine blockK_n ?_
                          refine thenK_n ?_
                          refine KC.region ?_
                          refine KT.step rfl rfl (K.add rfl rfl (wrap_id (by omega))) ?_
                          refine KT.step rfl rfl (K.move rfl) ?_
                          refine KT.nil ?_
                          refine thenK_n ?_
                          obtain rfl : r = m.length := by omega
                          refine ⟨n + 1 + 1, by omega, by omega, ?_, by simp [Go.Vm.look, extK, bX]⟩
                          show bO _ _ = bO _ _
                          rw [mixF_done]
              · skip
                replace hc108 := of_decide_eq_false hc108
                refine KC.exit ?_
                refine thenK_x ?_
                refine thenK_x ?_
                refine blockK_e ?_
                refine thenK_n ?_
                refine KC.seq ?_
                refine KC.region ?_
                refine KT.step rfl rfl (K.move rfl) ?_
                refine KT.step rfl rfl (K.move rfl) ?_
                rcases n with _ | n
                · exfalso; have := sm.n1; omega
                obtain rfl : n = m.length - 1 := by omega
                have hcw := sm.cur_ways
                have hfz : freezeIds (bO m.length (curI m.length (mf m) (m.length - 1))) (List.range (bO m.length (curI m.length (mf m) (m.length - 1))).length) = freezeAll (bO m.length (curI m.length (mf m) (m.length - 1))) := freeze_range _
                have hsD : starM m = genM m.length m.length (waysI m.length (mf m)) := if_pos hs0
                have hsm : Mat (starD (fewM m)) (starM m) := by have := starD_mat (fewM m); rwa [few_starM] at this
                refine KT.step rfl rfl (K.callZ (xs := [.osl 0 0 m.length 1 m.length true, .d (starD (fewM m))]) (ds := [genD m.length m.length (curI m.length (mf m) (m.length - 1)), starD (fewM m)]) (List.range (bO m.length (curI m.length (mf m) (m.length - 1))).length) 5 rfl plainTry_23 (by
                  show List.mapM (deepen (freezeIds (bO m.length (curI m.length (mf m) (m.length - 1))) _) 5) _ = _
                  rw [hfz, List.mapM_cons, List.mapM_cons, bO_fin]; rfl) (same23 genD_mat hsm (genM_lens (by omega) _).1 (genM_lens (by omega) _).2)) ?_
                refine KT.step rfl rfl (K.move rfl) ?_
                refine KT.bcase (fun hb172 => ?_) (fun hb172 => ?_)
                · skip
                  refine KT.step rfl rfl (K.call0 plainTry_24 (awake24)) ?_
                  refine KT.step rfl rfl (K.pick rfl (fun _ => rfl) (fun h => by cases h)) ?_
                  refine KT.step rfl rfl (K.assign rfl) ?_
                  refine KT.nil ?_
                  refine thenK_n ?_
                  refine KC.ret ?_
                  exact ⟨.inl rfl, _, rfl, rfl⟩
                · skip
                  exact absurd (show genM m.length m.length (curI m.length (mf m) (m.length - 1)) = starM m by rw [hsD, hcw]) (of_decide_eq_false hb172)
end Go.Proofs.Ythbnnffmhnjpjaa
