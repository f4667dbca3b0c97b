import Derived.Test.YtjfpeiioddfjcaaZnZi
import Derived.Test.YtjfpeiioddfjcaaZnJ0
/-
  Automata: the program checks a run.
-/
namespace Go.Proofs.Ytjfpeiioddfjcaa
open Go.Vm Go.Zn
theorem plainTry_48 : plainFn Try.prog 48 = true := by kernel_rfl

def crR (c : Int) (I : List (List G3)) (E : List Ed) (den : Int) (W Q : List Int) : Int × Bool := if rightB c I E then runM 4 0 I E den W Q else (0, false)
def crE (c : Int) (I : List (List G3)) (E : List Ed) : Int := if rightB c I E then 0 else 2
theorem fin_ibe {σ : List VObj} {k : Nat} {x e e' : Int} {b : Bool} {r : Int × Bool} (h : r = (x, b)) (he : e' = e) : deepen σ (k + 3) (.tup [.d (DI x), .d (DB b), .d (DI e)]) = some (.tup [DI r.1, DB r.2, DI e']) := by subst h he; rfl
set_option maxRecDepth 10000 in
theorem CheckRun48 {iD eD wD kD : DV} {I : List (List G3)} {E : List Ed} {W Q : List Int} {c den : Int} (hI : GdsL iD I) (hE : Eds eD E) (hIl : I.length ≤ 9223372036854775807) (hEl : E.length ≤ 9223372036854775807) (hIr : ∀ L ∈ I, L.length ≤ 9223372036854775807) (hEr : ∀ e ∈ E, e.2.2.1.length ≤ 9223372036854775807) (hW : Ints wD W) (hK : Ints kD Q) (hWl : W.length ≤ 9223372036854775807) (hKl : Q.length ≤ 9223372036854775807) : DeepCall Try.prog 48 [.agg [DI c, iD, eD], .agg [DI den, wD, kD]] (.tup [DI (crR c I E den W Q).1, DB (crR c I E den W Q).2, DI (crE c I E)]) := by
  refine deepCall_K 5 Try.func48 rfl (Nat.le_of_ble_eq_true rfl) fun M W0 => ?_
  refine KC.seq ?_
  refine KC.region ?_
  refine KT.step rfl rfl (K.box rfl) ?_
  refine KT.step rfl rfl (K.box rfl) ?_
  refine KT.step rfl rfl (K.assign rfl) ?_
  refine KT.step rfl rfl (K.assign rfl) ?_
  refine KT.step rfl rfl (K.assign rfl) ?_
  refine KT.nil ?_
  refine thenK_n ?_
  refine KC.seq ?_
  refine KC.seq ?_
  refine KC.region ?_
  refine KT.step rfl rfl (K.loadOA [DI c, iD, eD] rfl rfl (by decide) Try.agg62 Try.size62 rfl) ?_
  refine KT.step rfl rfl (K.call1 rfl plainTry_77 (valid77 hI hE hIl hEl hIr hEr)) ?_
  refine KT.step rfl rfl (K.not rfl) ?_
  refine KT.nil ?_
  refine thenK_n ?_
  refine KC.cond rfl (fun hc11 => ?_) (fun hc11 => ?_)
  · skip
    rw [Bool.not_eq_true'] at hc11
    refine KC.seq ?_
    refine KC.region ?_
    refine KT.step rfl rfl (K.assign rfl) ?_
    refine KT.step rfl rfl (K.assign rfl) ?_
    refine KT.step rfl rfl (K.assign rfl) ?_
    refine KT.nil ?_
    refine thenK_n ?_
    refine KC.ret ?_
    refine thenK_r ?_
    exact ⟨.inl rfl, _, rfl, fin_ibe (by unfold crR; rw [hc11]; rfl) (by unfold crE; rw [hc11]; rfl)⟩
  · skip
    rw [Bool.not_eq_false'] at hc11
    have hr := hc11
    obtain ⟨c, rfl⟩ := Int.eq_ofNat_of_zero_le (show 0 ≤ c by have := (rightB_iff.1 hr).1.1.1; omega)
    refine KC.skip ?_
    refine thenK_n ?_
    refine KC.seq ?_
    refine KC.region ?_
    refine KT.step rfl rfl (K.loadOA [DI (c : Nat), iD, eD] rfl rfl (by decide) Try.agg62 Try.size62 rfl) ?_
    refine KT.step rfl rfl (K.loadOA [DI den, wD, kD] rfl rfl (by decide) Try.agg67 Try.size67 rfl) ?_
    refine KT.step rfl rfl (K.call2 rfl rfl plainTry_88 (follow88 hI hE hW hK hr hWl hKl)) ?_
    refine KT.step rfl rfl (K.move rfl) ?_
    refine KT.step rfl rfl (K.extract rfl rfl) ?_
    refine KT.step rfl rfl (K.extract rfl rfl) ?_
    refine KT.step rfl rfl (K.assign rfl) ?_
    refine KT.step rfl rfl (K.assign rfl) ?_
    refine KT.nil ?_
    refine thenK_n ?_
    refine KC.seq ?_
    refine KC.region ?_
    refine KT.step rfl rfl (K.move rfl) ?_
    refine KT.step rfl rfl (K.move rfl) ?_
    refine KT.step rfl rfl (K.assign rfl) ?_
    refine KT.step rfl rfl (K.assign rfl) ?_
    refine KT.step rfl rfl (K.assign rfl) ?_
    refine KT.nil ?_
    refine thenK_n ?_
    refine KC.ret ?_
    exact ⟨.inl rfl, _, rfl, fin_ibe (by unfold crR; rw [hr]; rfl) (by unfold crE; rw [hr]; rfl)⟩

def trE (e : Ed) : Ed := (e.1, e.2.1, e.2.2.1.take 8, e.2.2.2)
def trI (I : List (List G3)) : List (List G3) := (I.take 7).map (List.take 8)
def trEs (E : List Ed) : List Ed := (E.take 10).map trE
theorem ofI_gds (I : List (List G3)) : GdsL (ofI I) (trI I) := by
  unfold ofI trI
  split
  · rename_i h
    have h1 := congrArg List.length h
    unfold iCs at h1
    rw [List.length_map, List.length_nil] at h1
    rw [List.eq_nil_of_length_eq_zero h1]; exact .nil
  · have : GdsL (.sl (iCs (I.take 7)) ((I.take 7).map (List.take 8)).length none) ((I.take 7).map (List.take 8)) := .sl (by unfold iCs; simp) fun i c x hc hx => by
      unfold iCs at hc
      rw [List.getElem?_map] at hc hx
      cases hq : (I.take 7)[i]? with
      | none => rw [hq] at hc; cases hc
      | some L => rw [hq] at hc hx; cases hc; cases hx; exact gdC_gds L
    rwa [List.length_map] at this
theorem flat_eCs (E : List Ed) : eCs E = (E.map edCs).flatten := by
  unfold eCs
  rw [List.flatMap_def]
theorem ofE_eds (E : List Ed) : Eds (ofE E) (trEs E) := by
  unfold ofE trEs
  split
  · rename_i h
    have h1 := congrArg List.length h
    rw [eCs_len, List.length_nil] at h1
    have h2 : (E.take 10).length = 0 := by omega
    rw [List.eq_nil_of_length_eq_zero h2]; exact .nil
  · rw [flat_eCs]
    have : Eds (.sl ((E.take 10).map edCs).flatten ((E.take 10).map trE).length none) ((E.take 10).map trE) := .sl (by simp) fun i h1 h2 => by
      rw [List.getElem_map, List.getElem_map]
      exact .mk (e := trE _) (gdC_gds _)
    rwa [List.length_map] at this
theorem okL_take {c : Int} {L : List G3} : okL c (L.take 8) = okL c L := by
  by_cases h : L.length ≤ 6
  · rw [List.take_of_length_le (by omega)]
  · rw [okL_long h, okL_long (by rw [List.length_take]; omega)]
theorem okEd_tr {c n : Nat} {e : Ed} : okEd c n (trE e) = okEd c n e := by
  unfold okEd trE
  rw [okL_take]
theorem right_tr {c : Int} {I : List (List G3)} {E : List Ed} : rightB c (trI I) (trEs E) = rightB c I E := by
  by_cases hI : I.length ≤ 5
  · by_cases hE : E.length ≤ 8
    · unfold rightB trI trEs
      rw [List.take_of_length_le (show I.length ≤ 7 by omega), List.take_of_length_le (show E.length ≤ 10 by omega), List.length_map, List.length_map, List.all_map, List.all_map]
      have e1 : (okL c ∘ List.take 8) = okL c := funext fun L => okL_take
      have e2 : (okEd c.toNat I.length ∘ trE) = okEd c.toNat I.length := funext fun e => okEd_tr
      rw [e1, e2]
    · have h1 : rightB c I E = false := Bool.eq_false_iff.2 fun h => by have := (rightB_iff.1 h).1.2.2; omega
      have h2 : rightB c (trI I) (trEs E) = false := Bool.eq_false_iff.2 fun h => by
        have := (rightB_iff.1 h).1.2.2
        unfold trEs at this
        rw [List.length_map, List.length_take] at this; omega
      rw [h1, h2]
  · have h1 : rightB c I E = false := Bool.eq_false_iff.2 fun h => by have := (rightB_iff.1 h).1.2.1.2; omega
    have h2 : rightB c (trI I) (trEs E) = false := Bool.eq_false_iff.2 fun h => by
      have := (rightB_iff.1 h).1.2.1.2
      unfold trI at this
      rw [List.length_map, List.length_take] at this; omega
    rw [h1, h2]
theorem okL_id {c : Int} {L : List G3} (h : okL c L = true) : L.take 8 = L := by
  unfold okL at h
  rw [Bool.and_eq_true] at h
  exact List.take_of_length_le (by have := of_decide_eq_true h.1; omega)
theorem tr_id {c : Int} {I : List (List G3)} {E : List Ed} (h : rightB c I E = true) : trI I = I ∧ trEs E = E := by
  obtain ⟨⟨h1, h2, h3⟩, h4, h5⟩ := rightB_iff.1 h
  unfold trI trEs
  rw [List.take_of_length_le (show I.length ≤ 7 by omega), List.take_of_length_le (show E.length ≤ 10 by omega)]
  refine ⟨?_, ?_⟩
  · have : I.map (List.take 8) = I.map id := List.map_congr_left fun L hL => by
      obtain ⟨q, hq, rfl⟩ := List.getElem_of_mem hL
      exact okL_id (h4 q hq)
    rw [this, List.map_id]
  · have : E.map trE = E.map id := List.map_congr_left fun e he => by
      obtain ⟨q, hq, rfl⟩ := List.getElem_of_mem he
      have hk := (okEd_iff.1 (h5 q hq)).2.2.1
      show (E[q].1, E[q].2.1, E[q].2.2.1.take 8, E[q].2.2.2) = E[q]
      rw [okL_id hk]
    rw [this, List.map_id]
theorem tr_len (I : List (List G3)) (E : List Ed) : ((trI I).length ≤ 9223372036854775807 ∧ (trEs E).length ≤ 9223372036854775807) ∧ (∀ L ∈ trI I, L.length ≤ 9223372036854775807) ∧ ∀ e ∈ trEs E, e.2.2.1.length ≤ 9223372036854775807 := by
  unfold trI trEs
  refine ⟨⟨by rw [List.length_map, List.length_take]; omega, by rw [List.length_map, List.length_take]; omega⟩, fun L hL => ?_, fun e he => ?_⟩
  · obtain ⟨L, _, rfl⟩ := List.mem_map.1 hL
    rw [List.length_take]; omega
  · obtain ⟨e, _, rfl⟩ := List.mem_map.1 he
    show (e.2.2.1.take 8).length ≤ _
    rw [List.length_take]; omega

theorem buildR67 (a : Int) : pureRun Try.prog (Instr.build 67 #[(0, .int .i64 a), (1, .slice none 0 0), (2, .slice none 0 0)]) = some (.agg #[.int .i64 a, .slice none 0 0, .slice none 0 0]) := by kernel_rfl
end Go.Proofs.Ytjfpeiioddfjcaa

