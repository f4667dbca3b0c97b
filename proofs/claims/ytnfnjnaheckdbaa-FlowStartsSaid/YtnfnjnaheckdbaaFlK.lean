import Derived.Test.YtnfnjnaheckdbaaFlJ
/-
  Dataflow graphs: what the reference says of loads; the closed call.
-/
namespace Go.Proofs.Ytnfnjnaheckdbaa
open Go.Vm Go.Fl
theorem plainTry_51 : plainFn Try.prog 51 = true := by kernel_rfl
theorem plainTry_37 : plainFn Try.prog 37 = true := by kernel_rfl
theorem plainTry_21 : plainFn Try.prog 21 = true := by kernel_rfl
theorem plainTry_22 : plainFn Try.prog 22 = true := by kernel_rfl
set_option maxRecDepth 10000 in
theorem equal21 {d e : DV} {x y : List Int} (hd : Ints d x) (he : Ints e y) (hl : x.length ≤ 9223372036854775807) :
    DeepCall Try.prog 21 [d, e] (DB (decide (x = y))) := by
  refine deepCall_K 5 Try.func21 rfl (Nat.le_of_ble_eq_true rfl) fun M W0 => ?_
  refine KC.seq ?_
  refine KC.region ?_
  refine KT.step rfl rfl (K.assign rfl) ?_
  refine KT.nil ?_
  refine thenK_n ?_
  refine KC.seq ?_
  refine KC.seq ?_
  refine KC.region ?_
  refine KT.step rfl rfl (K.move rfl) ?_
  refine KT.step rfl rfl (K.len rfl (by assumption) Try.underlying25) ?_
  refine KT.step rfl rfl (K.move rfl) ?_
  refine KT.step rfl rfl (K.len rfl (by assumption) Try.underlying25) ?_
  refine KT.step rfl rfl (K.neq rfl rfl) ?_
  refine KT.nil ?_
  refine thenK_n ?_
  refine KC.cond rfl (fun hc10 => ?_) (fun hc10 => ?_)
  · skip
    replace hc10 := of_decide_eq_true hc10
    refine KC.seq ?_
    refine KC.region ?_
    refine KT.step rfl rfl (K.assign rfl) ?_
    refine KT.nil ?_
    refine thenK_n ?_
    refine KC.ret ?_
    refine thenK_r ?_
    exact ⟨.inl rfl, _, rfl, fin_b (decide_eq_false fun h => by subst h; omega)⟩
  · skip
    replace hc10 := of_decide_eq_false hc10
    refine KC.skip ?_
    refine thenK_n ?_
    refine KC.seq ?_
    refine KC.seq ?_
    refine KC.region ?_
    refine KT.step rfl rfl (K.move rfl) ?_
    refine KT.step rfl rfl (K.len rfl (by assumption) Try.underlying25) ?_
    refine KT.step rfl rfl (K.move rfl) ?_
    refine KT.nil ?_
    refine thenK_n ?_
    refine KC.block ?_
    refine KC.loop (fun _ : Nat => []) (fun i => [(0, .d d), (1, .d e), (12, .d (DI x.length)), (13, .d (DI i))]) (fun i => i ≤ x.length ∧ x.take i = y.take i) (fun i => x.length - i) 0 ⟨Nat.zero_le _, rfl⟩ rfl (by simp [Go.Vm.look, extK, enterK]) ?_
    intro i hi
    obtain ⟨hi, hall⟩ := hi
    refine KC.seq ?_
    refine KC.region ?_
    refine KT.step rfl rfl (K.lss rfl rfl) ?_
    refine KT.nil ?_
    refine thenK_n ?_
    refine KC.seq ?_
    refine KC.cond rfl (fun hc14 => ?_) (fun hc14 => ?_)
    · skip
      replace hc14 := of_decide_eq_true hc14
      refine KC.skip ?_
      refine thenK_n ?_
      refine KC.seq ?_
      refine KC.block ?_
      refine KC.seq ?_
      refine KC.region ?_
      refine KT.step rfl rfl (K.move rfl) ?_
      refine KT.step rfl rfl (K.assign rfl) ?_
      refine KT.nil ?_
      refine thenK_n ?_
      refine KC.seq ?_
      refine KC.draw Try.mixed ?_
      refine KT.step rfl rfl (K.move rfl) ?_
      refine KT.step rfl rfl (K.move rfl) ?_
      refine KT.idxI rfl rfl rfl (by assumption) rfl (by omega) Try.underlying25 Try.size3 fun cs18 => ?_
      refine KT.step rfl rfl (K.load rfl Try.agg3) ?_
      refine KT.step rfl rfl (K.move rfl) ?_
      refine KT.step rfl rfl (K.move rfl) ?_
      refine KT.idxI rfl rfl rfl (by assumption) rfl (by omega) Try.underlying25 Try.size3 fun cs22 => ?_
      refine KT.step rfl rfl (K.load rfl Try.agg3) ?_
      refine KT.step rfl rfl (K.neq rfl rfl) ?_
      refine KT.nil ?_
      refine ⟨by kernel_rfl, ?_⟩
      refine thenK_n ?_
      refine KC.cond rfl (fun hc24 => ?_) (fun hc24 => ?_)
      · skip
        replace hc24 := of_decide_eq_true hc24
        refine KC.seq ?_
        refine KC.region ?_
        refine KT.step rfl rfl (K.assign rfl) ?_
        refine KT.nil ?_
        refine thenK_n ?_
        refine KC.ret ?_
        refine blockK_r ?_
        refine thenK_r ?_
        refine thenK_r ?_
        refine blockK_r ?_
        refine thenK_r ?_
        exact ⟨.inl rfl, _, rfl, fin_b (decide_eq_false fun h => by subst h; exact hc24 rfl)⟩
      · skip
        replace hc24 := of_decide_eq_false hc24
        refine KC.skip ?_
        refine blockK_n ?_
        refine thenK_n ?_
        refine KC.region ?_
        refine KT.step rfl rfl (K.add rfl rfl (wrap_id (by omega))) ?_
        refine KT.step rfl rfl (K.move rfl) ?_
        refine KT.nil ?_
        refine thenK_n ?_
        refine ⟨i + 1, ⟨by omega, ?_⟩, by omega, rfl, by simp [Go.Vm.look, extK]⟩
        rw [List.take_succ_eq_append_getElem (by omega), List.take_succ_eq_append_getElem (by omega), hall, Classical.not_not.1 hc24]
    · skip
      replace hc14 := of_decide_eq_false hc14
      refine KC.exit ?_
      refine thenK_x ?_
      refine thenK_x ?_
      refine blockK_e ?_
      refine thenK_n ?_
      refine KC.seq ?_
      refine KC.region ?_
      refine KT.step rfl rfl (K.assign rfl) ?_
      refine KT.nil ?_
      refine thenK_n ?_
      refine KC.ret ?_
      have hx : x.take i = x := List.take_of_length_le (by omega)
      have hy : y.take i = y := List.take_of_length_le (by omega)
      rw [hx, hy] at hall
      exact ⟨.inl rfl, _, rfl, fin_b (decide_eq_true hall)⟩

abbrev lkO (l : LN) : VObj := ⟨(lk5 l.z).map .d, 0⟩
/-- The variables that Can makes. -/
def canObj (X : Nat → Nat) (a : Nat) : List LN → List VObj
  | [] => []
  | l :: L => lkO l :: (if l.t = a then lkO l :: (if loadZ l X < (l.k : Int) then [] else canObj X a L) else canObj X a L)
set_option maxRecDepth 10000 in
theorem rloads51 {σ : List VObj} {l : LN} {N id : Nat} {ex : Bool} {X : Nat → Nat} (hl : OkL N l) (hX : ∀ i, X i ≤ 60) (hc : σ[id]? = some ⟨(iX N fun k => (X k : Int)), 0⟩) :
    OwnCall Try.prog 51 σ [.d (.agg (lk5 l.z)), .osl id 0 N 1 N ex] (σ ++ [lkO l]) (.d (DI (loadZ l X))) := by
  have a1 : l.g * X l.f ≤ 6 * 60 := Nat.mul_le_mul hl.g6 (hX _)
  have a2 : l.k * X l.t ≤ 6 * 60 := Nat.mul_le_mul hl.k6 (hX _)
  have a3 := hl.s
  have hc1 : (σ ++ [lkO l])[id]? = some ⟨(iX N fun k => (X k : Int)), 0⟩ := get_left hc
  refine ownCall_K Try.func51 rfl (Nat.le_of_ble_eq_true rfl) fun M W0 => ?_
  refine KC.seq ?_
  refine KC.region ?_
  refine KT.step rfl rfl (K.box rfl) ?_
  refine KT.step rfl rfl (K.assign rfl) ?_
  refine KT.nil ?_
  refine thenK_n ?_
  refine KC.seq ?_
  refine KC.draw Try.mixed ?_
  refine KT.step rfl rfl (K.fieldAddrO rfl Try.fld57_4 Try.size3) ?_
  refine KT.step rfl rfl (K.loadO rfl (List.getElem?_concat_length ..) (by simp) rfl Try.agg3) ?_
  refine KT.step rfl rfl (K.fieldAddrO rfl Try.fld57_2 Try.size3) ?_
  refine KT.step rfl rfl (K.loadO rfl (List.getElem?_concat_length ..) (by simp) rfl Try.agg3) ?_
  refine KT.step rfl rfl (K.move rfl) ?_
  refine KT.step rfl rfl (K.fieldAddrO rfl Try.fld57_0 Try.size3) ?_
  refine KT.step rfl rfl (K.loadO rfl (List.getElem?_concat_length ..) (by simp) rfl Try.agg3) ?_
  refine KT.step rfl rfl (K.idxO rfl rfl hl.f Try.underlying25 Try.size3) ?_
  refine KT.step rfl rfl (K.loadO rfl hc1 (by simp) (iX_get _ hl.f) Try.agg3) ?_
  refine KT.step rfl rfl (K.mul rfl rfl (mulN (by omega))) ?_
  refine KT.step rfl rfl (K.add rfl rfl (addN (by omega))) ?_
  refine KT.step rfl rfl (K.fieldAddrO rfl Try.fld57_3 Try.size3) ?_
  refine KT.step rfl rfl (K.loadO rfl (List.getElem?_concat_length ..) (by simp) rfl Try.agg3) ?_
  refine KT.step rfl rfl (K.move rfl) ?_
  refine KT.step rfl rfl (K.fieldAddrO rfl Try.fld57_1 Try.size3) ?_
  refine KT.step rfl rfl (K.loadO rfl (List.getElem?_concat_length ..) (by simp) rfl Try.agg3) ?_
  refine KT.step rfl rfl (K.idxO rfl rfl hl.t Try.underlying25 Try.size3) ?_
  refine KT.step rfl rfl (K.loadO rfl hc1 (by simp) (iX_get _ hl.t) Try.agg3) ?_
  refine KT.step rfl rfl (K.mul rfl rfl (mulN (by omega))) ?_
  refine KT.step rfl rfl (K.sub rfl rfl (wrap_id (by omega))) ?_
  refine KT.step rfl rfl (K.assign rfl) ?_
  refine KT.nil ?_
  refine ⟨by kernel_rfl, ?_⟩
  refine thenK_n ?_
  refine KC.ret ?_
  refine ⟨.inl rfl, congrArg (fun n => some (XV.d (DI n))) ?_, rfl⟩
  unfold loadZ
  rw [Int.natCast_add, Int.natCast_mul, Int.natCast_mul]
set_option maxRecDepth 10000 in
theorem can37 {σ : List VObj} {d : DV} {n : Int} {L : List LN} {N id a : Nat} {ex : Bool} {X : Nat → Nat} (hd : Lks d (L.map LN.z)) (hlen : L.length ≤ 10) (hok : ∀ l ∈ L, OkL N l) (hX : ∀ i, X i ≤ 60) (hc : σ[id]? = some ⟨(iX N fun k => (X k : Int)), 0⟩) :
    OwnCall Try.prog 37 σ [.d (.agg [DI n, d]), .osl id 0 N 1 N ex, .d (DI (a : Nat))] (σ ++ (⟨[.d (DI n), .d d], 0⟩ :: canObj X a L)) (.d (DB (canB L X a))) := by
  refine ownCall_K Try.func37 rfl (Nat.le_of_ble_eq_true rfl) fun M W0 => ?_
  refine KC.seq ?_
  refine KC.region ?_
  refine KT.step rfl rfl (K.box rfl) ?_
  refine KT.step rfl rfl (K.assign rfl) ?_
  refine KT.nil ?_
  refine thenK_n ?_
  refine KC.seq ?_
  refine KC.seq ?_
  refine KC.region ?_
  refine KT.step rfl rfl (K.fieldAddrO rfl Try.fld24_1 Try.size22) ?_
  refine KT.step rfl rfl (K.loadO rfl (List.getElem?_concat_length ..) (by simp) rfl Try.agg22) ?_
  refine KT.step rfl rfl (K.lenN rfl hd Try.underlying22) ?_
  refine KT.step rfl rfl (K.move rfl) ?_
  refine KT.nil ?_
  refine thenK_n ?_
  refine KC.block ?_
  refine KC.loop (fun p : List VObj × Nat => σ ++ (⟨[.d (DI n), .d d], 0⟩ :: p.1)) (fun p => [(1, .osl id 0 N 1 N ex), (2, .d (DI (a : Nat))), (10, .d d), (11, .d (DI (L.length : Nat))), (12, .d (DI (p.2 : Nat)))]) (fun p => p.2 ≤ L.length ∧ (L.take p.2).all (fun l => !waitB X a l) = true ∧ p.1 ++ canObj X a (L.drop p.2) = canObj X a L) (fun p => L.length - p.2) ([], 0) ⟨Nat.zero_le _, by simp, rfl⟩ rfl (by simp [Go.Vm.look, extK, enterK]) ?_
  intro p hp
  obtain ⟨τ, i⟩ := p
  obtain ⟨hi, hall, hob⟩ := hp
  simp only at hi hall hob ⊢
  refine KC.seq ?_
  refine KC.region ?_
  refine KT.step rfl rfl (K.lss rfl rfl) ?_
  refine KT.nil ?_
  refine thenK_n ?_
  refine KC.seq ?_
  refine KC.cond rfl (fun hc13 => ?_) (fun hc13 => ?_)
  · skip
    replace hc13 := of_decide_eq_true hc13
    have hil : i < L.length := by omega
    have ok := hok _ (List.getElem_mem hil)
    refine KC.skip ?_
    refine thenK_n ?_
    refine KC.seq ?_
    refine KC.block ?_
    refine KC.seq ?_
    refine KC.region ?_
    refine KT.step rfl rfl (K.idxN rfl hd rfl hil Try.underlying22 Try.size57) ?_
    refine KT.step rfl rfl (K.loadN hil rfl Try.agg57 Try.size57) ?_
    refine KT.step rfl rfl (K.alloc Try.zero57) ?_
    refine KT.storeL (cs := (lk5 L[i].z).map .d) rfl rfl rfl rfl rfl rfl rfl Try.size57 ?_
    have hn8 : ((σ ++ (⟨[.d (DI n), .d d], 0⟩ :: τ)) ++ [lkO L[i]])[(σ ++ (⟨[.d (DI n), .d d], 0⟩ :: τ)).length]? = some (lkO L[i]) := List.getElem?_concat_length ..
    refine KT.nil ?_
    refine thenK_n ?_
    refine KC.seq ?_
    refine KC.draw Try.mixed ?_
    refine KT.step rfl rfl (K.fieldAddrO rfl Try.fld57_1 Try.size3) ?_
    refine KT.step rfl rfl (K.loadO rfl hn8 (by simp) rfl Try.agg3) ?_
    refine KT.step rfl rfl (K.move rfl) ?_
    refine KT.step rfl rfl (K.eql rfl rfl) ?_
    refine KT.step rfl rfl (K.move rfl) ?_
    refine KT.bcase (fun hb20 => ?_) (fun hb20 => ?_)
    · skip
      replace hb20 := of_decide_eq_true hb20
      replace hb20 : (L[i].t : Int) = (a : Int) := hb20
      refine KT.step rfl rfl (K.loadOA (lk5 L[i].z) rfl hn8 (by decide) Try.agg57 Try.size57 rfl) ?_
      refine KT.step rfl rfl (K.move rfl) ?_
      refine KT.step rfl rfl (K.callG rfl plainTry_51 (rloads51 ok hX (get_left (get_left hc)))) ?_
      replace hn8 := get_left (B := [lkO L[i]]) hn8
      refine KT.step rfl rfl (K.fieldAddrO rfl Try.fld57_3 Try.size3) ?_
      refine KT.step rfl rfl (K.loadO rfl hn8 (by simp) rfl Try.agg3) ?_
      refine KT.step rfl rfl (K.lss rfl rfl) ?_
      refine KT.step rfl rfl (K.pick rfl (fun _ => rfl) (fun h => by cases h)) ?_
      refine KT.nil ?_
      refine ⟨by kernel_rfl, ?_⟩
      refine thenK_n ?_
      refine KC.cond rfl (fun hc27 => ?_) (fun hc27 => ?_)
      · skip
        replace hc27 := of_decide_eq_true hc27
        replace hc27 : loadZ L[i] X < (L[i].k : Int) := hc27
        refine KC.seq ?_
        refine KC.region ?_
        refine KT.step rfl rfl (K.assign rfl) ?_
        refine KT.nil ?_
        refine thenK_n ?_
        refine KC.ret ?_
        refine blockK_r ?_
        refine thenK_r ?_
        refine thenK_r ?_
        refine blockK_r ?_
        refine thenK_r ?_
        rw [List.drop_eq_getElem_cons hil] at hob
        simp only [canObj] at hob
        rw [if_pos (by omega), if_pos (by omega)] at hob
        have hc : canB L X a = false := all_false hil (by unfold waitB; rw [decide_eq_true (show L[i].t = a by omega), decide_eq_true hc27]; rfl)
        refine ⟨.inl rfl, by rw [hc]; rfl, ?_⟩
        rw [← hob]; simp
      · skip
        replace hc27 := of_decide_eq_false hc27
        replace hc27 : ¬ loadZ L[i] X < (L[i].k : Int) := hc27
        refine KC.skip ?_
        refine blockK_n ?_
        refine thenK_n ?_
        refine KC.region ?_
        refine KT.step rfl rfl (K.add rfl rfl (wrap_id (by omega))) ?_
        refine KT.step rfl rfl (K.move rfl) ?_
        refine KT.nil ?_
        refine thenK_n ?_
        rw [List.drop_eq_getElem_cons hil] at hob
        simp only [canObj] at hob
        rw [if_pos (by omega), if_neg (by omega)] at hob
        refine ⟨(τ ++ [lkO L[i], lkO L[i]], i + 1), ⟨by simp only; omega, ?_, by rw [← hob]; simp⟩, by simp only; omega, by simp, by simp [Go.Vm.look, extK]⟩
        rw [all_take _ hil, hall, Bool.true_and]
        unfold waitB
        rw [decide_eq_false hc27, Bool.and_false]; rfl
    · skip
      replace hb20 := of_decide_eq_false hb20
      replace hb20 : ¬ (L[i].t : Int) = (a : Int) := hb20
      refine KT.skip rfl rfl ?_
      refine KT.skip rfl rfl ?_
      refine KT.skip rfl rfl ?_
      refine KT.skip rfl rfl ?_
      refine KT.skip rfl rfl ?_
      refine KT.skip rfl rfl ?_
      refine KT.step rfl rfl (K.pick rfl (fun h => by cases h) (fun _ => rfl)) ?_
      refine KT.nil ?_
      refine ⟨by kernel_rfl, ?_⟩
      refine thenK_n ?_
      refine KC.cond rfl (fun hc27 => ?_) (fun hc27 => ?_)
      · cases hc27
      · skip
        refine KC.skip ?_
        refine blockK_n ?_
        refine thenK_n ?_
        refine KC.region ?_
        refine KT.step rfl rfl (K.add rfl rfl (wrap_id (by omega))) ?_
        refine KT.step rfl rfl (K.move rfl) ?_
        refine KT.nil ?_
        refine thenK_n ?_
        rw [List.drop_eq_getElem_cons hil] at hob
        simp only [canObj] at hob
        rw [if_neg (by omega)] at hob
        refine ⟨(τ ++ [lkO L[i]], i + 1), ⟨by simp only; omega, ?_, by rw [← hob]; simp⟩, by simp only; omega, by simp, by simp [Go.Vm.look, extK]⟩
        rw [all_take _ hil, hall, Bool.true_and]
        unfold waitB
        rw [decide_eq_false (by omega)]; rfl
  · skip
    replace hc13 := of_decide_eq_false hc13
    refine KC.exit ?_
    refine thenK_x ?_
    refine thenK_x ?_
    refine blockK_e ?_
    refine thenK_n ?_
    refine KC.seq ?_
    refine KC.region ?_
    refine KT.step rfl rfl (K.assign rfl) ?_
    refine KT.nil ?_
    refine thenK_n ?_
    refine KC.ret ?_
    obtain rfl : i = L.length := by omega
    rw [List.drop_length] at hob
    have hc : canB L X a = true := all_end (Nat.le_refl _) hall
    refine ⟨.inl rfl, by rw [hc]; rfl, ?_⟩
    rw [← hob]; simp [canObj]
end Go.Proofs.Ytnfnjnaheckdbaa

