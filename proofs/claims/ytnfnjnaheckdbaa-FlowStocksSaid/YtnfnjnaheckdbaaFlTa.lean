import Derived.Test.YtnfnjnaheckdbaaFlS
/-
  Dataflow graphs: which firing puts a load; which times are valid.
-/
namespace Go.Proofs.Ytnfnjnaheckdbaa
open Go.Vm Go.Fl
theorem plainTry_81 : plainFn Try.prog 81 = true := by kernel_rfl
theorem plainTry_80 : plainFn Try.prog 80 = true := by kernel_rfl
theorem plainTry_86 : plainFn Try.prog 86 = true := by kernel_rfl
theorem plainTry_107 : plainFn Try.prog 107 = true := by kernel_rfl
theorem plainTry_85 : plainFn Try.prog 85 = true := by kernel_rfl
theorem plainTry_58 : plainFn Try.prog 58 = true := by kernel_rfl

theorem fdivN {a : Int} {b : Nat} (h1 : 1 ≤ b) (h6 : b ≤ 6) (ha : a < 0) : -(Int.tdiv ((b : Int) - 1 - a) (b : Int)) = Int.fdiv a b := by
  rw [Int.tdiv_eq_ediv_of_nonneg (by omega), Int.fdiv_eq_ediv_of_nonneg _ (by omega)]
  rcases (show b = 1 ∨ b = 2 ∨ b = 3 ∨ b = 4 ∨ b = 5 ∨ b = 6 by omega) with rfl | rfl | rfl | rfl | rfl | rfl <;> simp only [Int.cast_ofNat_Int] <;> omega
theorem fdivP {a : Int} {b : Nat} (ha : 0 ≤ a) : Int.tdiv a (b : Int) = Int.fdiv a b := by
  rw [Int.tdiv_eq_ediv_of_nonneg ha, Int.fdiv_eq_ediv_of_nonneg _ (by omega)]
theorem fdiv_bd {a : Int} {b : Nat} (h1 : 1 ≤ b) (h6 : b ≤ 6) (hb : -100000 ≤ a ∧ a ≤ 100000) : -100000 ≤ Int.fdiv a b ∧ Int.fdiv a b ≤ 100000 := by
  rw [Int.fdiv_eq_ediv_of_nonneg _ (by omega)]
  rcases (show b = 1 ∨ b = 2 ∨ b = 3 ∨ b = 4 ∨ b = 5 ∨ b = 6 by omega) with rfl | rfl | rfl | rfl | rfl | rfl <;> simp only [Int.cast_ofNat_Int] <;> omega
def putZ (l : LN) (load : Int) : Int := Int.fdiv (load - (l.s : Int)) l.g
set_option maxRecDepth 10000 in
theorem quotient81 {a : Int} {b : Nat} (h1 : 1 ≤ b) (h6 : b ≤ 6) (hb : -100000 ≤ a ∧ a ≤ 100000) : DeepCall Try.prog 81 [DI a, DI (b : Nat)] (DI (Int.fdiv a b)) := by
  have hbd := fdiv_bd h1 h6 hb
  refine deepCall_K 5 Try.func81 rfl (Nat.le_of_ble_eq_true rfl) fun M W0 => ?_
  refine KC.seq ?_
  refine KC.region ?_
  refine KT.step rfl rfl (K.assign rfl) ?_
  refine KT.nil ?_
  refine thenK_n ?_
  refine KC.seq ?_
  refine KC.seq ?_
  refine KC.region ?_
  refine KT.step rfl rfl (K.move rfl) ?_
  refine KT.step rfl rfl (K.lss rfl rfl) ?_
  refine KT.nil ?_
  refine thenK_n ?_
  refine KC.cond rfl (fun hc6 => ?_) (fun hc6 => ?_)
  · skip
    replace hc6 := of_decide_eq_true hc6
    have hfd := fdivN h1 h6 hc6
    refine KC.seq ?_
    refine KC.region ?_
    refine KT.step rfl rfl (K.move rfl) ?_
    refine KT.step rfl rfl (K.sub rfl rfl (wrap_id (by omega))) ?_
    refine KT.step rfl rfl (K.move rfl) ?_
    refine KT.step rfl rfl (K.sub rfl rfl (wrap_id (by omega))) ?_
    refine KT.step rfl rfl (K.move rfl) ?_
    refine KT.step rfl rfl (K.quo rfl rfl (by omega) (wrap_id (by omega))) ?_
    refine KT.step rfl rfl (K.unI rfl (show IntKind.i64.wrap (0 - Int.tdiv ((b : Int) - 1 - a) (b : Int)) = Int.fdiv a b from by rw [← hfd, Int.zero_sub, hfd]; exact wrap_id (by omega))) ?_
    refine KT.step rfl rfl (K.assign rfl) ?_
    refine KT.nil ?_
    refine thenK_n ?_
    refine KC.ret ?_
    refine thenK_r ?_
    exact ⟨.inl rfl, _, rfl, fin_d rfl⟩
  · skip
    replace hc6 := of_decide_eq_false hc6
    have hfd := fdivP (b := b) (show 0 ≤ a by omega)
    refine KC.skip ?_
    refine thenK_n ?_
    refine KC.seq ?_
    refine KC.region ?_
    refine KT.step rfl rfl (K.move rfl) ?_
    refine KT.step rfl rfl (K.move rfl) ?_
    refine KT.step rfl rfl (K.quo rfl rfl (by omega) (show IntKind.i64.wrap (Int.tdiv a (b : Int)) = Int.fdiv a b from by rw [hfd]; exact wrap_id (by omega))) ?_
    refine KT.step rfl rfl (K.assign rfl) ?_
    refine KT.nil ?_
    refine thenK_n ?_
    refine KC.ret ?_
    exact ⟨.inl rfl, _, rfl, fin_d rfl⟩
set_option maxRecDepth 10000 in
theorem put80 {l : LN} {N : Nat} {x : Int} (hl : OkL N l) (hx : -90000 ≤ x ∧ x ≤ 90000) : DeepCall Try.prog 80 [.agg (lk5 l.z), DI x] (DI (putZ l x)) := by
  have hs := hl.s
  refine deepCall_K 5 Try.func80 rfl (Nat.le_of_ble_eq_true rfl) fun M W0 => ?_
  refine KC.seq ?_
  refine KC.region ?_
  refine KT.step rfl rfl (K.box rfl) ?_
  refine KT.step rfl rfl (K.assign rfl) ?_
  refine KT.nil ?_
  refine thenK_n ?_
  refine KC.seq ?_
  refine KC.region ?_
  refine KT.step rfl rfl (K.move rfl) ?_
  refine KT.step rfl rfl (K.fieldAddrO rfl Try.fld62_4 Try.size3) ?_
  refine KT.step rfl rfl (K.loadO rfl rfl (by simp) rfl Try.agg3) ?_
  refine KT.step rfl rfl (K.sub rfl rfl (show IntKind.i64.wrap (x - (l.s : Int)) = x - (l.s : Int) from wrap_id (by omega))) ?_
  refine KT.step rfl rfl (K.fieldAddrO rfl Try.fld62_2 Try.size3) ?_
  refine KT.step rfl rfl (K.loadO rfl rfl (by simp) rfl Try.agg3) ?_
  refine KT.step rfl rfl (K.call2 rfl rfl plainTry_81 (quotient81 hl.g1 hl.g6 (by omega))) ?_
  refine KT.step rfl rfl (K.assign rfl) ?_
  refine KT.nil ?_
  refine thenK_n ?_
  refine KC.ret ?_
  exact ⟨.inl rfl, _, rfl, fin_d rfl⟩

def okTm (x : Int) : Bool := decide (0 ≤ x) && decide (x ≤ 100)
set_option maxRecDepth 10000 in
theorem tm86 (x : Int) : DeepCall Try.prog 86 [DI x] (DB (!okTm x)) := by
  refine deepCall_K 5 Try.func86 rfl (Nat.le_of_ble_eq_true rfl) fun M W0 => ?_
  refine KC.seq ?_
  refine KC.region ?_
  refine KT.step rfl rfl (K.assign rfl) ?_
  refine KT.nil ?_
  refine thenK_n ?_
  refine KC.seq ?_
  refine KC.region ?_
  refine KT.step rfl rfl (K.move rfl) ?_
  refine KT.step rfl rfl (K.call3 rfl rfl rfl plainTry_87 (within87 _ _ _)) ?_
  refine KT.step rfl rfl (K.not rfl) ?_
  refine KT.step rfl rfl (K.assign rfl) ?_
  refine KT.nil ?_
  refine thenK_n ?_
  refine KC.ret ?_
  exact ⟨.inl rfl, _, rfl, rfl⟩

/-- The index of the first time that is not valid. -/
def badI : List Int → Int → Int
  | [], _ => -1
  | x :: l, i => if okTm x = false then i else badI l (i + 1)
theorem badI_drop {l : List Int} {i : Nat} (hi : i < l.length) (j : Int) : badI (l.drop i) j = if okTm l[i] = false then j else badI (l.drop (i + 1)) (j + 1) := by
  rw [List.drop_eq_getElem_cons hi]; rfl
theorem badI_any : ∀ (l : List Int) (i : Int), 0 ≤ i → decide (0 ≤ badI l i) = !(l.all okTm)
  | [], i, _ => by simp [badI]
  | x :: l, i, h => by
    simp only [badI, List.all_cons]
    split
    · rename_i hx; rw [hx, decide_eq_true h]; rfl
    · rename_i hx
      have hx : okTm x = true := by simpa using hx
      rw [badI_any l (i + 1) (by omega), hx, Bool.true_and]
set_option maxRecDepth 10000 in
theorem index107 {d : DV} {l : List Int} (hd : Ints d l) (hl : l.length ≤ 9223372036854775807) : DeepCall Try.prog 107 [d, .fn (.func 86) [] []] (DI (badI l 0)) := by
  refine deepCall_K 5 Try.func107 rfl (Nat.le_of_ble_eq_true rfl) fun M W0 => ?_
  refine KC.seq ?_
  refine KC.region ?_
  refine KT.step rfl rfl (K.assign rfl) ?_
  refine KT.nil ?_
  refine thenK_n ?_
  refine KC.seq ?_
  refine KC.seq ?_
  refine KC.region ?_
  refine KT.step rfl rfl (K.move rfl) ?_
  refine KT.step rfl rfl (K.len rfl hd Try.underlying25) ?_
  refine KT.step rfl rfl (K.move rfl) ?_
  refine KT.nil ?_
  refine thenK_n ?_
  refine KC.block ?_
  refine KC.loop (fun _ : Nat => []) (fun i => [(0, .d d), (1, .d (.fn (.func 86) [] [])), (7, .d (DI (l.length : Nat))), (8, .d (DI (i : Nat)))]) (fun i => i ≤ l.length ∧ badI l 0 = badI (l.drop i) i) (fun i => l.length - i) 0 ⟨Nat.zero_le _, rfl⟩ rfl (by simp [Go.Vm.look, extK, enterK]) ?_
  intro i hi
  obtain ⟨hi, hb⟩ := hi
  refine KC.seq ?_
  refine KC.region ?_
  refine KT.step rfl rfl (K.lss rfl rfl) ?_
  refine KT.nil ?_
  refine thenK_n ?_
  refine KC.seq ?_
  refine KC.cond rfl (fun hc9 => ?_) (fun hc9 => ?_)
  · skip
    replace hc9 := of_decide_eq_true hc9
    refine KC.skip ?_
    refine thenK_n ?_
    refine KC.seq ?_
    refine KC.block ?_
    refine KC.seq ?_
    refine KC.region ?_
    refine KT.step rfl rfl (K.move rfl) ?_
    refine KT.step rfl rfl (K.assign rfl) ?_
    refine KT.nil ?_
    refine thenK_n ?_
    refine KC.seq ?_
    refine KC.region ?_
    refine KT.step rfl rfl (K.move rfl) ?_
    refine KT.step rfl rfl (K.move rfl) ?_
    refine KT.step rfl rfl (K.move rfl) ?_
    refine KT.idxI rfl rfl rfl (by assumption) rfl (by omega) Try.underlying25 Try.size3 fun cs14 => ?_
    refine KT.step rfl rfl (K.load rfl Try.agg3) ?_
    refine KT.step rfl rfl (K.callW rfl rfl rfl plainTry_86 (tm86 _)) ?_
    refine KT.nil ?_
    refine thenK_n ?_
    refine KC.cond rfl (fun hc16 => ?_) (fun hc16 => ?_)
    · skip
      refine KC.seq ?_
      refine KC.region ?_
      refine KT.step rfl rfl (K.move rfl) ?_
      refine KT.step rfl rfl (K.assign rfl) ?_
      refine KT.nil ?_
      refine thenK_n ?_
      refine KC.ret ?_
      refine blockK_r ?_
      refine thenK_r ?_
      refine thenK_r ?_
      refine blockK_r ?_
      refine thenK_r ?_
      refine ⟨.inl rfl, _, rfl, fin_d ?_⟩
      rw [hb, badI_drop (by omega), if_pos (by simpa using hc16)]
    · skip
      refine KC.skip ?_
      refine blockK_n ?_
      refine thenK_n ?_
      refine KC.region ?_
      refine KT.step rfl rfl (K.add rfl rfl (wrap_id (by omega))) ?_
      refine KT.step rfl rfl (K.move rfl) ?_
      refine KT.nil ?_
      refine thenK_n ?_
      refine ⟨i + 1, ⟨by omega, ?_⟩, by omega, rfl, by simp [Go.Vm.look, extK]⟩
      rw [hb, badI_drop (by omega), if_neg (by simpa using hc16)]
      rfl
  · skip
    replace hc9 := of_decide_eq_false hc9
    refine KC.exit ?_
    refine thenK_x ?_
    refine thenK_x ?_
    refine blockK_e ?_
    refine thenK_n ?_
    refine KC.seq ?_
    refine KC.region ?_
    refine KT.step rfl rfl (K.assign rfl) ?_
    refine KT.nil ?_
    refine thenK_n ?_
    refine KC.ret ?_
    refine ⟨.inl rfl, _, rfl, fin_d ?_⟩
    rw [hb, List.drop_eq_nil_of_le (by omega)]; rfl
set_option maxRecDepth 10000 in
theorem contains85 {d : DV} {l : List Int} (hd : Ints d l) (hl : l.length ≤ 9223372036854775807) : DeepCall Try.prog 85 [d, .fn (.func 86) [] []] (DB (!(l.all okTm))) := by
  refine deepCall_K 5 Try.func85 rfl (Nat.le_of_ble_eq_true rfl) fun M W0 => ?_
  refine KC.seq ?_
  refine KC.region ?_
  refine KT.step rfl rfl (K.assign rfl) ?_
  refine KT.nil ?_
  refine thenK_n ?_
  refine KC.seq ?_
  refine KC.region ?_
  refine KT.step rfl rfl (K.move rfl) ?_
  refine KT.step rfl rfl (K.move rfl) ?_
  refine KT.step rfl rfl (K.call2 rfl rfl plainTry_107 (index107 hd hl)) ?_
  refine KT.step rfl rfl (K.geq rfl rfl) ?_
  refine KT.step rfl rfl (K.assign rfl) ?_
  refine KT.nil ?_
  refine thenK_n ?_
  refine KC.ret ?_
  exact ⟨.inl rfl, _, rfl, fin_b (badI_any l 0 (by omega)).symm⟩
set_option maxRecDepth 10000 in
theorem validTimes58 {d : DV} {l : List Int} {n : Int} (hd : Ints d l) (hl : l.length ≤ 9223372036854775807) : DeepCall Try.prog 58 [d, DI n] (DB (decide ((l.length : Int) = n) && l.all okTm)) := by
  refine deepCall_K 5 Try.func58 rfl (Nat.le_of_ble_eq_true rfl) fun M W0 => ?_
  refine KC.seq ?_
  refine KC.region ?_
  refine KT.step rfl rfl (K.assign rfl) ?_
  refine KT.nil ?_
  refine thenK_n ?_
  refine KC.seq ?_
  refine KC.region ?_
  refine KT.step rfl rfl (K.move rfl) ?_
  refine KT.step rfl rfl (K.len rfl hd Try.underlying25) ?_
  refine KT.step rfl rfl (K.move rfl) ?_
  refine KT.step rfl rfl (K.eql rfl rfl) ?_
  refine KT.step rfl rfl (K.move rfl) ?_
  refine KT.bcase (fun hb9 => ?_) (fun hb9 => ?_)
  · skip
    replace hb9 := of_decide_eq_true hb9
    refine KT.step rfl rfl (K.move rfl) ?_
    refine KT.step rfl rfl (K.call2 rfl rfl plainTry_85 (contains85 hd hl)) ?_
    refine KT.step rfl rfl (K.not rfl) ?_
    refine KT.step rfl rfl (K.pick rfl (fun _ => rfl) (fun h => by cases h)) ?_
    refine KT.step rfl rfl (K.assign rfl) ?_
    refine KT.nil ?_
    refine thenK_n ?_
    refine KC.ret ?_
    exact ⟨.inl rfl, _, rfl, fin_b (by rw [decide_eq_true hb9, Bool.true_and, Bool.not_not])⟩
  · skip
    replace hb9 := of_decide_eq_false hb9
    refine KT.skip rfl rfl ?_
    refine KT.skip rfl rfl ?_
    refine KT.skip rfl rfl ?_
    refine KT.step rfl rfl (K.pick rfl (fun h => by cases h) (fun _ => rfl)) ?_
    refine KT.step rfl rfl (K.assign rfl) ?_
    refine KT.nil ?_
    refine thenK_n ?_
    refine KC.ret ?_
    exact ⟨.inl rfl, _, rfl, fin_b (by rw [decide_eq_false hb9]; rfl)⟩
end Go.Proofs.Ytnfnjnaheckdbaa

