/-
  THE CONTRACTS of package lattice's checks and of the reference's, on deep values.
-/
import Derived.Test.YtlomhajhoecoiaaVmQ
import Derived.Test.YtlomhajhoecoiaaProg
import Derived.KernelRfl
namespace Go.Proofs.Ytlomhajhoecoiaa
open Go.Vm

theorem Try.mixed : Try.prog.follows .mixedOrders = true := by kernel_rfl
theorem Try.size3 : sizeT Try.prog 3 = some 1 := by kernel_rfl
theorem Try.size22 : sizeT Try.prog 22 = some 1 := by kernel_rfl
theorem Try.size35 : sizeT Try.prog 35 = some 1 := by kernel_rfl
theorem Try.agg3 : isAggT Try.prog 3 = some false := by kernel_rfl
theorem Try.agg35 : isAggT Try.prog 35 = some false := by kernel_rfl
theorem Try.agg22 : isAggT Try.prog 22 = some false := by kernel_rfl
theorem Try.one3 : OneT Try.prog 3 (.int .i64 0) := ⟨by kernel_rfl, by kernel_rfl, rfl, of_decide_eq_true (by kernel_rfl)⟩
theorem Try.one35 : OneT Try.prog 35 (.slice none 0 0) := ⟨by kernel_rfl, by kernel_rfl, rfl, of_decide_eq_true (by kernel_rfl)⟩

theorem plainTry_100 : plainFn Try.prog 100 = true := by kernel_rfl
theorem plainTry_79 : plainFn Try.prog 79 = true := by kernel_rfl
theorem plainTry_45 : plainFn Try.prog 45 = true := by kernel_rfl
theorem plainTry_73 : plainFn Try.prog 73 = true := by kernel_rfl
theorem plainTry_93 : plainFn Try.prog 93 = true := by kernel_rfl
theorem plainTry_75 : plainFn Try.prog 75 = true := by kernel_rfl
theorem plainTry_77 : plainFn Try.prog 77 = true := by kernel_rfl
theorem plainTry_40 : plainFn Try.prog 40 = true := by kernel_rfl
theorem plainTry_16 : plainFn Try.prog 16 = true := by kernel_rfl
theorem plainTry_32 : plainFn Try.prog 32 = true := by kernel_rfl
theorem plainTry_47 : plainFn Try.prog 47 = true := by kernel_rfl
theorem plainTry_18 : plainFn Try.prog 18 = true := by kernel_rfl
theorem plainTry_49 : plainFn Try.prog 49 = true := by kernel_rfl
theorem plainTry_37 : plainFn Try.prog 37 = true := by kernel_rfl
theorem plainTry_39 : plainFn Try.prog 39 = true := by kernel_rfl
theorem plainTry_19 : plainFn Try.prog 19 = true := by kernel_rfl
theorem plainTry_9 : plainFn Try.prog 9 = true := by kernel_rfl

theorem all_take {α : Type} (p : α → Bool) {l : List α} {i : Nat} (hi : i < l.length) : (l.take (i + 1)).all p = ((l.take i).all p && p l[i]) := by
  rw [List.take_succ_eq_append_getElem hi, List.all_append]
  simp

theorem all_false {α : Type} {p : α → Bool} {l : List α} {i : Nat} (hi : i < l.length) (h : p l[i] = false) : l.all p = false := by
  cases hb : l.all p with
  | false => rfl
  | true =>
    have := List.all_eq_true.1 hb l[i] (List.getElem_mem hi)
    rw [h] at this; cases this

theorem all_end {α : Type} {p : α → Bool} {l : List α} {i : Nat} (hi : l.length ≤ i) (h : (l.take i).all p = true) : l.all p = true := by
  rwa [List.take_of_length_le hi] at h

def inB1 (most x : Int) : Bool := decide (-most ≤ x) && decide (x ≤ most)
def inB (most : Int) (l : List Int) : Bool := l.all (inB1 most)
def rowB (n most : Int) (r : List Int) : Bool := decide ((r.length : Int) = n) && inB most r
def fitsB (m : List (List Int)) (r n most : Int) : Bool := decide ((m.length : Int) = r) && m.all (rowB n most)
abbrev hd0 (m : List (List Int)) : List Int := m.headD []
def validB (m : List (List Int)) : Bool := (decide (1 ≤ m.length) && decide (m.length ≤ 4)) && (decide (1 ≤ (hd0 m).length) && decide ((hd0 m).length ≤ 5)) && m.all (rowB (hd0 m).length 20)
def rightB (m : List (List Int)) (b : List Int) : Bool := validB m && decide (b.length = m.length) && inB 1000 b

theorem hd0_eq {m : List (List Int)} (h : 0 < m.length) : m[0] = hd0 m := by cases m with | nil => simp at h | cons _ _ => rfl

set_option maxRecDepth 10000 in
theorem within100 {d : DV} {l : List Int} {most : Int} (hd : Ints d l) (hl : l.length ≤ 9223372036854775807) (hm : 0 ≤ most ∧ most < 4611686018427387904) :
    DeepCall Try.prog 100 [d, DI most] (DB (inB most l)) := by
  refine deepCall_K 5 Try.func100 rfl (Nat.le_of_ble_eq_true rfl) fun M W0 => ?_
  refine KC.seq ?_
  refine KC.region ?_
  refine KT.step rfl rfl (K.assign rfl) ?_
  refine KT.nil ?_
  refine thenK_n ?_
  refine KC.seq ?_
  refine KC.seq ?_
  refine KC.region ?_
  refine KT.step rfl rfl (K.move rfl) ?_
  refine KT.step rfl rfl (K.len rfl (by assumption) Try.underlying35) ?_
  refine KT.step rfl rfl (K.move rfl) ?_
  refine KT.nil ?_
  refine thenK_n ?_
  refine KC.block ?_
  refine KC.loop (fun _ : Nat => []) (fun i => [(1, .d (DI most)), (7, .d d), (8, .d (DI l.length)), (9, .d (DI i))]) (fun i => i ≤ l.length ∧ (l.take i).all (inB1 most) = true) (fun i => l.length - i) 0 ⟨Nat.zero_le _, rfl⟩ rfl (by simp [Go.Vm.look, extK, enterK]) ?_
  intro i hi
  obtain ⟨hi, hall⟩ := hi
  refine KC.seq ?_
  refine KC.region ?_
  refine KT.step rfl rfl (K.lss rfl rfl) ?_
  refine KT.nil ?_
  refine thenK_n ?_
  refine KC.seq ?_
  refine KC.cond rfl (fun hc10 => ?_) (fun hc10 => ?_)
  · skip
    simp at hc10
    refine KC.skip ?_
    refine thenK_n ?_
    refine KC.seq ?_
    refine KC.block ?_
    refine KC.seq ?_
    refine KC.region ?_
    refine KT.idxI rfl rfl rfl (by assumption) rfl (by omega) Try.underlying35 Try.size3 fun cs11 => ?_
    refine KT.step rfl rfl (K.load rfl Try.agg3) ?_
    refine KT.step rfl rfl (K.assign rfl) ?_
    refine KT.nil ?_
    refine thenK_n ?_
    refine KC.seq ?_
    refine KC.region ?_
    refine KT.step rfl rfl (K.move rfl) ?_
    refine KT.step rfl rfl (K.move rfl) ?_
    refine KT.step rfl rfl (K.unI rfl (wrap_id (by omega))) ?_
    refine KT.step rfl rfl (K.lss rfl rfl) ?_
    refine KT.step rfl rfl (K.move rfl) ?_
    refine KT.bcase (fun hb17 => ?_) (fun hb17 => ?_)
    · skip
      refine KT.skip rfl rfl ?_
      refine KT.skip rfl rfl ?_
      refine KT.skip rfl rfl ?_
      refine KT.step rfl rfl (K.pick rfl (fun _ => rfl) (fun h => by cases h)) ?_
      refine KT.nil ?_
      refine thenK_n ?_
      refine KC.cond rfl (fun hc21 => ?_) (fun hc21 => ?_)
      · skip
        refine KC.seq ?_
        refine KC.region ?_
        refine KT.step rfl rfl (K.assign rfl) ?_
        refine KT.nil ?_
        refine thenK_n ?_
        refine KC.ret ?_
        refine blockK_r ?_
        refine thenK_r ?_
        refine thenK_r ?_
        refine blockK_r ?_
        refine thenK_r ?_
        have hx : i < l.length := by omega
        exact ⟨.inl rfl, _, rfl, fin_b (all_false hx (by simp [inB1] at hb17 ⊢; omega))⟩
      · cases hc21
    · skip
      refine KT.step rfl rfl (K.move rfl) ?_
      refine KT.step rfl rfl (K.move rfl) ?_
      refine KT.step rfl rfl (K.gtr rfl rfl) ?_
      refine KT.step rfl rfl (K.pick rfl (fun h => by cases h) (fun _ => rfl)) ?_
      refine KT.nil ?_
      refine thenK_n ?_
      refine KC.cond rfl (fun hc21 => ?_) (fun hc21 => ?_)
      · skip
        refine KC.seq ?_
        refine KC.region ?_
        refine KT.step rfl rfl (K.assign rfl) ?_
        refine KT.nil ?_
        refine thenK_n ?_
        refine KC.ret ?_
        refine blockK_r ?_
        refine thenK_r ?_
        refine thenK_r ?_
        refine blockK_r ?_
        refine thenK_r ?_
        have hx : i < l.length := by omega
        exact ⟨.inl rfl, _, rfl, fin_b (all_false hx (by simp [inB1] at hb17 hc21 ⊢; omega))⟩
      · skip
        refine KC.skip ?_
        refine blockK_n ?_
        refine thenK_n ?_
        refine KC.region ?_
        refine KT.step rfl rfl (K.add rfl rfl (wrap_id (by omega))) ?_
        refine KT.step rfl rfl (K.move rfl) ?_
        refine KT.nil ?_
        refine thenK_n ?_
        refine ⟨i + 1, ⟨by omega, ?_⟩, by omega, rfl, by simp [Go.Vm.look, extK]⟩
        rw [all_take _ (by omega), hall]
        simp [inB1] at hb17 hc21 ⊢
        omega
  · skip
    simp at hc10
    refine KC.exit ?_
    refine thenK_x ?_
    refine thenK_x ?_
    refine blockK_e ?_
    refine thenK_n ?_
    refine KC.seq ?_
    refine KC.region ?_
    refine KT.step rfl rfl (K.assign rfl) ?_
    refine KT.nil ?_
    refine thenK_n ?_
    refine KC.ret ?_
    exact ⟨.inl rfl, _, rfl, fin_b (all_end (by omega) hall)⟩

set_option maxRecDepth 10000 in
theorem within49 {d : DV} {l : List Int} {most : Int} (hd : Ints d l) (hl : l.length ≤ 9223372036854775807) (hm : 0 ≤ most ∧ most < 4611686018427387904) :
    DeepCall Try.prog 49 [d, DI most] (DB (inB most l)) := by
  refine deepCall_K 5 Try.func49 rfl (Nat.le_of_ble_eq_true rfl) fun M W0 => ?_
  refine KC.seq ?_
  refine KC.region ?_
  refine KT.step rfl rfl (K.assign rfl) ?_
  refine KT.nil ?_
  refine thenK_n ?_
  refine KC.seq ?_
  refine KC.seq ?_
  refine KC.region ?_
  refine KT.step rfl rfl (K.move rfl) ?_
  refine KT.step rfl rfl (K.len rfl (by assumption) Try.underlying35) ?_
  refine KT.step rfl rfl (K.move rfl) ?_
  refine KT.nil ?_
  refine thenK_n ?_
  refine KC.block ?_
  refine KC.loop (fun _ : Nat => []) (fun i => [(1, .d (DI most)), (7, .d d), (8, .d (DI l.length)), (9, .d (DI i))]) (fun i => i ≤ l.length ∧ (l.take i).all (inB1 most) = true) (fun i => l.length - i) 0 ⟨Nat.zero_le _, rfl⟩ rfl (by simp [Go.Vm.look, extK, enterK]) ?_
  intro i hi
  obtain ⟨hi, hall⟩ := hi
  refine KC.seq ?_
  refine KC.region ?_
  refine KT.step rfl rfl (K.lss rfl rfl) ?_
  refine KT.nil ?_
  refine thenK_n ?_
  refine KC.seq ?_
  refine KC.cond rfl (fun hc10 => ?_) (fun hc10 => ?_)
  · skip
    simp at hc10
    refine KC.skip ?_
    refine thenK_n ?_
    refine KC.seq ?_
    refine KC.block ?_
    refine KC.seq ?_
    refine KC.region ?_
    refine KT.idxI rfl rfl rfl (by assumption) rfl (by omega) Try.underlying35 Try.size3 fun cs11 => ?_
    refine KT.step rfl rfl (K.load rfl Try.agg3) ?_
    refine KT.step rfl rfl (K.assign rfl) ?_
    refine KT.nil ?_
    refine thenK_n ?_
    refine KC.seq ?_
    refine KC.region ?_
    refine KT.step rfl rfl (K.move rfl) ?_
    refine KT.step rfl rfl (K.move rfl) ?_
    refine KT.step rfl rfl (K.unI rfl (wrap_id (by omega))) ?_
    refine KT.step rfl rfl (K.lss rfl rfl) ?_
    refine KT.step rfl rfl (K.move rfl) ?_
    refine KT.bcase (fun hb17 => ?_) (fun hb17 => ?_)
    · skip
      refine KT.skip rfl rfl ?_
      refine KT.skip rfl rfl ?_
      refine KT.skip rfl rfl ?_
      refine KT.step rfl rfl (K.pick rfl (fun _ => rfl) (fun h => by cases h)) ?_
      refine KT.nil ?_
      refine thenK_n ?_
      refine KC.cond rfl (fun hc21 => ?_) (fun hc21 => ?_)
      · skip
        refine KC.seq ?_
        refine KC.region ?_
        refine KT.step rfl rfl (K.assign rfl) ?_
        refine KT.nil ?_
        refine thenK_n ?_
        refine KC.ret ?_
        refine blockK_r ?_
        refine thenK_r ?_
        refine thenK_r ?_
        refine blockK_r ?_
        refine thenK_r ?_
        have hx : i < l.length := by omega
        exact ⟨.inl rfl, _, rfl, fin_b (all_false hx (by simp [inB1] at hb17 ⊢; omega))⟩
      · cases hc21
    · skip
      refine KT.step rfl rfl (K.move rfl) ?_
      refine KT.step rfl rfl (K.move rfl) ?_
      refine KT.step rfl rfl (K.gtr rfl rfl) ?_
      refine KT.step rfl rfl (K.pick rfl (fun h => by cases h) (fun _ => rfl)) ?_
      refine KT.nil ?_
      refine thenK_n ?_
      refine KC.cond rfl (fun hc21 => ?_) (fun hc21 => ?_)
      · skip
        refine KC.seq ?_
        refine KC.region ?_
        refine KT.step rfl rfl (K.assign rfl) ?_
        refine KT.nil ?_
        refine thenK_n ?_
        refine KC.ret ?_
        refine blockK_r ?_
        refine thenK_r ?_
        refine thenK_r ?_
        refine blockK_r ?_
        refine thenK_r ?_
        have hx : i < l.length := by omega
        exact ⟨.inl rfl, _, rfl, fin_b (all_false hx (by simp [inB1] at hb17 hc21 ⊢; omega))⟩
      · skip
        refine KC.skip ?_
        refine blockK_n ?_
        refine thenK_n ?_
        refine KC.region ?_
        refine KT.step rfl rfl (K.add rfl rfl (wrap_id (by omega))) ?_
        refine KT.step rfl rfl (K.move rfl) ?_
        refine KT.nil ?_
        refine thenK_n ?_
        refine ⟨i + 1, ⟨by omega, ?_⟩, by omega, rfl, by simp [Go.Vm.look, extK]⟩
        rw [all_take _ (by omega), hall]
        simp [inB1] at hb17 hc21 ⊢
        omega
  · skip
    simp at hc10
    refine KC.exit ?_
    refine thenK_x ?_
    refine thenK_x ?_
    refine blockK_e ?_
    refine thenK_n ?_
    refine KC.seq ?_
    refine KC.region ?_
    refine KT.step rfl rfl (K.assign rfl) ?_
    refine KT.nil ?_
    refine thenK_n ?_
    refine KC.ret ?_
    exact ⟨.inl rfl, _, rfl, fin_b (all_end (by omega) hall)⟩

set_option maxRecDepth 10000 in
theorem fits79 {d : DV} {m : List (List Int)} {r n most : Int} (hd : Mat d m) (hl : m.length ≤ 9223372036854775807) (hr : ∀ row ∈ m, row.length ≤ 9223372036854775807) (hm : 0 ≤ most ∧ most < 4611686018427387904) :
    DeepCall Try.prog 79 [d, DI r, DI n, DI most] (DB (fitsB m r n most)) := by
  refine deepCall_K 5 Try.func79 rfl (Nat.le_of_ble_eq_true rfl) fun M W0 => ?_
  refine KC.seq ?_
  refine KC.region ?_
  refine KT.step rfl rfl (K.assign rfl) ?_
  refine KT.nil ?_
  refine thenK_n ?_
  refine KC.seq ?_
  refine KC.seq ?_
  refine KC.region ?_
  refine KT.step rfl rfl (K.move rfl) ?_
  refine KT.step rfl rfl (K.len rfl (by assumption) Try.underlying22) ?_
  refine KT.step rfl rfl (K.move rfl) ?_
  refine KT.step rfl rfl (K.neq rfl rfl) ?_
  refine KT.nil ?_
  refine thenK_n ?_
  refine KC.cond rfl (fun hc14 => ?_) (fun hc14 => ?_)
  · skip
    simp at hc14
    refine KC.seq ?_
    refine KC.region ?_
    refine KT.step rfl rfl (K.assign rfl) ?_
    refine KT.nil ?_
    refine thenK_n ?_
    refine KC.ret ?_
    refine thenK_r ?_
    exact ⟨.inl rfl, _, rfl, fin_b (by simp [fitsB, hc14])⟩
  · skip
    simp at hc14
    refine KC.skip ?_
    refine thenK_n ?_
    refine KC.seq ?_
    refine KC.seq ?_
    refine KC.region ?_
    refine KT.step rfl rfl (K.move rfl) ?_
    refine KT.step rfl rfl (K.len rfl (by assumption) Try.underlying22) ?_
    refine KT.step rfl rfl (K.move rfl) ?_
    refine KT.nil ?_
    refine thenK_n ?_
    refine KC.block ?_
    refine KC.loop (fun _ : Nat => []) (fun i => [(2, .d (DI n)), (3, .d (DI most)), (15, .d d), (16, .d (DI m.length)), (17, .d (DI i))]) (fun i => i ≤ m.length ∧ (m.take i).all (rowB n most) = true) (fun i => m.length - i) 0 ⟨Nat.zero_le _, rfl⟩ rfl (by simp [Go.Vm.look, extK, enterK]) ?_
    intro i hi
    obtain ⟨hi, hall⟩ := hi
    refine KC.seq ?_
    refine KC.region ?_
    refine KT.step rfl rfl (K.lss rfl rfl) ?_
    refine KT.nil ?_
    refine thenK_n ?_
    refine KC.seq ?_
    refine KC.cond rfl (fun hc18 => ?_) (fun hc18 => ?_)
    · skip
      simp at hc18
      refine KC.skip ?_
      refine thenK_n ?_
      refine KC.seq ?_
      refine KC.block ?_
      refine KC.seq ?_
      refine KC.region ?_
      refine KT.idx rfl rfl rfl (by assumption) rfl (by omega) Try.underlying22 Try.size35 fun c19 cs19 hq19 => ?_
      refine KT.step rfl rfl (K.load rfl Try.agg35) ?_
      refine KT.step rfl rfl (K.assign rfl) ?_
      refine KT.nil ?_
      refine thenK_n ?_
      refine KC.seq ?_
      refine KC.region ?_
      refine KT.step rfl rfl (K.move rfl) ?_
      refine KT.step rfl rfl (K.len rfl (by assumption) Try.underlying35) ?_
      refine KT.step rfl rfl (K.move rfl) ?_
      refine KT.step rfl rfl (K.neq rfl rfl) ?_
      refine KT.step rfl rfl (K.move rfl) ?_
      refine KT.bcase (fun hb25 => ?_) (fun hb25 => ?_)
      · skip
        refine KT.skip rfl rfl ?_
        refine KT.skip rfl rfl ?_
        refine KT.skip rfl rfl ?_
        refine KT.skip rfl rfl ?_
        refine KT.step rfl rfl (K.pick rfl (fun _ => rfl) (fun h => by cases h)) ?_
        refine KT.nil ?_
        refine thenK_n ?_
        refine KC.cond rfl (fun hc30 => ?_) (fun hc30 => ?_)
        · skip
          refine KC.seq ?_
          refine KC.region ?_
          refine KT.step rfl rfl (K.assign rfl) ?_
          refine KT.nil ?_
          refine thenK_n ?_
          refine KC.ret ?_
          refine blockK_r ?_
          refine thenK_r ?_
          refine thenK_r ?_
          refine blockK_r ?_
          refine thenK_r ?_
          have hx : i < m.length := by omega
          exact ⟨.inl rfl, _, rfl, fin_b (by rw [fitsB, all_false hx (by simp [rowB] at hb25 ⊢; intro h; exact absurd h hb25)]; simp)⟩
        · cases hc30
      · skip
        refine KT.step rfl rfl (K.move rfl) ?_
        refine KT.step rfl rfl (K.move rfl) ?_
        refine KT.step rfl rfl (K.call2 rfl rfl plainTry_100 (within100 hq19 (hr _ (List.getElem_mem _)) hm)) ?_
        refine KT.step rfl rfl (K.not rfl) ?_
        refine KT.step rfl rfl (K.pick rfl (fun h => by cases h) (fun _ => rfl)) ?_
        refine KT.nil ?_
        refine thenK_n ?_
        refine KC.cond rfl (fun hc30 => ?_) (fun hc30 => ?_)
        · skip
          refine KC.seq ?_
          refine KC.region ?_
          refine KT.step rfl rfl (K.assign rfl) ?_
          refine KT.nil ?_
          refine thenK_n ?_
          refine KC.ret ?_
          refine blockK_r ?_
          refine thenK_r ?_
          refine thenK_r ?_
          refine blockK_r ?_
          refine thenK_r ?_
          have hx : i < m.length := by omega
          exact ⟨.inl rfl, _, rfl, fin_b (by rw [fitsB, all_false hx (by simp [rowB] at hb25 hc30 ⊢; intro _; exact hc30)]; simp)⟩
        · skip
          refine KC.skip ?_
          refine blockK_n ?_
          refine thenK_n ?_
          refine KC.region ?_
          refine KT.step rfl rfl (K.add rfl rfl (wrap_id (by omega))) ?_
          refine KT.step rfl rfl (K.move rfl) ?_
          refine KT.nil ?_
          refine thenK_n ?_
          refine ⟨i + 1, ⟨by omega, ?_⟩, by omega, rfl, by simp [Go.Vm.look, extK]⟩
          rw [all_take _ (by omega), hall]
          simp [rowB] at hb25 hc30 ⊢
          exact ⟨hb25, hc30⟩
    · skip
      simp at hc18
      refine KC.exit ?_
      refine thenK_x ?_
      refine thenK_x ?_
      refine blockK_e ?_
      refine thenK_n ?_
      refine KC.seq ?_
      refine KC.region ?_
      refine KT.step rfl rfl (K.assign rfl) ?_
      refine KT.nil ?_
      refine thenK_n ?_
      refine KC.ret ?_
      exact ⟨.inl rfl, _, rfl, fin_b (by rw [fitsB, all_end (by omega) hall]; simp [hc14])⟩

set_option maxRecDepth 10000 in
theorem valid45 {d : DV} {m : List (List Int)} (hd : Mat d m) (hl : m.length ≤ 9223372036854775807) (hr : ∀ row ∈ m, row.length ≤ 9223372036854775807) :
    DeepCall Try.prog 45 [d] (DB (validB m)) := by
  refine deepCall_K 5 Try.func45 rfl (Nat.le_of_ble_eq_true rfl) fun M W0 => ?_
  refine KC.seq ?_
  refine KC.region ?_
  refine KT.step rfl rfl (K.assign rfl) ?_
  refine KT.nil ?_
  refine thenK_n ?_
  refine KC.seq ?_
  refine KC.seq ?_
  refine KC.region ?_
  refine KT.step rfl rfl (K.move rfl) ?_
  refine KT.step rfl rfl (K.len rfl (by assumption) Try.underlying22) ?_
  refine KT.step rfl rfl (K.lss rfl rfl) ?_
  refine KT.step rfl rfl (K.move rfl) ?_
  refine KT.bcase (fun hb6 => ?_) (fun hb6 => ?_)
  · skip
    simp at hb6
    refine KT.skip rfl rfl ?_
    refine KT.skip rfl rfl ?_
    refine KT.skip rfl rfl ?_
    refine KT.step rfl rfl (K.pick rfl (fun _ => rfl) (fun h => by cases h)) ?_
    refine KT.step rfl rfl (K.move rfl) ?_
    refine KT.skip rfl rfl ?_
    refine KT.skip rfl rfl ?_
    refine KT.skip rfl rfl ?_
    refine KT.skip rfl rfl ?_
    refine KT.skip rfl rfl ?_
    refine KT.step rfl rfl (K.pick rfl (fun _ => rfl) (fun h => by cases h)) ?_
    refine KT.step rfl rfl (K.move rfl) ?_
    refine KT.skip rfl rfl ?_
    refine KT.skip rfl rfl ?_
    refine KT.skip rfl rfl ?_
    refine KT.skip rfl rfl ?_
    refine KT.skip rfl rfl ?_
    refine KT.step rfl rfl (K.pick rfl (fun _ => rfl) (fun h => by cases h)) ?_
    refine KT.nil ?_
    refine thenK_n ?_
    refine KC.cond rfl (fun hc24 => ?_) (fun hc24 => ?_)
    · skip
      refine KC.seq ?_
      refine KC.region ?_
      refine KT.step rfl rfl (K.assign rfl) ?_
      refine KT.nil ?_
      refine thenK_n ?_
      refine KC.ret ?_
      refine thenK_r ?_
      exact ⟨.inl rfl, _, rfl, fin_b (by simp [validB] <;> omega)⟩
    · cases hc24
  · skip
    simp at hb6
    refine KT.step rfl rfl (K.move rfl) ?_
    refine KT.step rfl rfl (K.len rfl (by assumption) Try.underlying22) ?_
    refine KT.step rfl rfl (K.gtr rfl rfl) ?_
    refine KT.step rfl rfl (K.pick rfl (fun h => by cases h) (fun _ => rfl)) ?_
    refine KT.step rfl rfl (K.move rfl) ?_
    refine KT.bcase (fun hb11 => ?_) (fun hb11 => ?_)
    · skip
      simp at hb11
      refine KT.skip rfl rfl ?_
      refine KT.skip rfl rfl ?_
      refine KT.skip rfl rfl ?_
      refine KT.skip rfl rfl ?_
      refine KT.skip rfl rfl ?_
      refine KT.step rfl rfl (K.pick rfl (fun _ => rfl) (fun h => by cases h)) ?_
      refine KT.step rfl rfl (K.move rfl) ?_
      refine KT.skip rfl rfl ?_
      refine KT.skip rfl rfl ?_
      refine KT.skip rfl rfl ?_
      refine KT.skip rfl rfl ?_
      refine KT.skip rfl rfl ?_
      refine KT.step rfl rfl (K.pick rfl (fun _ => rfl) (fun h => by cases h)) ?_
      refine KT.nil ?_
      refine thenK_n ?_
      refine KC.cond rfl (fun hc24 => ?_) (fun hc24 => ?_)
      · skip
        refine KC.seq ?_
        refine KC.region ?_
        refine KT.step rfl rfl (K.assign rfl) ?_
        refine KT.nil ?_
        refine thenK_n ?_
        refine KC.ret ?_
        refine thenK_r ?_
        exact ⟨.inl rfl, _, rfl, fin_b (by simp [validB] <;> omega)⟩
      · cases hc24
    · skip
      simp at hb11
      refine KT.step rfl rfl (K.move rfl) ?_
      refine KT.idx (m := 0) rfl rfl rfl (by assumption) rfl (by omega) Try.underlying22 Try.size35 fun c13 cs13 hq13 => ?_
      refine KT.step rfl rfl (K.load rfl Try.agg35) ?_
      refine KT.step rfl rfl (K.len rfl (by assumption) Try.underlying35) ?_
      refine KT.step rfl rfl (K.lss rfl rfl) ?_
      refine KT.step rfl rfl (K.pick rfl (fun h => by cases h) (fun _ => rfl)) ?_
      refine KT.step rfl rfl (K.move rfl) ?_
      refine KT.bcase (fun hb18 => ?_) (fun hb18 => ?_)
      · skip
        have h0 := hd0_eq (m := m) (by omega)
        simp [h0] at hb18
        refine KT.skip rfl rfl ?_
        refine KT.skip rfl rfl ?_
        refine KT.skip rfl rfl ?_
        refine KT.skip rfl rfl ?_
        refine KT.skip rfl rfl ?_
        refine KT.step rfl rfl (K.pick rfl (fun _ => rfl) (fun h => by cases h)) ?_
        refine KT.nil ?_
        refine thenK_n ?_
        refine KC.cond rfl (fun hc24 => ?_) (fun hc24 => ?_)
        · skip
          refine KC.seq ?_
          refine KC.region ?_
          refine KT.step rfl rfl (K.assign rfl) ?_
          refine KT.nil ?_
          refine thenK_n ?_
          refine KC.ret ?_
          refine thenK_r ?_
          exact ⟨.inl rfl, _, rfl, fin_b (by simp [validB] <;> omega)⟩
        · cases hc24
      · skip
        have h0 := hd0_eq (m := m) (by omega)
        simp [h0] at hb18
        refine KT.step rfl rfl (K.move rfl) ?_
        refine KT.idx (m := 0) rfl rfl rfl (by assumption) rfl (by omega) Try.underlying22 Try.size35 fun c20 cs20 hq20 => ?_
        refine KT.step rfl rfl (K.load rfl Try.agg35) ?_
        refine KT.step rfl rfl (K.len rfl (by assumption) Try.underlying35) ?_
        refine KT.step rfl rfl (K.gtr rfl rfl) ?_
        refine KT.step rfl rfl (K.pick rfl (fun h => by cases h) (fun _ => rfl)) ?_
        refine KT.nil ?_
        refine thenK_n ?_
        refine KC.cond rfl (fun hc24 => ?_) (fun hc24 => ?_)
        · skip
          simp [h0] at hc24
          refine KC.seq ?_
          refine KC.region ?_
          refine KT.step rfl rfl (K.assign rfl) ?_
          refine KT.nil ?_
          refine thenK_n ?_
          refine KC.ret ?_
          refine thenK_r ?_
          exact ⟨.inl rfl, _, rfl, fin_b (by simp [validB] <;> omega)⟩
        · skip
          simp [h0] at hc24
          refine KC.skip ?_
          refine thenK_n ?_
          refine KC.seq ?_
          refine KC.region ?_
          refine KT.step rfl rfl (K.move rfl) ?_
          refine KT.step rfl rfl (K.move rfl) ?_
          refine KT.step rfl rfl (K.len rfl (by assumption) Try.underlying22) ?_
          refine KT.step rfl rfl (K.move rfl) ?_
          refine KT.idx (m := 0) rfl rfl rfl (by assumption) rfl (by omega) Try.underlying22 Try.size35 fun c29 cs29 hq29 => ?_
          refine KT.step rfl rfl (K.load rfl Try.agg35) ?_
          refine KT.step rfl rfl (K.len rfl (by assumption) Try.underlying35) ?_
          refine KT.step rfl rfl (K.call4 rfl rfl rfl rfl plainTry_79 (fits79 hd (by omega) hr (by omega))) ?_
          refine KT.step rfl rfl (K.assign rfl) ?_
          refine KT.nil ?_
          refine thenK_n ?_
          refine KC.ret ?_
          refine ⟨.inl rfl, _, rfl, fin_b ?_⟩
          have e1 : decide (1 ≤ m.length) = true := by simp; omega
          have e2 : decide (m.length ≤ 4) = true := by simp; omega
          have e3 : decide (1 ≤ (hd0 m).length) = true := by simp; omega
          have e4 : decide ((hd0 m).length ≤ 5) = true := by simp; omega
          rw [validB, e1, e2, e3, e4, fitsB, h0]
          simp

set_option maxRecDepth 10000 in
theorem validSystem73 {d e : DV} {m : List (List Int)} {b : List Int} (hd : Mat d m) (hb : Ints e b) (hl : m.length ≤ 9223372036854775807) (hr : ∀ row ∈ m, row.length ≤ 9223372036854775807) (hbl : b.length ≤ 9223372036854775807) :
    DeepCall Try.prog 73 [d, e] (DB (rightB m b)) := by
  refine deepCall_K 5 Try.func73 rfl (Nat.le_of_ble_eq_true rfl) fun M W0 => ?_
  refine KC.seq ?_
  refine KC.region ?_
  refine KT.step rfl rfl (K.assign rfl) ?_
  refine KT.nil ?_
  refine thenK_n ?_
  refine KC.seq ?_
  refine KC.region ?_
  refine KT.step rfl rfl (K.move rfl) ?_
  refine KT.step rfl rfl (K.call1 rfl plainTry_45 (valid45 hd hl hr)) ?_
  refine KT.step rfl rfl (K.move rfl) ?_
  refine KT.bcase (fun hb7 => ?_) (fun hb7 => ?_)
  · skip
    have h7 := hb7
    refine KT.step rfl rfl (K.move rfl) ?_
    refine KT.step rfl rfl (K.len rfl (by assumption) Try.underlying35) ?_
    refine KT.step rfl rfl (K.move rfl) ?_
    refine KT.step rfl rfl (K.len rfl (by assumption) Try.underlying22) ?_
    refine KT.step rfl rfl (K.eql rfl rfl) ?_
    refine KT.step rfl rfl (K.pick rfl (fun _ => rfl) (fun h => by cases h)) ?_
    refine KT.step rfl rfl (K.move rfl) ?_
    refine KT.bcase (fun hb14 => ?_) (fun hb14 => ?_)
    · skip
      simp at hb14
      have h14 : b.length = m.length := by omega
      refine KT.step rfl rfl (K.move rfl) ?_
      refine KT.step rfl rfl (K.call2 rfl rfl plainTry_100 (within100 hb hbl (by omega))) ?_
      refine KT.step rfl rfl (K.pick rfl (fun _ => rfl) (fun h => by cases h)) ?_
      refine KT.step rfl rfl (K.assign rfl) ?_
      refine KT.nil ?_
      refine thenK_n ?_
      refine KC.ret ?_
      exact ⟨.inl rfl, _, rfl, fin_b (by simp [rightB, hb7, h14])⟩
    · skip
      simp at hb14
      have h14 : ¬ b.length = m.length := by omega
      refine KT.skip rfl rfl ?_
      refine KT.skip rfl rfl ?_
      refine KT.step rfl rfl (K.pick rfl (fun h => by cases h) (fun _ => rfl)) ?_
      refine KT.step rfl rfl (K.assign rfl) ?_
      refine KT.nil ?_
      refine thenK_n ?_
      refine KC.ret ?_
      exact ⟨.inl rfl, _, rfl, fin_b (by simp [rightB, hb7, h14])⟩
  · skip
    refine KT.skip rfl rfl ?_
    refine KT.skip rfl rfl ?_
    refine KT.skip rfl rfl ?_
    refine KT.skip rfl rfl ?_
    refine KT.skip rfl rfl ?_
    refine KT.step rfl rfl (K.pick rfl (fun h => by cases h) (fun _ => rfl)) ?_
    refine KT.step rfl rfl (K.move rfl) ?_
    refine KT.skip rfl rfl ?_
    refine KT.skip rfl rfl ?_
    refine KT.step rfl rfl (K.pick rfl (fun h => by cases h) (fun _ => rfl)) ?_
    refine KT.step rfl rfl (K.assign rfl) ?_
    refine KT.nil ?_
    refine thenK_n ?_
    refine KC.ret ?_
    exact ⟨.inl rfl, _, rfl, fin_b (by simp [rightB, hb7])⟩

set_option maxRecDepth 10000 in
theorem valid18 {d : DV} {m : List (List Int)} (hd : Mat d m) (hl : m.length ≤ 9223372036854775807) (hr : ∀ row ∈ m, row.length ≤ 9223372036854775807) :
    DeepCall Try.prog 18 [d] (DB (validB m)) := by
  refine deepCall_K 5 Try.func18 rfl (Nat.le_of_ble_eq_true rfl) fun M W0 => ?_
  refine KC.seq ?_
  refine KC.region ?_
  refine KT.step rfl rfl (K.assign rfl) ?_
  refine KT.nil ?_
  refine thenK_n ?_
  refine KC.seq ?_
  refine KC.seq ?_
  refine KC.region ?_
  refine KT.step rfl rfl (K.move rfl) ?_
  refine KT.step rfl rfl (K.len rfl (by assumption) Try.underlying22) ?_
  refine KT.step rfl rfl (K.lss rfl rfl) ?_
  refine KT.step rfl rfl (K.move rfl) ?_
  refine KT.bcase (fun hb8 => ?_) (fun hb8 => ?_)
  · skip
    simp at hb8
    refine KT.skip rfl rfl ?_
    refine KT.skip rfl rfl ?_
    refine KT.skip rfl rfl ?_
    refine KT.step rfl rfl (K.pick rfl (fun _ => rfl) (fun h => by cases h)) ?_
    refine KT.step rfl rfl (K.move rfl) ?_
    refine KT.skip rfl rfl ?_
    refine KT.skip rfl rfl ?_
    refine KT.skip rfl rfl ?_
    refine KT.skip rfl rfl ?_
    refine KT.skip rfl rfl ?_
    refine KT.step rfl rfl (K.pick rfl (fun _ => rfl) (fun h => by cases h)) ?_
    refine KT.step rfl rfl (K.move rfl) ?_
    refine KT.skip rfl rfl ?_
    refine KT.skip rfl rfl ?_
    refine KT.skip rfl rfl ?_
    refine KT.skip rfl rfl ?_
    refine KT.skip rfl rfl ?_
    refine KT.step rfl rfl (K.pick rfl (fun _ => rfl) (fun h => by cases h)) ?_
    refine KT.nil ?_
    refine thenK_n ?_
    refine KC.cond rfl (fun hc26 => ?_) (fun hc26 => ?_)
    · skip
      refine KC.seq ?_
      refine KC.region ?_
      refine KT.step rfl rfl (K.assign rfl) ?_
      refine KT.nil ?_
      refine thenK_n ?_
      refine KC.ret ?_
      refine thenK_r ?_
      exact ⟨.inl rfl, _, rfl, fin_b (by simp [validB] <;> omega)⟩
    · cases hc26
  · skip
    simp at hb8
    refine KT.step rfl rfl (K.move rfl) ?_
    refine KT.step rfl rfl (K.len rfl (by assumption) Try.underlying22) ?_
    refine KT.step rfl rfl (K.gtr rfl rfl) ?_
    refine KT.step rfl rfl (K.pick rfl (fun h => by cases h) (fun _ => rfl)) ?_
    refine KT.step rfl rfl (K.move rfl) ?_
    refine KT.bcase (fun hb13 => ?_) (fun hb13 => ?_)
    · skip
      simp at hb13
      refine KT.skip rfl rfl ?_
      refine KT.skip rfl rfl ?_
      refine KT.skip rfl rfl ?_
      refine KT.skip rfl rfl ?_
      refine KT.skip rfl rfl ?_
      refine KT.step rfl rfl (K.pick rfl (fun _ => rfl) (fun h => by cases h)) ?_
      refine KT.step rfl rfl (K.move rfl) ?_
      refine KT.skip rfl rfl ?_
      refine KT.skip rfl rfl ?_
      refine KT.skip rfl rfl ?_
      refine KT.skip rfl rfl ?_
      refine KT.skip rfl rfl ?_
      refine KT.step rfl rfl (K.pick rfl (fun _ => rfl) (fun h => by cases h)) ?_
      refine KT.nil ?_
      refine thenK_n ?_
      refine KC.cond rfl (fun hc26 => ?_) (fun hc26 => ?_)
      · skip
        refine KC.seq ?_
        refine KC.region ?_
        refine KT.step rfl rfl (K.assign rfl) ?_
        refine KT.nil ?_
        refine thenK_n ?_
        refine KC.ret ?_
        refine thenK_r ?_
        exact ⟨.inl rfl, _, rfl, fin_b (by simp [validB] <;> omega)⟩
      · cases hc26
    · skip
      simp at hb13
      refine KT.step rfl rfl (K.move rfl) ?_
      refine KT.idx (m := 0) rfl rfl rfl (by assumption) rfl (by omega) Try.underlying22 Try.size35 fun c15 cs15 hq15 => ?_
      refine KT.step rfl rfl (K.load rfl Try.agg35) ?_
      refine KT.step rfl rfl (K.len rfl (by assumption) Try.underlying35) ?_
      refine KT.step rfl rfl (K.lss rfl rfl) ?_
      refine KT.step rfl rfl (K.pick rfl (fun h => by cases h) (fun _ => rfl)) ?_
      refine KT.step rfl rfl (K.move rfl) ?_
      refine KT.bcase (fun hb20 => ?_) (fun hb20 => ?_)
      · skip
        have h0 := hd0_eq (m := m) (by omega)
        simp [h0] at hb20
        refine KT.skip rfl rfl ?_
        refine KT.skip rfl rfl ?_
        refine KT.skip rfl rfl ?_
        refine KT.skip rfl rfl ?_
        refine KT.skip rfl rfl ?_
        refine KT.step rfl rfl (K.pick rfl (fun _ => rfl) (fun h => by cases h)) ?_
        refine KT.nil ?_
        refine thenK_n ?_
        refine KC.cond rfl (fun hc26 => ?_) (fun hc26 => ?_)
        · skip
          refine KC.seq ?_
          refine KC.region ?_
          refine KT.step rfl rfl (K.assign rfl) ?_
          refine KT.nil ?_
          refine thenK_n ?_
          refine KC.ret ?_
          refine thenK_r ?_
          exact ⟨.inl rfl, _, rfl, fin_b (by simp [validB] <;> omega)⟩
        · cases hc26
      · skip
        have h0 := hd0_eq (m := m) (by omega)
        simp [h0] at hb20
        refine KT.step rfl rfl (K.move rfl) ?_
        refine KT.idx (m := 0) rfl rfl rfl (by assumption) rfl (by omega) Try.underlying22 Try.size35 fun c22 cs22 hq22 => ?_
        refine KT.step rfl rfl (K.load rfl Try.agg35) ?_
        refine KT.step rfl rfl (K.len rfl (by assumption) Try.underlying35) ?_
        refine KT.step rfl rfl (K.gtr rfl rfl) ?_
        refine KT.step rfl rfl (K.pick rfl (fun h => by cases h) (fun _ => rfl)) ?_
        refine KT.nil ?_
        refine thenK_n ?_
        refine KC.cond rfl (fun hc26 => ?_) (fun hc26 => ?_)
        · skip
          simp [h0] at hc26
          refine KC.seq ?_
          refine KC.region ?_
          refine KT.step rfl rfl (K.assign rfl) ?_
          refine KT.nil ?_
          refine thenK_n ?_
          refine KC.ret ?_
          refine thenK_r ?_
          exact ⟨.inl rfl, _, rfl, fin_b (by simp [validB] <;> omega)⟩
        · skip
          simp [h0] at hc26
          refine KC.skip ?_
          refine thenK_n ?_
          refine KC.seq ?_
          refine KC.seq ?_
          refine KC.region ?_
          refine KT.step rfl rfl (K.move rfl) ?_
          refine KT.step rfl rfl (K.len rfl (by assumption) Try.underlying22) ?_
          refine KT.step rfl rfl (K.move rfl) ?_
          refine KT.nil ?_
          refine thenK_n ?_
          refine KC.block ?_
          refine KC.loop (fun _ : Nat => []) (fun i => [(0, .d d), (27, .d d), (28, .d (DI m.length)), (29, .d (DI i))]) (fun i => i ≤ m.length ∧ (m.take i).all (rowB (hd0 m).length 20) = true) (fun i => m.length - i) 0 ⟨Nat.zero_le _, rfl⟩ rfl (by simp [Go.Vm.look, extK, enterK]) ?_
          intro i hi
          obtain ⟨hi, hall⟩ := hi
          refine KC.seq ?_
          refine KC.region ?_
          refine KT.step rfl rfl (K.lss rfl rfl) ?_
          refine KT.nil ?_
          refine thenK_n ?_
          refine KC.seq ?_
          refine KC.cond rfl (fun hc30 => ?_) (fun hc30 => ?_)
          · skip
            simp at hc30
            refine KC.skip ?_
            refine thenK_n ?_
            refine KC.seq ?_
            refine KC.block ?_
            refine KC.seq ?_
            refine KC.region ?_
            refine KT.idx rfl rfl rfl (by assumption) rfl (by omega) Try.underlying22 Try.size35 fun c31 cs31 hq31 => ?_
            refine KT.step rfl rfl (K.load rfl Try.agg35) ?_
            refine KT.step rfl rfl (K.assign rfl) ?_
            refine KT.nil ?_
            refine thenK_n ?_
            refine KC.seq ?_
            refine KC.region ?_
            refine KT.step rfl rfl (K.move rfl) ?_
            refine KT.step rfl rfl (K.len rfl (by assumption) Try.underlying35) ?_
            refine KT.step rfl rfl (K.move rfl) ?_
            refine KT.idx (m := 0) rfl rfl rfl (by assumption) rfl (by omega) Try.underlying22 Try.size35 fun c36 cs36 hq36 => ?_
            refine KT.step rfl rfl (K.load rfl Try.agg35) ?_
            refine KT.step rfl rfl (K.len rfl (by assumption) Try.underlying35) ?_
            refine KT.step rfl rfl (K.neq rfl rfl) ?_
            refine KT.step rfl rfl (K.move rfl) ?_
            refine KT.bcase (fun hb40 => ?_) (fun hb40 => ?_)
            · skip
              simp [h0] at hb40
              refine KT.skip rfl rfl ?_
              refine KT.skip rfl rfl ?_
              refine KT.skip rfl rfl ?_
              refine KT.step rfl rfl (K.pick rfl (fun _ => rfl) (fun h => by cases h)) ?_
              refine KT.nil ?_
              refine thenK_n ?_
              refine KC.cond rfl (fun hc44 => ?_) (fun hc44 => ?_)
              · skip
                refine KC.seq ?_
                refine KC.region ?_
                refine KT.step rfl rfl (K.assign rfl) ?_
                refine KT.nil ?_
                refine thenK_n ?_
                refine KC.ret ?_
                refine blockK_r ?_
                refine thenK_r ?_
                refine thenK_r ?_
                refine blockK_r ?_
                refine thenK_r ?_
                have hx : i < m.length := by omega
                exact ⟨.inl rfl, _, rfl, fin_b (by rw [validB, all_false hx (by simp [rowB] at hb40 ⊢; intro h; omega)]; simp)⟩
              · cases hc44
            · skip
              simp [h0] at hb40
              refine KT.step rfl rfl (K.move rfl) ?_
              refine KT.step rfl rfl (K.call2 rfl rfl plainTry_49 (within49 hq31 (hr _ (List.getElem_mem _)) (by omega))) ?_
              refine KT.step rfl rfl (K.not rfl) ?_
              refine KT.step rfl rfl (K.pick rfl (fun h => by cases h) (fun _ => rfl)) ?_
              refine KT.nil ?_
              refine thenK_n ?_
              refine KC.cond rfl (fun hc44 => ?_) (fun hc44 => ?_)
              · skip
                refine KC.seq ?_
                refine KC.region ?_
                refine KT.step rfl rfl (K.assign rfl) ?_
                refine KT.nil ?_
                refine thenK_n ?_
                refine KC.ret ?_
                refine blockK_r ?_
                refine thenK_r ?_
                refine thenK_r ?_
                refine blockK_r ?_
                refine thenK_r ?_
                have hx : i < m.length := by omega
                exact ⟨.inl rfl, _, rfl, fin_b (by rw [validB, all_false hx (by simp [rowB] at hb40 hc44 ⊢; intro _; exact hc44)]; simp)⟩
              · skip
                refine KC.skip ?_
                refine blockK_n ?_
                refine thenK_n ?_
                refine KC.region ?_
                refine KT.step rfl rfl (K.add rfl rfl (wrap_id (by omega))) ?_
                refine KT.step rfl rfl (K.move rfl) ?_
                refine KT.nil ?_
                refine thenK_n ?_
                refine ⟨i + 1, ⟨by omega, ?_⟩, by omega, rfl, by simp [Go.Vm.look, extK]⟩
                rw [all_take _ (by omega), hall]
                simp [rowB] at hb40 hc44 ⊢
                exact ⟨by omega, hc44⟩
          · skip
            simp at hc30
            refine KC.exit ?_
            refine thenK_x ?_
            refine thenK_x ?_
            refine blockK_e ?_
            refine thenK_n ?_
            refine KC.seq ?_
            refine KC.region ?_
            refine KT.step rfl rfl (K.assign rfl) ?_
            refine KT.nil ?_
            refine thenK_n ?_
            refine KC.ret ?_
            refine ⟨.inl rfl, _, rfl, fin_b ?_⟩
            have e1 : decide (1 ≤ m.length) = true := by simp; omega
            have e2 : decide (m.length ≤ 4) = true := by simp; omega
            have e3 : decide (1 ≤ (hd0 m).length) = true := by simp; omega
            have e4 : decide ((hd0 m).length ≤ 5) = true := by simp; omega
            rw [validB, e1, e2, e3, e4, all_end (by omega) hall]
            simp

set_option maxRecDepth 10000 in
theorem right37 {d e : DV} {m : List (List Int)} {b : List Int} (hd : Mat d m) (hb : Ints e b) (hl : m.length ≤ 9223372036854775807) (hr : ∀ row ∈ m, row.length ≤ 9223372036854775807) (hbl : b.length ≤ 9223372036854775807) :
    DeepCall Try.prog 37 [d, e] (DB (rightB m b)) := by
  refine deepCall_K 5 Try.func37 rfl (Nat.le_of_ble_eq_true rfl) fun M W0 => ?_
  refine KC.seq ?_
  refine KC.region ?_
  refine KT.step rfl rfl (K.assign rfl) ?_
  refine KT.nil ?_
  refine thenK_n ?_
  refine KC.seq ?_
  refine KC.region ?_
  refine KT.step rfl rfl (K.move rfl) ?_
  refine KT.step rfl rfl (K.call1 rfl plainTry_18 (valid18 hd hl hr)) ?_
  refine KT.step rfl rfl (K.move rfl) ?_
  refine KT.bcase (fun hb7 => ?_) (fun hb7 => ?_)
  · skip
    have h7 := hb7
    refine KT.step rfl rfl (K.move rfl) ?_
    refine KT.step rfl rfl (K.len rfl (by assumption) Try.underlying35) ?_
    refine KT.step rfl rfl (K.move rfl) ?_
    refine KT.step rfl rfl (K.len rfl (by assumption) Try.underlying22) ?_
    refine KT.step rfl rfl (K.eql rfl rfl) ?_
    refine KT.step rfl rfl (K.pick rfl (fun _ => rfl) (fun h => by cases h)) ?_
    refine KT.step rfl rfl (K.move rfl) ?_
    refine KT.bcase (fun hb14 => ?_) (fun hb14 => ?_)
    · skip
      simp at hb14
      have h14 : b.length = m.length := by omega
      refine KT.step rfl rfl (K.move rfl) ?_
      refine KT.step rfl rfl (K.call2 rfl rfl plainTry_49 (within49 hb hbl (by omega))) ?_
      refine KT.step rfl rfl (K.pick rfl (fun _ => rfl) (fun h => by cases h)) ?_
      refine KT.step rfl rfl (K.assign rfl) ?_
      refine KT.nil ?_
      refine thenK_n ?_
      refine KC.ret ?_
      exact ⟨.inl rfl, _, rfl, fin_b (by simp [rightB, hb7, h14])⟩
    · skip
      simp at hb14
      have h14 : ¬ b.length = m.length := by omega
      refine KT.skip rfl rfl ?_
      refine KT.skip rfl rfl ?_
      refine KT.step rfl rfl (K.pick rfl (fun h => by cases h) (fun _ => rfl)) ?_
      refine KT.step rfl rfl (K.assign rfl) ?_
      refine KT.nil ?_
      refine thenK_n ?_
      refine KC.ret ?_
      exact ⟨.inl rfl, _, rfl, fin_b (by simp [rightB, hb7, h14])⟩
  · skip
    refine KT.skip rfl rfl ?_
    refine KT.skip rfl rfl ?_
    refine KT.skip rfl rfl ?_
    refine KT.skip rfl rfl ?_
    refine KT.skip rfl rfl ?_
    refine KT.step rfl rfl (K.pick rfl (fun h => by cases h) (fun _ => rfl)) ?_
    refine KT.step rfl rfl (K.move rfl) ?_
    refine KT.skip rfl rfl ?_
    refine KT.skip rfl rfl ?_
    refine KT.step rfl rfl (K.pick rfl (fun h => by cases h) (fun _ => rfl)) ?_
    refine KT.step rfl rfl (K.assign rfl) ?_
    refine KT.nil ?_
    refine thenK_n ?_
    refine KC.ret ?_
    exact ⟨.inl rfl, _, rfl, fin_b (by simp [rightB, hb7])⟩

end Go.Proofs.Ytlomhajhoecoiaa