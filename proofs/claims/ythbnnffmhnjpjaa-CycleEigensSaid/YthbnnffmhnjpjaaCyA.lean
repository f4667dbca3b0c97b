import Derived.Test.YthbnnffmhnjpjaaCyEg
import Derived.Test.YthbnnffmhnjpjaaProg
import Derived.KernelRfl
/-
  Times: numbers, and which matrices are valid.
-/
namespace Go.Proofs.Ythbnnffmhnjpjaa
open Go.Vm Go.Cy
theorem Try.mixed : Try.prog.follows .mixedOrders = true := by kernel_rfl
theorem Try.agg3 : isAggT Try.prog 3 = some false := by kernel_rfl
theorem Try.size3 : sizeT Try.prog 3 = some 1 := by kernel_rfl
theorem Try.one3 : OneT Try.prog 3 (.int .i64 0) := ⟨by kernel_rfl, by kernel_rfl, rfl, of_decide_eq_true (by kernel_rfl)⟩
theorem Try.agg22 : isAggT Try.prog 22 = some false := by kernel_rfl
theorem Try.agg33 : isAggT Try.prog 33 = some false := by kernel_rfl
theorem Try.size33 : sizeT Try.prog 33 = some 1 := by kernel_rfl
theorem Try.one33 : OneT Try.prog 33 (.slice none 0 0) := ⟨by kernel_rfl, by kernel_rfl, rfl, of_decide_eq_true (by kernel_rfl)⟩
theorem Try.agg59 : isAggT Try.prog 59 = some true := by kernel_rfl
theorem Try.size59 : sizeT Try.prog 59 = some 2 := by kernel_rfl
theorem Try.zero59 : zeroT Try.prog 59 = some (.agg #[.int .i64 0, .int .i64 0]) := by kernel_rfl
theorem Try.fld59_0 : fieldT Try.prog 59 0 = some { name := "num", type := 3, offset := 0, embedded := false, tag := "", pkgPath := "massecuite/cycle", byteOffset := 0 } := by kernel_rfl
theorem Try.fld59_1 : fieldT Try.prog 59 1 = some { name := "den", type := 3, offset := 1, embedded := false, tag := "", pkgPath := "massecuite/cycle", byteOffset := 8 } := by kernel_rfl
theorem plainTry_52 : plainFn Try.prog 52 = true := by kernel_rfl
theorem plainTry_87 : plainFn Try.prog 87 = true := by kernel_rfl
theorem plainTry_88 : plainFn Try.prog 88 = true := by kernel_rfl
theorem plainTry_60 : plainFn Try.prog 60 = true := by kernel_rfl
theorem plainTry_47 : plainFn Try.prog 47 = true := by kernel_rfl
theorem all_take {α : Type} (p : α → Bool) {l : List α} {i : Nat} (hi : i < l.length) : (l.take (i + 1)).all p = ((l.take i).all p && p l[i]) := by
  rw [List.take_succ_eq_append_getElem hi, List.all_append]
  simp

theorem all_false {α : Type} {p : α → Bool} {l : List α} {i : Nat} (hi : i < l.length) (h : p l[i] = false) : l.all p = false := by
  cases hb : l.all p with
  | false => rfl
  | true =>
    have := List.all_eq_true.1 hb l[i] (List.getElem_mem hi)
    rw [h] at this; cases this

theorem all_end {α : Type} {p : α → Bool} {l : List α} {i : Nat} (hi : l.length ≤ i) (h : (l.take i).all p = true) : l.all p = true := by
  rwa [List.take_of_length_le hi] at h
set_option maxRecDepth 10000 in
theorem within52 (x lo hi : Int) : DeepCall Try.prog 52 [DI x, DI lo, DI hi] (DB (decide (lo ≤ x) && decide (x ≤ hi))) := by
  refine deepCall_K 5 Try.func52 rfl (Nat.le_of_ble_eq_true rfl) fun M W0 => ?_
  refine KC.seq ?_
  refine KC.region ?_
  refine KT.step rfl rfl (K.assign rfl) ?_
  refine KT.nil ?_
  refine thenK_n ?_
  refine KC.seq ?_
  refine KC.region ?_
  refine KT.step rfl rfl (K.move rfl) ?_
  refine KT.step rfl rfl (K.move rfl) ?_
  refine KT.step rfl rfl (K.leq rfl rfl) ?_
  refine KT.step rfl rfl (K.move rfl) ?_
  refine KT.bcase (fun hb10 => ?_) (fun hb10 => ?_)
  · skip
    replace hb10 := of_decide_eq_true hb10
    refine KT.step rfl rfl (K.move rfl) ?_
    refine KT.step rfl rfl (K.move rfl) ?_
    refine KT.step rfl rfl (K.leq rfl rfl) ?_
    refine KT.step rfl rfl (K.pick rfl (fun _ => rfl) (fun h => by cases h)) ?_
    refine KT.step rfl rfl (K.assign rfl) ?_
    refine KT.nil ?_
    refine thenK_n ?_
    refine KC.ret ?_
    exact ⟨.inl rfl, _, rfl, fin_b (by rw [decide_eq_true hb10, Bool.true_and])⟩
  · skip
    replace hb10 := of_decide_eq_false hb10
    refine KT.skip rfl rfl ?_
    refine KT.skip rfl rfl ?_
    refine KT.skip rfl rfl ?_
    refine KT.step rfl rfl (K.pick rfl (fun h => by cases h) (fun _ => rfl)) ?_
    refine KT.step rfl rfl (K.assign rfl) ?_
    refine KT.nil ?_
    refine thenK_n ?_
    refine KC.ret ?_
    exact ⟨.inl rfl, _, rfl, fin_b (by rw [decide_eq_false hb10]; rfl)⟩
set_option maxRecDepth 10000 in
theorem after87 {x y : Int} (hx : -2000000000000 ≤ x ∧ x ≤ 2000000000000) (hy : -2000000000000 ≤ y ∧ y ≤ 2000000000000) : DeepCall Try.prog 87 [DI x, DI y] (DI (aft x y)) := by
  refine deepCall_K 5 Try.func87 rfl (Nat.le_of_ble_eq_true rfl) fun M W0 => ?_
  refine KC.seq ?_
  refine KC.region ?_
  refine KT.step rfl rfl (K.assign rfl) ?_
  refine KT.nil ?_
  refine thenK_n ?_
  refine KC.seq ?_
  refine KC.seq ?_
  refine KC.region ?_
  refine KT.step rfl rfl (K.move rfl) ?_
  refine KT.step rfl rfl (K.eql rfl rfl) ?_
  refine KT.step rfl rfl (K.move rfl) ?_
  refine KT.bcase (fun hb7 => ?_) (fun hb7 => ?_)
  · skip
    replace hb7 := of_decide_eq_true hb7
    refine KT.skip rfl rfl ?_
    refine KT.skip rfl rfl ?_
    refine KT.step rfl rfl (K.pick rfl (fun _ => rfl) (fun h => by cases h)) ?_
    refine KT.nil ?_
    refine thenK_n ?_
    refine KC.cond rfl (fun hc10 => ?_) (fun hc10 => ?_)
    · skip
      refine KC.seq ?_
      refine KC.region ?_
      refine KT.step rfl rfl (K.assign rfl) ?_
      refine KT.nil ?_
      refine thenK_n ?_
      refine KC.ret ?_
      refine thenK_r ?_
      exact ⟨.inl rfl, _, rfl, fin_d (by rw [show aft x y = Nv from if_pos (.inl hb7)]; rfl)⟩
    · cases hc10
  · skip
    replace hb7 := of_decide_eq_false hb7
    refine KT.step rfl rfl (K.move rfl) ?_
    refine KT.step rfl rfl (K.eql rfl rfl) ?_
    refine KT.step rfl rfl (K.pick rfl (fun h => by cases h) (fun _ => rfl)) ?_
    refine KT.nil ?_
    refine thenK_n ?_
    refine KC.cond rfl (fun hc10 => ?_) (fun hc10 => ?_)
    · skip
      replace hc10 := of_decide_eq_true hc10
      refine KC.seq ?_
      refine KC.region ?_
      refine KT.step rfl rfl (K.assign rfl) ?_
      refine KT.nil ?_
      refine thenK_n ?_
      refine KC.ret ?_
      refine thenK_r ?_
      exact ⟨.inl rfl, _, rfl, fin_d (by rw [show aft x y = Nv from if_pos (.inr hc10)]; rfl)⟩
    · skip
      replace hc10 := of_decide_eq_false hc10
      refine KC.skip ?_
      refine thenK_n ?_
      refine KC.seq ?_
      refine KC.region ?_
      refine KT.step rfl rfl (K.move rfl) ?_
      refine KT.step rfl rfl (K.move rfl) ?_
      refine KT.step rfl rfl (K.add rfl rfl (wrap_id (by omega))) ?_
      refine KT.step rfl rfl (K.assign rfl) ?_
      refine KT.nil ?_
      refine thenK_n ?_
      refine KC.ret ?_
      exact ⟨.inl rfl, _, rfl, fin_d (by rw [show aft x y = x + y from if_neg (by rintro (h | h); exact hb7 h; exact hc10 h)])⟩
set_option maxRecDepth 10000 in
theorem one88 {n i j : Nat} (hi : i < n) : DeepCall Try.prog 88 [DI i, DI j] (DI (oneI n i j)) := by
  refine deepCall_K 5 Try.func88 rfl (Nat.le_of_ble_eq_true rfl) fun M W0 => ?_
  refine KC.seq ?_
  refine KC.region ?_
  refine KT.step rfl rfl (K.assign rfl) ?_
  refine KT.nil ?_
  refine thenK_n ?_
  refine KC.seq ?_
  refine KC.seq ?_
  refine KC.region ?_
  refine KT.step rfl rfl (K.move rfl) ?_
  refine KT.step rfl rfl (K.move rfl) ?_
  refine KT.step rfl rfl (K.eql rfl rfl) ?_
  refine KT.nil ?_
  refine thenK_n ?_
  refine KC.cond rfl (fun hc7 => ?_) (fun hc7 => ?_)
  · skip
    replace hc7 := of_decide_eq_true hc7
    refine KC.seq ?_
    refine KC.region ?_
    refine KT.step rfl rfl (K.assign rfl) ?_
    refine KT.nil ?_
    refine thenK_n ?_
    refine KC.ret ?_
    refine thenK_r ?_
    exact ⟨.inl rfl, _, rfl, fin_d (by rw [show oneI n i j = 0 from if_pos ⟨by omega, hi⟩])⟩
  · skip
    replace hc7 := of_decide_eq_false hc7
    refine KC.skip ?_
    refine thenK_n ?_
    refine KC.seq ?_
    refine KC.region ?_
    refine KT.step rfl rfl (K.assign rfl) ?_
    refine KT.nil ?_
    refine thenK_n ?_
    refine KC.ret ?_
    exact ⟨.inl rfl, _, rfl, fin_d (by rw [show oneI n i j = Nv from if_neg (by rintro ⟨h, _⟩; exact hc7 (by rw [h]))]; rfl)⟩
set_option maxRecDepth 10000 in
theorem greatest60_own {σ : List VObj} {id md : Nat} {l : List Int} {lo : Nat} {ex : Bool} (ho : σ[id]? = some ⟨icells l, md⟩) (hm : md < 2) (hl : l.length ≤ 1073741824) : OwnCall Try.prog 60 σ [.osl id 0 l.length 1 lo ex] σ (.d (DI (gre l))) := by
  refine ownCall_K Try.func60 rfl (Nat.le_of_ble_eq_true rfl) fun M W0 => ?_
  refine KC.seq ?_
  refine KC.region ?_
  refine KT.step rfl rfl (K.assign rfl) ?_
  refine KT.nil ?_
  refine thenK_n ?_
  refine KC.seq ?_
  refine KC.region ?_
  refine KT.step rfl rfl (K.assign rfl) ?_
  refine KT.nil ?_
  refine thenK_n ?_
  refine KC.seq ?_
  refine KC.seq ?_
  refine KC.region ?_
  refine KT.step rfl rfl (K.move rfl) ?_
  refine KT.step rfl rfl (K.lenO rfl Try.underlying33) ?_
  refine KT.step rfl rfl (K.move rfl) ?_
  refine KT.nil ?_
  refine thenK_n ?_
  refine KC.block ?_
  refine KC.loop (fun _ : Nat => σ) (fun i => [(3, .d (DI (gre (l.take i)))), (6, .osl id 0 l.length 1 lo ex), (7, .d (DI (l.length : Nat))), (8, .d (DI (i : Nat)))]) (fun i => i ≤ l.length) (fun i => l.length - i) 0 (Nat.zero_le _) rfl (by simp [Go.Vm.look, extK, enterK, gre, Nv]) ?_
  intro i hi
  refine KC.seq ?_
  refine KC.region ?_
  refine KT.step rfl rfl (K.lss rfl rfl) ?_
  refine KT.nil ?_
  refine thenK_n ?_
  refine KC.seq ?_
  refine KC.cond rfl (fun hc9 => ?_) (fun hc9 => ?_)
  · skip
    replace hc9 := of_decide_eq_true hc9
    refine KC.skip ?_
    refine thenK_n ?_
    refine KC.seq ?_
    refine KC.block ?_
    refine KC.seq ?_
    refine KC.region ?_
    refine KT.step rfl rfl (K.idxO rfl rfl (by omega) Try.underlying33 Try.size3) ?_
    refine KT.step rfl rfl (K.loadO rfl ho hm (icells_get (l := l) (i := i) (by omega)) Try.agg3) ?_
    refine KT.step rfl rfl (K.assign rfl) ?_
    refine KT.nil ?_
    refine thenK_n ?_
    refine KC.region ?_
    refine KT.step rfl rfl (K.move rfl) ?_
    refine KT.step rfl rfl (K.move rfl) ?_
    refine KT.step rfl rfl (K.max2 rfl rfl) ?_
    refine KT.step rfl rfl (K.assign rfl) ?_
    refine KT.nil ?_
    refine blockK_n ?_
    refine thenK_n ?_
    refine KC.region ?_
    refine KT.step rfl rfl (K.add rfl rfl (wrap_id (by omega))) ?_
    refine KT.step rfl rfl (K.move rfl) ?_
    refine KT.nil ?_
    refine thenK_n ?_
    refine ⟨i + 1, by omega, by omega, rfl, by simp [Go.Vm.look, extK, gre_take (show i < l.length by omega)]⟩
  · skip
    replace hc9 := of_decide_eq_false hc9
    refine KC.exit ?_
    refine thenK_x ?_
    refine thenK_x ?_
    refine blockK_e ?_
    refine thenK_n ?_
    refine KC.seq ?_
    refine KC.region ?_
    refine KT.step rfl rfl (K.move rfl) ?_
    refine KT.step rfl rfl (K.assign rfl) ?_
    refine KT.nil ?_
    refine thenK_n ?_
    refine KC.ret ?_
    rw [gre_end (show l.length ≤ i by omega)]
    exact ⟨.inl rfl, rfl, rfl⟩
set_option maxRecDepth 10000 in
theorem valid47 {d : DV} {m : List (List Int)} {L : Int} (hd : Mat d m) (hl : m.length ≤ 9223372036854775807) (hr : ∀ r ∈ m, r.length ≤ 9223372036854775807) (hL : 0 ≤ L ∧ L ≤ 1000000000000) : DeepCall Try.prog 47 [d, DI L] (DB (validB L m)) := by
  refine deepCall_K 5 Try.func47 rfl (Nat.le_of_ble_eq_true rfl) fun M W0 => ?_
  refine KC.seq ?_
  refine KC.region ?_
  refine KT.step rfl rfl (K.assign rfl) ?_
  refine KT.nil ?_
  refine thenK_n ?_
  refine KC.seq ?_
  refine KC.seq ?_
  refine KC.region ?_
  refine KT.step rfl rfl (K.move rfl) ?_
  refine KT.step rfl rfl (K.len rfl hd Try.underlying22) ?_
  refine KT.step rfl rfl (K.call3 rfl rfl rfl plainTry_52 (within52 _ _ _)) ?_
  refine KT.step rfl rfl (K.not rfl) ?_
  refine KT.nil ?_
  refine thenK_n ?_
  refine KC.cond rfl (fun hc12 => ?_) (fun hc12 => ?_)
  · skip
    refine KC.seq ?_
    refine KC.region ?_
    refine KT.step rfl rfl (K.assign rfl) ?_
    refine KT.nil ?_
    refine thenK_n ?_
    refine KC.ret ?_
    refine thenK_r ?_
    exact ⟨.inl rfl, _, rfl, fin_b (by
      have : (decide ((1 : Int) ≤ (m.length : Nat)) && decide (((m.length : Nat) : Int) ≤ 6)) = false := by rw [Bool.not_eq_true'] at hc12; exact hc12
      unfold validB
      rw [show (decide (1 ≤ m.length) && decide (m.length ≤ 6)) = false from by
        rw [← this]; congr 1 <;> exact decide_eq_decide.2 (by omega)]
      rfl)⟩
  · skip
    refine KC.skip ?_
    refine thenK_n ?_
    refine KC.seq ?_
    refine KC.seq ?_
    refine KC.region ?_
    refine KT.step rfl rfl (K.move rfl) ?_
    refine KT.step rfl rfl (K.len rfl hd Try.underlying22) ?_
    refine KT.step rfl rfl (K.move rfl) ?_
    refine KT.nil ?_
    refine thenK_n ?_
    refine KC.block ?_
    have hb6 : (decide ((1 : Int) ≤ (m.length : Nat)) && decide (((m.length : Nat) : Int) ≤ 6)) = true := by simpa using hc12
    refine KC.loop (fun _ : Nat => []) (fun i => [(0, .d d), (1, .d (DI L)), (13, .d d), (14, .d (DI (m.length : Nat))), (15, .d (DI (i : Nat)))]) (fun i => i ≤ m.length ∧ (m.take i).all (okRow m.length L) = true) (fun i => m.length - i) 0 ⟨Nat.zero_le _, rfl⟩ rfl (by simp [Go.Vm.look, extK, enterK]) ?_
    intro i hi
    obtain ⟨hi, hall⟩ := hi
    refine KC.seq ?_
    refine KC.region ?_
    refine KT.step rfl rfl (K.lss rfl rfl) ?_
    refine KT.nil ?_
    refine thenK_n ?_
    refine KC.seq ?_
    refine KC.cond rfl (fun hc16 => ?_) (fun hc16 => ?_)
    · skip
      replace hc16 := of_decide_eq_true hc16
      refine KC.skip ?_
      refine thenK_n ?_
      refine KC.seq ?_
      refine KC.block ?_
      refine KC.seq ?_
      refine KC.region ?_
      refine KT.idx rfl rfl rfl (by assumption) rfl (by omega) Try.underlying22 Try.size33 fun c17 cs17 hq17 => ?_
      refine KT.step rfl rfl (K.load rfl Try.agg33) ?_
      refine KT.step rfl rfl (K.assign rfl) ?_
      refine KT.nil ?_
      refine thenK_n ?_
      refine KC.seq ?_
      refine KC.seq ?_
      refine KC.region ?_
      refine KT.step rfl rfl (K.move rfl) ?_
      refine KT.step rfl rfl (K.len rfl hq17 Try.underlying33) ?_
      refine KT.step rfl rfl (K.move rfl) ?_
      refine KT.step rfl rfl (K.len rfl hd Try.underlying22) ?_
      refine KT.step rfl rfl (K.neq rfl rfl) ?_
      refine KT.nil ?_
      refine thenK_n ?_
      refine KC.cond rfl (fun hc23 => ?_) (fun hc23 => ?_)
      · skip
        replace hc23 := of_decide_eq_true hc23
        refine KC.seq ?_
        refine KC.region ?_
        refine KT.step rfl rfl (K.assign rfl) ?_
        refine KT.nil ?_
        refine thenK_n ?_
        refine KC.ret ?_
        refine thenK_r ?_
        refine blockK_r ?_
        refine thenK_r ?_
        refine thenK_r ?_
        refine blockK_r ?_
        refine thenK_r ?_
        refine ⟨.inl rfl, _, rfl, fin_b ?_⟩
        unfold validB
        rw [all_false (show i < m.length by omega) (show okRow m.length L m[i] = false from by unfold okRow; rw [decide_eq_false (by omega)]; rfl), Bool.and_false]
      · skip
        replace hc23 := of_decide_eq_false hc23
        refine KC.skip ?_
        refine thenK_n ?_
        refine KC.seq ?_
        refine KC.region ?_
        refine KT.step rfl rfl (K.move rfl) ?_
        refine KT.step rfl rfl (K.len rfl hq17 Try.underlying33) ?_
        refine KT.step rfl rfl (K.move rfl) ?_
        refine KT.nil ?_
        refine thenK_n ?_
        refine KC.block ?_
        have hrl := hr _ (List.getElem_mem (show i < m.length by omega))
        refine KC.loop (fun _ : Nat => []) (fun j => [(0, .d d), (1, .d (DI L)), (13, .d d), (14, .d (DI (m.length : Nat))), (15, .d (DI (i : Nat))), (24, .d c17), (25, .d (DI (m[i].length : Nat))), (26, .d (DI (j : Nat)))]) (fun j => j ≤ m[i].length ∧ (m[i].take j).all (okX L) = true) (fun j => m[i].length - j) 0 ⟨Nat.zero_le _, rfl⟩ rfl (by simp [Go.Vm.look, extK, enterK]) ?_
        intro j hj
        obtain ⟨hj, hall2⟩ := hj
        refine KC.seq ?_
        refine KC.region ?_
        refine KT.step rfl rfl (K.lss rfl rfl) ?_
        refine KT.nil ?_
        refine thenK_n ?_
        refine KC.seq ?_
        refine KC.cond rfl (fun hc27 => ?_) (fun hc27 => ?_)
        · skip
          replace hc27 := of_decide_eq_true hc27
          refine KC.skip ?_
          refine thenK_n ?_
          refine KC.seq ?_
          refine KC.block ?_
          refine KC.seq ?_
          refine KC.region ?_
          refine KT.idxI rfl rfl rfl (by assumption) rfl (by omega) Try.underlying33 Try.size3 fun cs28 => ?_
          refine KT.step rfl rfl (K.load rfl Try.agg3) ?_
          refine KT.step rfl rfl (K.assign rfl) ?_
          refine KT.nil ?_
          refine thenK_n ?_
          refine KC.seq ?_
          refine KC.region ?_
          refine KT.step rfl rfl (K.move rfl) ?_
          refine KT.step rfl rfl (K.neq rfl rfl) ?_
          refine KT.step rfl rfl (K.move rfl) ?_
          refine KT.bcase (fun hb32 => ?_) (fun hb32 => ?_)
          · skip
            replace hb32 := of_decide_eq_true hb32
            refine KT.step rfl rfl (K.move rfl) ?_
            refine KT.step rfl rfl (K.move rfl) ?_
            refine KT.step rfl rfl (K.unI rfl (show IntKind.i64.wrap (0 - L) = -L from by rw [Int.zero_sub]; exact wrap_id (by omega))) ?_
            refine KT.step rfl rfl (K.move rfl) ?_
            refine KT.step rfl rfl (K.call3 rfl rfl rfl plainTry_52 (within52 _ _ _)) ?_
            refine KT.step rfl rfl (K.not rfl) ?_
            refine KT.step rfl rfl (K.pick rfl (fun _ => rfl) (fun h => by cases h)) ?_
            refine KT.nil ?_
            refine thenK_n ?_
            refine KC.cond rfl (fun hc39 => ?_) (fun hc39 => ?_)
            · skip
              refine KC.seq ?_
              refine KC.region ?_
              refine KT.step rfl rfl (K.assign rfl) ?_
              refine KT.nil ?_
              refine thenK_n ?_
              refine KC.ret ?_
              refine blockK_r ?_
              refine thenK_r ?_
              refine thenK_r ?_
              refine blockK_r ?_
              refine blockK_r ?_
              refine thenK_r ?_
              refine thenK_r ?_
              refine blockK_r ?_
              refine thenK_r ?_
              refine ⟨.inl rfl, _, rfl, fin_b ?_⟩
              have hc39 : (decide (-L ≤ m[i][j]) && decide (m[i][j] ≤ L)) = false := by rw [Bool.not_eq_true'] at hc39; exact hc39
              unfold validB
              rw [all_false (show i < m.length by omega) (show okRow m.length L m[i] = false from by
                unfold okRow
                rw [all_false (show j < m[i].length by omega) (show okX L m[i][j] = false from by
                  unfold okX
                  rw [hc39, decide_eq_false (show ¬ m[i][j] = Nv from hb32)]; rfl), Bool.and_false]), Bool.and_false]
            · skip
              refine KC.skip ?_
              refine blockK_n ?_
              refine thenK_n ?_
              refine KC.region ?_
              refine KT.step rfl rfl (K.add rfl rfl (wrap_id (by omega))) ?_
              refine KT.step rfl rfl (K.move rfl) ?_
              refine KT.nil ?_
              refine thenK_n ?_
              refine ⟨j + 1, ⟨by omega, ?_⟩, by omega, rfl, by simp [Go.Vm.look, extK]⟩
              rw [all_take _ (show j < m[i].length by omega), hall2, Bool.true_and]
              unfold okX
              have hc39 : (decide (-L ≤ m[i][j]) && decide (m[i][j] ≤ L)) = true := by simpa using hc39
              rw [hc39, Bool.or_true]
          · skip
            replace hb32 := of_decide_eq_false hb32
            refine KT.skip rfl rfl ?_
            refine KT.skip rfl rfl ?_
            refine KT.skip rfl rfl ?_
            refine KT.skip rfl rfl ?_
            refine KT.skip rfl rfl ?_
            refine KT.skip rfl rfl ?_
            refine KT.step rfl rfl (K.pick rfl (fun h => by cases h) (fun _ => rfl)) ?_
            refine KT.nil ?_
            refine thenK_n ?_
            refine KC.cond rfl (fun hc39 => ?_) (fun hc39 => ?_)
            · cases hc39
            · skip
              refine KC.skip ?_
              refine blockK_n ?_
              refine thenK_n ?_
              refine KC.region ?_
              refine KT.step rfl rfl (K.add rfl rfl (wrap_id (by omega))) ?_
              refine KT.step rfl rfl (K.move rfl) ?_
              refine KT.nil ?_
              refine thenK_n ?_
              refine ⟨j + 1, ⟨by omega, ?_⟩, by omega, rfl, by simp [Go.Vm.look, extK]⟩
              rw [all_take _ (show j < m[i].length by omega), hall2, Bool.true_and]
              unfold okX
              rw [decide_eq_true (show m[i][j] = Nv from Classical.not_not.1 hb32)]; rfl
        · skip
          replace hc27 := of_decide_eq_false hc27
          refine KC.exit ?_
          refine thenK_x ?_
          refine thenK_x ?_
          refine blockK_e ?_
          refine blockK_n ?_
          refine thenK_n ?_
          refine KC.region ?_
          refine KT.step rfl rfl (K.add rfl rfl (wrap_id (by omega))) ?_
          refine KT.step rfl rfl (K.move rfl) ?_
          refine KT.nil ?_
          refine thenK_n ?_
          refine ⟨i + 1, ⟨by omega, ?_⟩, by omega, rfl, by simp [Go.Vm.look, extK]⟩
          rw [all_take _ (show i < m.length by omega), hall, Bool.true_and]
          unfold okRow
          rw [decide_eq_true (by omega), Bool.true_and]
          exact all_end (by omega) hall2
    · skip
      replace hc16 := of_decide_eq_false hc16
      refine KC.exit ?_
      refine thenK_x ?_
      refine thenK_x ?_
      refine blockK_e ?_
      refine thenK_n ?_
      refine KC.seq ?_
      refine KC.region ?_
      refine KT.step rfl rfl (K.assign rfl) ?_
      refine KT.nil ?_
      refine thenK_n ?_
      refine KC.ret ?_
      refine ⟨.inl rfl, _, rfl, fin_b ?_⟩
      unfold validB
      rw [all_end (by omega) hall, Bool.and_true, ← hb6]
      congr 1 <;> exact decide_eq_decide.2 (by omega)
end Go.Proofs.Ythbnnffmhnjpjaa

