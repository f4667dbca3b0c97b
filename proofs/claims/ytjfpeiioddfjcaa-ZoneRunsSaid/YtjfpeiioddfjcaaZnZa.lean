import Derived.Test.YtjfpeiioddfjcaaZnL
import Derived.Test.YtjfpeiioddfjcaaZnH
/-
  Automata: guards, waiting, resetting.
-/
namespace Go.Proofs.Ytjfpeiioddfjcaa
open Go.Vm Go.Zn
theorem plainTry_99 : plainFn Try.prog 99 = true := by kernel_rfl
theorem plainTry_82 : plainFn Try.prog 82 = true := by kernel_rfl
theorem plainTry_83 : plainFn Try.prog 83 = true := by kernel_rfl
theorem plainTry_87 : plainFn Try.prog 87 = true := by kernel_rfl
theorem plainTry_108 : plainFn Try.prog 108 = true := by kernel_rfl
theorem plainTry_107 : plainFn Try.prog 107 = true := by kernel_rfl
theorem Try.agg56 : isAggT Try.prog 56 = some true := by kernel_rfl
theorem Try.size56 : sizeT Try.prog 56 = some 3 := by kernel_rfl
theorem Try.zero56 : zeroT Try.prog 56 = some (.agg #[.int .i64 0, .slice none 0 0, .slice none 0 0]) := by kernel_rfl
theorem Try.fld56_0 : fieldT Try.prog 56 0 = some { name := "Clocks", type := 3, offset := 0, embedded := false, tag := "", pkgPath := "", byteOffset := 0 } := by kernel_rfl
theorem Try.fld56_1 : fieldT Try.prog 56 1 = some { name := "Invariants", type := 53, offset := 1, embedded := false, tag := "", pkgPath := "", byteOffset := 8 } := by kernel_rfl
theorem Try.fld56_2 : fieldT Try.prog 56 2 = some { name := "Edges", type := 54, offset := 2, embedded := false, tag := "", pkgPath := "", byteOffset := 32 } := by kernel_rfl
theorem Try.places56 : (match Try.prog.underlying 56 with | some (.struct fs) => placesT Try.prog fs | _ => none) = some #[(0, 1), (1, 1), (2, 1)] := by kernel_rfl
theorem Try.agg117 : isAggT Try.prog 117 = some false := by kernel_rfl
theorem Try.size117 : sizeT Try.prog 117 = some 1 := by kernel_rfl
theorem Try.one117 : OneT Try.prog 117 (.slice none 0 0) := ⟨by kernel_rfl, by kernel_rfl, rfl, of_decide_eq_true (by kernel_rfl)⟩

def okG (c : Int) (g : G3) : Bool := guardB c 10 g.1 g.2.1 g.2.2 && !(decide (g.1 ≠ 0) && decide (g.2.1 ≠ 0))
def okL (c : Int) (L : List G3) : Bool := decide (L.length ≤ 6) && L.all (okG c)
theorem okG_iff {c : Int} {g : G3} : okG c g = true ↔ ((0 ≤ g.1 ∧ g.1 ≤ c) ∧ 0 ≤ g.2.1 ∧ g.2.1 ≤ c) ∧ bndB 10 g.2.2 = true ∧ (g.1 = 0 ∨ g.2.1 = 0) := by
  unfold okG
  rw [Bool.and_eq_true, guardB_iff]
  constructor
  · rintro ⟨⟨h1, h2⟩, h3⟩
    refine ⟨h1, h2, ?_⟩
    by_cases a : g.1 = 0
    · exact .inl a
    · by_cases b : g.2.1 = 0
      · exact .inr b
      · rw [decide_eq_true a, decide_eq_true b] at h3; cases h3
  · rintro ⟨h1, h2, h3⟩
    refine ⟨⟨h1, h2⟩, ?_⟩
    rcases h3 with h | h
    · rw [decide_eq_false (show ¬ g.1 ≠ 0 from fun k => k h), Bool.false_and]; rfl
    · rw [decide_eq_false (show ¬ g.2.1 ≠ 0 from fun k => k h), Bool.and_false]; rfl
theorem okL_long {c : Int} {L : List G3} (h : ¬ L.length ≤ 6) : okL c L = false := by unfold okL; rw [decide_eq_false h, Bool.false_and]
theorem okL_bad {c : Int} {L : List G3} {m : Nat} (hm : m < L.length) (h : okG c L[m] = false) : okL c L = false := by
  unfold okL
  rw [Bool.and_eq_false_iff]
  exact .inr (all_false hm h)
theorem okL_all {c : Int} {L : List G3} (hl : L.length ≤ 6) (h : ∀ q (h : q < L.length), okG c L[q] = true) : okL c L = true := by
  unfold okL
  rw [decide_eq_true hl, Bool.true_and, List.all_eq_true]
  intro g hg
  obtain ⟨q, hq, rfl⟩ := List.getElem_of_mem hg
  exact h q hq
set_option maxRecDepth 10000 in
theorem validGuards99 {d : DV} {L : List G3} {c : Int} (hd : Gds d L) (hl : L.length ≤ 9223372036854775807) : DeepCall Try.prog 99 [d, DI c] (DB (okL c L)) := by
  refine deepCall_K 5 Try.func99 rfl (Nat.le_of_ble_eq_true rfl) fun M W0 => ?_
  refine KC.seq ?_
  refine KC.region ?_
  refine KT.step rfl rfl (K.assign rfl) ?_
  refine KT.nil ?_
  refine thenK_n ?_
  refine KC.seq ?_
  refine KC.seq ?_
  refine KC.region ?_
  refine KT.step rfl rfl (K.move rfl) ?_
  refine KT.step rfl rfl (K.lenG rfl hd Try.underlying107) ?_
  refine KT.step rfl rfl (K.gtr rfl rfl) ?_
  refine KT.nil ?_
  refine thenK_n ?_
  refine KC.cond rfl (fun hc9 => ?_) (fun hc9 => ?_)
  · skip
    replace hc9 := of_decide_eq_true hc9
    refine KC.seq ?_
    refine KC.region ?_
    refine KT.step rfl rfl (K.assign rfl) ?_
    refine KT.nil ?_
    refine thenK_n ?_
    refine KC.ret ?_
    refine thenK_r ?_
    exact ⟨.inl rfl, _, rfl, fin_b (okL_long (by omega))⟩
  · skip
    replace hc9 := of_decide_eq_false hc9
    refine KC.skip ?_
    refine thenK_n ?_
    refine KC.seq ?_
    refine KC.seq ?_
    refine KC.region ?_
    refine KT.step rfl rfl (K.move rfl) ?_
    refine KT.step rfl rfl (K.lenG rfl hd Try.underlying107) ?_
    refine KT.step rfl rfl (K.move rfl) ?_
    refine KT.nil ?_
    refine thenK_n ?_
    refine KC.block ?_
    refine KC.loop (fun p : List VObj × Nat => p.1) (fun p => [(1, .d (DI c)), (10, .d d), (11, .d (DI (L.length : Nat))), (12, .d (DI (p.2 : Nat)))]) (fun p => p.2 ≤ L.length ∧ ∀ q (h : q < L.length), q < p.2 → okG c L[q] = true) (fun p => L.length - p.2) (_, 0) ⟨Nat.zero_le _, fun q _ h => absurd h (Nat.not_lt_zero _)⟩ rfl (by simp [Go.Vm.look, extK, enterK]) ?_
    intro p hp
    obtain ⟨hp2, hall⟩ := hp
    refine KC.seq ?_
    refine KC.region ?_
    refine KT.step rfl rfl (K.lss rfl rfl) ?_
    refine KT.nil ?_
    refine thenK_n ?_
    refine KC.seq ?_
    refine KC.cond rfl (fun hc13 => ?_) (fun hc13 => ?_)
    · skip
      replace hc13 := of_decide_eq_true hc13
      have hil : p.2 < L.length := by omega
      refine KC.skip ?_
      refine thenK_n ?_
      refine KC.seq ?_
      refine KC.block ?_
      refine KC.seq ?_
      refine KC.region ?_
      refine KT.step rfl rfl (K.idxG rfl hd rfl hil Try.underlying107 Try.size38) ?_
      refine KT.step rfl rfl (K.loadG hil rfl Try.agg38 Try.size38) ?_
      refine KT.step rfl rfl (K.alloc Try.zero38) ?_
      refine KT.storeL (cs := (gd3 L[p.2]).map .d) rfl rfl rfl rfl rfl rfl rfl Try.size38 ?_
      refine KT.nil ?_
      refine thenK_n ?_
      refine KC.seq ?_
      refine KC.region ?_
      refine KT.step rfl rfl (K.loadOA (gd3 L[p.2]) rfl (List.getElem?_concat_length ..) (by decide) Try.agg38 Try.size38 rfl) ?_
      refine KT.step rfl rfl (K.move rfl) ?_
      refine KT.step rfl rfl (K.call3 rfl rfl rfl plainTry_61 (validGuard61 _ _ _ _ _ (by decide))) ?_
      refine KT.step rfl rfl (K.not rfl) ?_
      refine KT.step rfl rfl (K.move rfl) ?_
      refine KT.bcase (fun hb20 => ?_) (fun hb20 => ?_)
      · skip
        refine KT.skip rfl rfl ?_
        refine KT.skip rfl rfl ?_
        refine KT.skip rfl rfl ?_
        refine KT.skip rfl rfl ?_
        refine KT.skip rfl rfl ?_
        refine KT.skip rfl rfl ?_
        refine KT.skip rfl rfl ?_
        refine KT.skip rfl rfl ?_
        refine KT.step rfl rfl (K.pick rfl (fun _ => rfl) (fun h => by cases h)) ?_
        refine KT.nil ?_
        refine thenK_n ?_
        refine KC.cond rfl (fun hc29 => ?_) (fun hc29 => ?_)
        · skip
          refine KC.seq ?_
          refine KC.region ?_
          refine KT.step rfl rfl (K.assign rfl) ?_
          refine KT.nil ?_
          refine thenK_n ?_
          refine KC.ret ?_
          refine blockK_r ?_
          refine thenK_r ?_
          refine thenK_r ?_
          refine blockK_r ?_
          refine thenK_r ?_
          have hbad : okG c L[p.2] = false := by
            unfold okG
            rw [show guardB c 10 L[p.2].1 L[p.2].2.1 L[p.2].2.2 = false by simpa using hb20]; rfl
          exact ⟨.inl rfl, _, rfl, fin_b (okL_bad hil hbad)⟩
        · cases hc29
      · skip
        refine KT.step rfl rfl (K.fieldAddrO rfl Try.fld38_0 Try.size3) ?_
        refine KT.step rfl rfl (K.loadO rfl (List.getElem?_concat_length ..) (by simp) rfl Try.agg3) ?_
        refine KT.step rfl rfl (K.neq rfl rfl) ?_
        refine KT.step rfl rfl (K.move rfl) ?_
        refine KT.bcase (fun hb24 => ?_) (fun hb24 => ?_)
        · skip
          replace hb24 := of_decide_eq_true hb24
          refine KT.step rfl rfl (K.fieldAddrO rfl Try.fld38_1 Try.size3) ?_
          refine KT.step rfl rfl (K.loadO rfl (List.getElem?_concat_length ..) (by simp) rfl Try.agg3) ?_
          refine KT.step rfl rfl (K.neq rfl rfl) ?_
          refine KT.step rfl rfl (K.pick rfl (fun _ => rfl) (fun h => by cases h)) ?_
          refine KT.step rfl rfl (K.pick rfl (fun h => by cases h) (fun _ => rfl)) ?_
          refine KT.nil ?_
          refine thenK_n ?_
          refine KC.cond rfl (fun hc29 => ?_) (fun hc29 => ?_)
          · skip
            replace hc29 := of_decide_eq_true hc29
            refine KC.seq ?_
            refine KC.region ?_
            refine KT.step rfl rfl (K.assign rfl) ?_
            refine KT.nil ?_
            refine thenK_n ?_
            refine KC.ret ?_
            refine blockK_r ?_
            refine thenK_r ?_
            refine thenK_r ?_
            refine blockK_r ?_
            refine thenK_r ?_
            have hbad : okG c L[p.2] = false := Bool.eq_false_iff.2 fun h => by
              obtain ⟨_, _, h3⟩ := okG_iff.1 h
              rcases h3 with h3 | h3
              · exact hb24 h3
              · exact hc29 h3
            exact ⟨.inl rfl, _, rfl, fin_b (okL_bad hil hbad)⟩
          · skip
            replace hc29 := of_decide_eq_false hc29
            refine KC.skip ?_
            refine blockK_n ?_
            refine thenK_n ?_
            refine KC.region ?_
            refine KT.step rfl rfl (K.add rfl rfl (wrap_id (by omega))) ?_
            refine KT.step rfl rfl (K.move rfl) ?_
            refine KT.nil ?_
            refine thenK_n ?_
            have hg := guardB_iff.1 (show guardB c 10 L[p.2].1 L[p.2].2.1 L[p.2].2.2 = true by simpa using hb20)
            refine ⟨(_, p.2 + 1), ⟨by simp only; omega, fun q h hq => ?_⟩, by simp only; omega, rfl, by simp [Go.Vm.look, extK]⟩
            by_cases e : q = p.2
            · subst e
              exact okG_iff.2 ⟨hg.1, hg.2, .inr (Classical.not_not.1 hc29)⟩
            · exact hall q h (by simp only at hq; omega)
        · skip
          replace hb24 := of_decide_eq_false hb24
          refine KT.skip rfl rfl ?_
          refine KT.skip rfl rfl ?_
          refine KT.skip rfl rfl ?_
          refine KT.step rfl rfl (K.pick rfl (fun h => by cases h) (fun _ => rfl)) ?_
          refine KT.step rfl rfl (K.pick rfl (fun h => by cases h) (fun _ => rfl)) ?_
          refine KT.nil ?_
          refine thenK_n ?_
          refine KC.cond rfl (fun hc29 => ?_) (fun hc29 => ?_)
          · cases hc29
          · skip
            refine KC.skip ?_
            refine blockK_n ?_
            refine thenK_n ?_
            refine KC.region ?_
            refine KT.step rfl rfl (K.add rfl rfl (wrap_id (by omega))) ?_
            refine KT.step rfl rfl (K.move rfl) ?_
            refine KT.nil ?_
            refine thenK_n ?_
            have hg := guardB_iff.1 (show guardB c 10 L[p.2].1 L[p.2].2.1 L[p.2].2.2 = true by simpa using hb20)
            refine ⟨(_, p.2 + 1), ⟨by simp only; omega, fun q h hq => ?_⟩, by simp only; omega, rfl, by simp [Go.Vm.look, extK]⟩
            by_cases e : q = p.2
            · subst e
              exact okG_iff.2 ⟨hg.1, hg.2, .inl (Classical.not_not.1 hb24)⟩
            · exact hall q h (by simp only at hq; omega)
    · skip
      replace hc13 := of_decide_eq_false hc13
      refine KC.exit ?_
      refine thenK_x ?_
      refine thenK_x ?_
      refine blockK_e ?_
      refine thenK_n ?_
      refine KC.seq ?_
      refine KC.region ?_
      refine KT.step rfl rfl (K.assign rfl) ?_
      refine KT.nil ?_
      refine thenK_n ?_
      refine KC.ret ?_
      exact ⟨.inl rfl, _, rfl, fin_b (okL_all (by omega) fun q h => hall q h (by omega))⟩
set_option maxHeartbeats 1000000 in
set_option maxRecDepth 10000 in
theorem rGuards82 {d iD eD : DV} {L : List G3} {c : Int} (hd : Gds d L) (hl : L.length ≤ 9223372036854775807) : DeepCall Try.prog 82 [.agg [DI c, iD, eD], d] (DB (okL c L)) := by
  refine deepCall_K 5 Try.func82 rfl (Nat.le_of_ble_eq_true rfl) fun M W0 => ?_
  refine KC.seq ?_
  refine KC.region ?_
  refine KT.step rfl rfl (K.box rfl) ?_
  refine KT.step rfl rfl (K.assign rfl) ?_
  refine KT.nil ?_
  refine thenK_n ?_
  refine KC.seq ?_
  refine KC.seq ?_
  refine KC.region ?_
  refine KT.step rfl rfl (K.move rfl) ?_
  refine KT.step rfl rfl (K.lenG rfl hd Try.underlying117) ?_
  refine KT.step rfl rfl (K.move rfl) ?_
  refine KT.nil ?_
  refine thenK_n ?_
  refine KC.block ?_
  refine KC.loop (fun p : List VObj × Nat => p.1) (fun p => [(1, .d d), (2, .optr 0 0), (7, .d d), (8, .d (DI (L.length : Nat))), (9, .d (DI (p.2 : Nat)))]) (fun p => p.1[0]? = some ⟨[.d (DI c), .d iD, .d eD], 0⟩ ∧ p.2 ≤ L.length ∧ ∀ q (h : q < L.length), q < p.2 → okG c L[q] = true) (fun p => L.length - p.2) (_, 0) ⟨rfl, Nat.zero_le _, fun q _ h => absurd h (Nat.not_lt_zero _)⟩ rfl (by simp [Go.Vm.look, extK, enterK]) ?_
  intro p hp
  obtain ⟨y0, hp2, hall⟩ := hp
  refine KC.seq ?_
  refine KC.region ?_
  refine KT.step rfl rfl (K.lss rfl rfl) ?_
  refine KT.nil ?_
  refine thenK_n ?_
  refine KC.seq ?_
  refine KC.cond rfl (fun hc10 => ?_) (fun hc10 => ?_)
  · skip
    replace hc10 := of_decide_eq_true hc10
    have hil : p.2 < L.length := by omega
    refine KC.skip ?_
    refine thenK_n ?_
    refine KC.seq ?_
    refine KC.block ?_
    refine KC.seq ?_
    refine KC.region ?_
    refine KT.step rfl rfl (K.idxG rfl hd rfl hil Try.underlying117 Try.size36) ?_
    refine KT.step rfl rfl (K.loadG hil rfl Try.agg36 Try.size36) ?_
    refine KT.step rfl rfl (K.alloc Try.zero36) ?_
    refine KT.storeL (cs := (gd3 L[p.2]).map .d) rfl rfl rfl rfl rfl rfl rfl Try.size36 ?_
    refine KT.nil ?_
    refine thenK_n ?_
    refine KC.seq ?_
    refine KC.region ?_
    refine KT.step rfl rfl (K.fieldAddrO rfl Try.fld36_0 Try.size3) ?_
    refine KT.step rfl rfl (K.loadO rfl (List.getElem?_concat_length ..) (by simp) rfl Try.agg3) ?_
    refine KT.step rfl rfl (K.lss rfl rfl) ?_
    refine KT.step rfl rfl (K.move rfl) ?_
    refine KT.bcase (fun hb16 => ?_) (fun hb16 => ?_)
    · skip
      replace hb16 := of_decide_eq_true hb16
      refine KT.skip rfl rfl ?_
      refine KT.skip rfl rfl ?_
      refine KT.skip rfl rfl ?_
      refine KT.skip rfl rfl ?_
      refine KT.skip rfl rfl ?_
      refine KT.step rfl rfl (K.pick rfl (fun _ => rfl) (fun h => by cases h)) ?_
      refine KT.step rfl rfl (K.move rfl) ?_
      refine KT.skip rfl rfl ?_
      refine KT.skip rfl rfl ?_
      refine KT.skip rfl rfl ?_
      refine KT.step rfl rfl (K.pick rfl (fun _ => rfl) (fun h => by cases h)) ?_
      refine KT.step rfl rfl (K.move rfl) ?_
      refine KT.skip rfl rfl ?_
      refine KT.skip rfl rfl ?_
      refine KT.skip rfl rfl ?_
      refine KT.skip rfl rfl ?_
      refine KT.skip rfl rfl ?_
      refine KT.step rfl rfl (K.pick rfl (fun _ => rfl) (fun h => by cases h)) ?_
      refine KT.step rfl rfl (K.move rfl) ?_
      refine KT.skip rfl rfl ?_
      refine KT.skip rfl rfl ?_
      refine KT.skip rfl rfl ?_
      refine KT.skip rfl rfl ?_
      refine KT.skip rfl rfl ?_
      refine KT.skip rfl rfl ?_
      refine KT.skip rfl rfl ?_
      refine KT.skip rfl rfl ?_
      refine KT.step rfl rfl (K.pick rfl (fun _ => rfl) (fun h => by cases h)) ?_
      refine KT.step rfl rfl (K.move rfl) ?_
      refine KT.skip rfl rfl ?_
      refine KT.skip rfl rfl ?_
      refine KT.skip rfl rfl ?_
      refine KT.skip rfl rfl ?_
      refine KT.step rfl rfl (K.pick rfl (fun _ => rfl) (fun h => by cases h)) ?_
      refine KT.nil ?_
      refine thenK_n ?_
      refine KC.cond rfl (fun hc50 => ?_) (fun hc50 => ?_)
      · skip
        refine KC.seq ?_
        refine KC.region ?_
        refine KT.step rfl rfl (K.assign rfl) ?_
        refine KT.nil ?_
        refine thenK_n ?_
        refine KC.ret ?_
        refine blockK_r ?_
        refine thenK_r ?_
        refine thenK_r ?_
        refine blockK_r ?_
        refine thenK_r ?_
        have hbad : okG c L[p.2] = false := Bool.eq_false_iff.2 fun h => by
          obtain ⟨⟨⟨h1, h2⟩, h3, h4⟩, h5, h6⟩ := okG_iff.1 h
          omega
        exact ⟨.inl rfl, _, rfl, fin_b (okL_bad hil hbad)⟩
      · cases hc50
    · skip
      replace hb16 := of_decide_eq_false hb16
      refine KT.step rfl rfl (K.fieldAddrO rfl Try.fld36_0 Try.size3) ?_
      refine KT.step rfl rfl (K.loadO rfl (List.getElem?_concat_length ..) (by simp) rfl Try.agg3) ?_
      refine KT.step rfl rfl (K.fieldAddrO rfl Try.fld56_0 Try.size3) ?_
      refine KT.step rfl rfl (K.loadO rfl (get_left y0) (by simp) rfl Try.agg3) ?_
      refine KT.step rfl rfl (K.gtr rfl rfl) ?_
      refine KT.step rfl rfl (K.pick rfl (fun h => by cases h) (fun _ => rfl)) ?_
      refine KT.step rfl rfl (K.move rfl) ?_
      refine KT.bcase (fun hb23 => ?_) (fun hb23 => ?_)
      · skip
        replace hb23 := of_decide_eq_true hb23
        refine KT.skip rfl rfl ?_
        refine KT.skip rfl rfl ?_
        refine KT.skip rfl rfl ?_
        refine KT.step rfl rfl (K.pick rfl (fun _ => rfl) (fun h => by cases h)) ?_
        refine KT.step rfl rfl (K.move rfl) ?_
        refine KT.skip rfl rfl ?_
        refine KT.skip rfl rfl ?_
        refine KT.skip rfl rfl ?_
        refine KT.skip rfl rfl ?_
        refine KT.skip rfl rfl ?_
        refine KT.step rfl rfl (K.pick rfl (fun _ => rfl) (fun h => by cases h)) ?_
        refine KT.step rfl rfl (K.move rfl) ?_
        refine KT.skip rfl rfl ?_
        refine KT.skip rfl rfl ?_
        refine KT.skip rfl rfl ?_
        refine KT.skip rfl rfl ?_
        refine KT.skip rfl rfl ?_
        refine KT.skip rfl rfl ?_
        refine KT.skip rfl rfl ?_
        refine KT.skip rfl rfl ?_
        refine KT.step rfl rfl (K.pick rfl (fun _ => rfl) (fun h => by cases h)) ?_
        refine KT.step rfl rfl (K.move rfl) ?_
        refine KT.skip rfl rfl ?_
        refine KT.skip rfl rfl ?_
        refine KT.skip rfl rfl ?_
        refine KT.skip rfl rfl ?_
        refine KT.step rfl rfl (K.pick rfl (fun _ => rfl) (fun h => by cases h)) ?_
        refine KT.nil ?_
        refine thenK_n ?_
        refine KC.cond rfl (fun hc50 => ?_) (fun hc50 => ?_)
        · skip
          refine KC.seq ?_
          refine KC.region ?_
          refine KT.step rfl rfl (K.assign rfl) ?_
          refine KT.nil ?_
          refine thenK_n ?_
          refine KC.ret ?_
          refine blockK_r ?_
          refine thenK_r ?_
          refine thenK_r ?_
          refine blockK_r ?_
          refine thenK_r ?_
          have hbad : okG c L[p.2] = false := Bool.eq_false_iff.2 fun h => by
            obtain ⟨⟨⟨h1, h2⟩, h3, h4⟩, h5, h6⟩ := okG_iff.1 h
            omega
          exact ⟨.inl rfl, _, rfl, fin_b (okL_bad hil hbad)⟩
        · cases hc50
      · skip
        replace hb23 := of_decide_eq_false hb23
        refine KT.step rfl rfl (K.fieldAddrO rfl Try.fld36_1 Try.size3) ?_
        refine KT.step rfl rfl (K.loadO rfl (List.getElem?_concat_length ..) (by simp) rfl Try.agg3) ?_
        refine KT.step rfl rfl (K.lss rfl rfl) ?_
        refine KT.step rfl rfl (K.pick rfl (fun h => by cases h) (fun _ => rfl)) ?_
        refine KT.step rfl rfl (K.move rfl) ?_
        refine KT.bcase (fun hb28 => ?_) (fun hb28 => ?_)
        · skip
          replace hb28 := of_decide_eq_true hb28
          refine KT.skip rfl rfl ?_
          refine KT.skip rfl rfl ?_
          refine KT.skip rfl rfl ?_
          refine KT.skip rfl rfl ?_
          refine KT.skip rfl rfl ?_
          refine KT.step rfl rfl (K.pick rfl (fun _ => rfl) (fun h => by cases h)) ?_
          refine KT.step rfl rfl (K.move rfl) ?_
          refine KT.skip rfl rfl ?_
          refine KT.skip rfl rfl ?_
          refine KT.skip rfl rfl ?_
          refine KT.skip rfl rfl ?_
          refine KT.skip rfl rfl ?_
          refine KT.skip rfl rfl ?_
          refine KT.skip rfl rfl ?_
          refine KT.skip rfl rfl ?_
          refine KT.step rfl rfl (K.pick rfl (fun _ => rfl) (fun h => by cases h)) ?_
          refine KT.step rfl rfl (K.move rfl) ?_
          refine KT.skip rfl rfl ?_
          refine KT.skip rfl rfl ?_
          refine KT.skip rfl rfl ?_
          refine KT.skip rfl rfl ?_
          refine KT.step rfl rfl (K.pick rfl (fun _ => rfl) (fun h => by cases h)) ?_
          refine KT.nil ?_
          refine thenK_n ?_
          refine KC.cond rfl (fun hc50 => ?_) (fun hc50 => ?_)
          · skip
            refine KC.seq ?_
            refine KC.region ?_
            refine KT.step rfl rfl (K.assign rfl) ?_
            refine KT.nil ?_
            refine thenK_n ?_
            refine KC.ret ?_
            refine blockK_r ?_
            refine thenK_r ?_
            refine thenK_r ?_
            refine blockK_r ?_
            refine thenK_r ?_
            have hbad : okG c L[p.2] = false := Bool.eq_false_iff.2 fun h => by
              obtain ⟨⟨⟨h1, h2⟩, h3, h4⟩, h5, h6⟩ := okG_iff.1 h
              omega
            exact ⟨.inl rfl, _, rfl, fin_b (okL_bad hil hbad)⟩
          · cases hc50
        · skip
          replace hb28 := of_decide_eq_false hb28
          refine KT.step rfl rfl (K.fieldAddrO rfl Try.fld36_1 Try.size3) ?_
          refine KT.step rfl rfl (K.loadO rfl (List.getElem?_concat_length ..) (by simp) rfl Try.agg3) ?_
          refine KT.step rfl rfl (K.fieldAddrO rfl Try.fld56_0 Try.size3) ?_
          refine KT.step rfl rfl (K.loadO rfl (get_left y0) (by simp) rfl Try.agg3) ?_
          refine KT.step rfl rfl (K.gtr rfl rfl) ?_
          refine KT.step rfl rfl (K.pick rfl (fun h => by cases h) (fun _ => rfl)) ?_
          refine KT.step rfl rfl (K.move rfl) ?_
          refine KT.bcase (fun hb35 => ?_) (fun hb35 => ?_)
          · skip
            replace hb35 := of_decide_eq_true hb35
            refine KT.skip rfl rfl ?_
            refine KT.skip rfl rfl ?_
            refine KT.skip rfl rfl ?_
            refine KT.skip rfl rfl ?_
            refine KT.skip rfl rfl ?_
            refine KT.skip rfl rfl ?_
            refine KT.skip rfl rfl ?_
            refine KT.skip rfl rfl ?_
            refine KT.step rfl rfl (K.pick rfl (fun _ => rfl) (fun h => by cases h)) ?_
            refine KT.step rfl rfl (K.move rfl) ?_
            refine KT.skip rfl rfl ?_
            refine KT.skip rfl rfl ?_
            refine KT.skip rfl rfl ?_
            refine KT.skip rfl rfl ?_
            refine KT.step rfl rfl (K.pick rfl (fun _ => rfl) (fun h => by cases h)) ?_
            refine KT.nil ?_
            refine thenK_n ?_
            refine KC.cond rfl (fun hc50 => ?_) (fun hc50 => ?_)
            · skip
              refine KC.seq ?_
              refine KC.region ?_
              refine KT.step rfl rfl (K.assign rfl) ?_
              refine KT.nil ?_
              refine thenK_n ?_
              refine KC.ret ?_
              refine blockK_r ?_
              refine thenK_r ?_
              refine thenK_r ?_
              refine blockK_r ?_
              refine thenK_r ?_
              have hbad : okG c L[p.2] = false := Bool.eq_false_iff.2 fun h => by
                obtain ⟨⟨⟨h1, h2⟩, h3, h4⟩, h5, h6⟩ := okG_iff.1 h
                omega
              exact ⟨.inl rfl, _, rfl, fin_b (okL_bad hil hbad)⟩
            · cases hc50
          · skip
            replace hb35 := of_decide_eq_false hb35
            refine KT.step rfl rfl (K.fieldAddrO rfl Try.fld36_0 Try.size3) ?_
            refine KT.step rfl rfl (K.loadO rfl (List.getElem?_concat_length ..) (by simp) rfl Try.agg3) ?_
            refine KT.step rfl rfl (K.gtr rfl rfl) ?_
            refine KT.step rfl rfl (K.move rfl) ?_
            refine KT.bcase (fun hb39 => ?_) (fun hb39 => ?_)
            · skip
              replace hb39 := of_decide_eq_true hb39
              refine KT.step rfl rfl (K.fieldAddrO rfl Try.fld36_1 Try.size3) ?_
              refine KT.step rfl rfl (K.loadO rfl (List.getElem?_concat_length ..) (by simp) rfl Try.agg3) ?_
              refine KT.step rfl rfl (K.gtr rfl rfl) ?_
              refine KT.step rfl rfl (K.pick rfl (fun _ => rfl) (fun h => by cases h)) ?_
              refine KT.step rfl rfl (K.pick rfl (fun h => by cases h) (fun _ => rfl)) ?_
              refine KT.step rfl rfl (K.move rfl) ?_
              refine KT.bcase (fun hb45 => ?_) (fun hb45 => ?_)
              · skip
                replace hb45 := of_decide_eq_true hb45
                refine KT.skip rfl rfl ?_
                refine KT.skip rfl rfl ?_
                refine KT.skip rfl rfl ?_
                refine KT.skip rfl rfl ?_
                refine KT.step rfl rfl (K.pick rfl (fun _ => rfl) (fun h => by cases h)) ?_
                refine KT.nil ?_
                refine thenK_n ?_
                refine KC.cond rfl (fun hc50 => ?_) (fun hc50 => ?_)
                · skip
                  refine KC.seq ?_
                  refine KC.region ?_
                  refine KT.step rfl rfl (K.assign rfl) ?_
                  refine KT.nil ?_
                  refine thenK_n ?_
                  refine KC.ret ?_
                  refine blockK_r ?_
                  refine thenK_r ?_
                  refine thenK_r ?_
                  refine blockK_r ?_
                  refine thenK_r ?_
                  have hbad : okG c L[p.2] = false := Bool.eq_false_iff.2 fun h => by
                    obtain ⟨⟨⟨h1, h2⟩, h3, h4⟩, h5, h6⟩ := okG_iff.1 h
                    omega
                  exact ⟨.inl rfl, _, rfl, fin_b (okL_bad hil hbad)⟩
                · cases hc50
              · skip
                replace hb45 := of_decide_eq_false hb45
                refine KT.step rfl rfl (K.fieldAddrO rfl Try.fld36_2 Try.size3) ?_
                refine KT.step rfl rfl (K.loadO rfl (List.getElem?_concat_length ..) (by simp) rfl Try.agg3) ?_
                refine KT.step rfl rfl (K.call2 rfl rfl plainTry_76 (bound76 _ _ (by decide))) ?_
                refine KT.step rfl rfl (K.not rfl) ?_
                refine KT.step rfl rfl (K.pick rfl (fun h => by cases h) (fun _ => rfl)) ?_
                refine KT.nil ?_
                refine thenK_n ?_
                refine KC.cond rfl (fun hc50 => ?_) (fun hc50 => ?_)
                · skip
                  refine KC.seq ?_
                  refine KC.region ?_
                  refine KT.step rfl rfl (K.assign rfl) ?_
                  refine KT.nil ?_
                  refine thenK_n ?_
                  refine KC.ret ?_
                  refine blockK_r ?_
                  refine thenK_r ?_
                  refine thenK_r ?_
                  refine blockK_r ?_
                  refine thenK_r ?_
                  have hbad : okG c L[p.2] = false := Bool.eq_false_iff.2 fun h => by
                    obtain ⟨⟨⟨h1, h2⟩, h3, h4⟩, h5, h6⟩ := okG_iff.1 h
                    rw [h5] at hc50; cases hc50
                  exact ⟨.inl rfl, _, rfl, fin_b (okL_bad hil hbad)⟩
                · skip
                  refine KC.skip ?_
                  refine blockK_n ?_
                  refine thenK_n ?_
                  refine KC.region ?_
                  refine KT.step rfl rfl (K.add rfl rfl (wrap_id (by omega))) ?_
                  refine KT.step rfl rfl (K.move rfl) ?_
                  refine KT.nil ?_
                  refine thenK_n ?_
                  refine ⟨(_, p.2 + 1), ⟨get_left y0, by simp only; omega, fun q h hq => ?_⟩, by simp only; omega, rfl, by simp [Go.Vm.look, extK]⟩
                  by_cases e : q = p.2
                  · subst e
                    exact okG_iff.2 ⟨by omega, by simpa using hc50, by omega⟩
                  · exact hall q h (by simp only at hq; omega)
            · skip
              replace hb39 := of_decide_eq_false hb39
              refine KT.skip rfl rfl ?_
              refine KT.skip rfl rfl ?_
              refine KT.skip rfl rfl ?_
              refine KT.step rfl rfl (K.pick rfl (fun h => by cases h) (fun _ => rfl)) ?_
              refine KT.step rfl rfl (K.pick rfl (fun h => by cases h) (fun _ => rfl)) ?_
              refine KT.step rfl rfl (K.move rfl) ?_
              refine KT.step rfl rfl (K.fieldAddrO rfl Try.fld36_2 Try.size3) ?_
              refine KT.step rfl rfl (K.loadO rfl (List.getElem?_concat_length ..) (by simp) rfl Try.agg3) ?_
              refine KT.step rfl rfl (K.call2 rfl rfl plainTry_76 (bound76 _ _ (by decide))) ?_
              refine KT.step rfl rfl (K.not rfl) ?_
              refine KT.step rfl rfl (K.pick rfl (fun h => by cases h) (fun _ => rfl)) ?_
              refine KT.nil ?_
              refine thenK_n ?_
              refine KC.cond rfl (fun hc50 => ?_) (fun hc50 => ?_)
              · skip
                refine KC.seq ?_
                refine KC.region ?_
                refine KT.step rfl rfl (K.assign rfl) ?_
                refine KT.nil ?_
                refine thenK_n ?_
                refine KC.ret ?_
                refine blockK_r ?_
                refine thenK_r ?_
                refine thenK_r ?_
                refine blockK_r ?_
                refine thenK_r ?_
                have hbad : okG c L[p.2] = false := Bool.eq_false_iff.2 fun h => by
                  obtain ⟨⟨⟨h1, h2⟩, h3, h4⟩, h5, h6⟩ := okG_iff.1 h
                  rw [h5] at hc50; cases hc50
                exact ⟨.inl rfl, _, rfl, fin_b (okL_bad hil hbad)⟩
              · skip
                refine KC.skip ?_
                refine blockK_n ?_
                refine thenK_n ?_
                refine KC.region ?_
                refine KT.step rfl rfl (K.add rfl rfl (wrap_id (by omega))) ?_
                refine KT.step rfl rfl (K.move rfl) ?_
                refine KT.nil ?_
                refine thenK_n ?_
                refine ⟨(_, p.2 + 1), ⟨get_left y0, by simp only; omega, fun q h hq => ?_⟩, by simp only; omega, rfl, by simp [Go.Vm.look, extK]⟩
                by_cases e : q = p.2
                · subst e
                  exact okG_iff.2 ⟨by omega, by simpa using hc50, by omega⟩
                · exact hall q h (by simp only at hq; omega)
  · skip
    replace hc10 := of_decide_eq_false hc10
    refine KC.exit ?_
    refine thenK_x ?_
    refine thenK_x ?_
    refine blockK_e ?_
    refine thenK_n ?_
    refine KC.seq ?_
    refine KC.region ?_
    refine KT.step rfl rfl (K.move rfl) ?_
    refine KT.step rfl rfl (K.lenG rfl hd Try.underlying117) ?_
    refine KT.step rfl rfl (K.leq rfl rfl) ?_
    refine KT.step rfl rfl (K.assign rfl) ?_
    refine KT.nil ?_
    refine thenK_n ?_
    refine KC.ret ?_
    refine ⟨.inl rfl, _, rfl, fin_b ?_⟩
    unfold okL
    rw [List.all_eq_true.2 fun g hg => by obtain ⟨q, hq, rfl⟩ := List.getElem_of_mem hg; exact hall q hq (by omega), Bool.and_true]
    exact decide_eq_decide.2 (by omega)
end Go.Proofs.Ytjfpeiioddfjcaa

