import Derived.Test.YtnfnjnaheckdbaaFlS
import Derived.Test.YtnfnjnaheckdbaaFlZc
/-
  The first schedule of the reference.
-/
namespace Go.Proofs.Ytnfnjnaheckdbaa
open Go.Vm Go.Fl
theorem plainTry_49 : plainFn Try.prog 49 = true := by kernel_rfl
theorem plainTry_24 : plainFn Try.prog 24 = true := by kernel_rfl

theorem fz_iX {σ : List VObj} {n k id : Nat} {ids : List Nat} {f : Nat → Int} (h : σ[id]? = some ⟨iX n f, 0⟩) (hi : id ∈ ids) : deepen (freezeIds σ ids) (k + 2) (.osl id 0 n 1 n true) = some (iD n f) := by
  have := deepen_cells (σ := freezeIds σ ids) (id := id) (R := n) (ex := true) (k := k) (cells := iX n f) (ds := (List.range n).map fun k => DI (f k)) (freezeIds_in hi h) rfl (by simp)
  exact this
theorem iD_take {n : Nat} {f : Nat → Int} : (((List.range n).map fun k => DI (f k)).take n).map XV.d = iX n f := by
  rw [List.take_of_length_le (by simp)]; rfl
theorem q_out {N : Nat} {L : List LN} {q X : Nat → Nat} (hr : RepG N L q) (hX : ∀ i, X i ≤ q i) (h : ∀ j, j < N → q j ≤ X j) : eqB X q = true := by
  refine eqB_iff.2 fun i hi => ?_
  by_cases hn : i < N
  · have := h i hn; have := hX i; omega
  · have := hr.rep.out i (by omega); have := hX i; omega
set_option maxHeartbeats 1000000 in
set_option maxRecDepth 10000 in
theorem rest49 {d : DV} {N : Nat} {L : List LN} {q : Nat → Nat} (hd : Lks d (L.map LN.z)) (hr : RepG N L q) :
    DeepCall Try.prog 49 [.agg [DI (N : Nat), d], (iD N fun k => (q k : Int)), (iD N fun _ => (0 : Int))] (.tup [firD (first0 L N q), DB (first0 L N q).isSome]) := by
  have h6 := hr.n6
  have h1 := hr.n1
  have hsum := hr.sum
  refine deepCall_K 5 Try.func49 rfl (Nat.le_of_ble_eq_true rfl) fun M W0 => ?_
  refine KC.seq ?_
  refine KC.region ?_
  refine KT.step rfl rfl (K.box rfl) ?_
  refine KT.step rfl rfl (K.assign rfl) ?_
  refine KT.step rfl rfl (K.assign rfl) ?_
  refine KT.nil ?_
  refine thenK_n ?_
  refine KC.seq ?_
  refine KC.region ?_
  refine KT.step rfl rfl (K.build0 Try.underlying25 Try.one3) ?_
  refine KT.step rfl rfl (K.move rfl) ?_
  refine KT.step rfl rfl (K.appAll rfl rfl rfl (by simp) (by rw [iD_take]; unfold iX; rw [List.all_map, List.all_eq_true]; intro x hx; obtain ⟨_, _, rfl⟩ := List.mem_map.1 hx; rfl) (by omega) (by omega) Try.underlying25 Try.one3) ?_
  rw [iD_take]
  refine KT.step rfl rfl (K.assign rfl) ?_
  refine KT.nil ?_
  refine thenK_n ?_
  refine KC.seq ?_
  refine KC.region ?_
  refine KT.step rfl rfl (K.assign rfl) ?_
  refine KT.nil ?_
  refine thenK_n ?_
  refine KC.seq ?_
  refine KC.block ?_
  refine KC.loop (fun p : List VObj × XV × (Nat → Nat) × List Nat => p.1) (fun p => [(1, .d (iD N fun k => (q k : Int))), (2, .osl 2 0 N 1 N false), (3, .optr 0 0), (8, p.2.1)]) (fun p => p.1[0]? = some ⟨[.d (DI (N : Nat)), .d d], 0⟩ ∧ p.1[2]? = some ⟨iX N fun k => (p.2.2.1 k : Int), 0⟩ ∧ OwnK 1 p.1 p.2.1 (sX p.2.2.2) ∧ (∀ j, idX p.2.1 = some j → 3 ≤ j) ∧ (p.2.2.2 = [] → p.2.1 = .d Dnil) ∧ (∀ i, p.2.2.1 i ≤ q i) ∧ tot p.2.2.1 = p.2.2.2.length ∧ first0 L N q = (greedy L N q (tot q - tot p.2.2.1) p.2.2.1).map (p.2.2.2 ++ ·)) (fun p => tot q - tot p.2.2.1) (_, .d Dnil, (fun _ => 0), []) ⟨rfl, rfl, .nil, fun j hj => (by cases hj), fun _ => rfl, fun i => Nat.zero_le _, rfl, (by show first0 L N q = (greedy L N q (tot q - 0) fun _ => 0).map ([] ++ ·); simp [first0])⟩ rfl (by simp [Go.Vm.look, extK, enterK]) ?_
  intro p hp
  obtain ⟨σ0, x, X, s⟩ := p
  obtain ⟨y0, y2, hown, hid, hnil, hXq, htot, hgr⟩ := hp
  simp only at y0 y2 hown hid hnil hXq htot hgr ⊢
  refine KC.block ?_
  refine KC.seq ?_
  refine KC.region ?_
  refine KT.step rfl rfl (K.assign rfl) ?_
  refine KT.nil ?_
  refine thenK_n ?_
  refine KC.seq ?_
  refine KC.block ?_
  refine KC.loop (fun p : List VObj × Nat => p.1) (fun p => [(1, .d (iD N fun k => (q k : Int))), (2, .osl 2 0 N 1 N false), (3, .optr 0 0), (8, x), (9, .d (DI (p.2 : Nat)))]) (fun p => p.2 ≤ N ∧ (∀ b, b < p.2 → fireB L q X b = false) ∧ p.1[0]? = some ⟨[.d (DI (N : Nat)), .d d], 0⟩ ∧ p.1[2]? = some ⟨iX N fun k => (X k : Int), 0⟩ ∧ OwnK 1 p.1 x (sX s)) (fun p => N - p.2) (_, 0) ⟨Nat.zero_le _, fun b hb => absurd hb (Nat.not_lt_zero _), y0, y2, hown⟩ rfl (by simp [Go.Vm.look, extK]) ?_
  clear y0 y2 hown
  intro p hp
  obtain ⟨σ1, a⟩ := p
  obtain ⟨haN', hno, y0, y2, hown⟩ := hp
  simp only at haN' hno y0 y2 hown ⊢
  refine KC.seq ?_
  refine KC.seq ?_
  refine KC.draw Try.mixed ?_
  refine KT.step rfl rfl (K.move rfl) ?_
  refine KT.step rfl rfl (K.fieldAddrO rfl Try.fld24_0 Try.size3) ?_
  refine KT.step rfl rfl (K.loadO (y := .d (DI (N : Nat))) rfl y0 (by simp) rfl Try.agg3) ?_
  refine KT.step rfl rfl (K.lss rfl rfl) ?_
  refine KT.step rfl rfl (K.move rfl) ?_
  refine KT.bcase (fun hb19 => ?_) (fun hb19 => ?_)
  · skip
    replace hb19 := of_decide_eq_true hb19
    have haN : a < N := by omega
    refine KT.step rfl rfl (K.move rfl) ?_
    refine KT.step rfl rfl (K.move rfl) ?_
    refine KT.step rfl rfl (K.idxO (m := a) rfl rfl haN Try.underlying25 Try.size3) ?_
    refine KT.step rfl rfl (K.loadO rfl y2 (by simp) (iX_get _ haN) Try.agg3) ?_
    refine KT.step rfl rfl (K.move rfl) ?_
    refine KT.step rfl rfl (K.move rfl) ?_
    refine KT.step rfl rfl (K.idxDK (m := a) rfl rfl haN Try.underlying25 Try.size3) ?_
    refine KT.step rfl rfl (K.loadSeq haN rfl Try.agg3) ?_
    refine KT.step rfl rfl (K.geq rfl rfl) ?_
    refine KT.step rfl rfl (K.move rfl) ?_
    refine KT.bcase (fun hb29 => ?_) (fun hb29 => ?_)
    · skip
      replace hb29 := of_decide_eq_true hb29
      replace hb29 : (q a : Int) ≤ (X a : Int) := hb29
      refine KT.skip rfl rfl ?_
      refine KT.skip rfl rfl ?_
      refine KT.skip rfl rfl ?_
      refine KT.skip rfl rfl ?_
      refine KT.skip rfl rfl ?_
      refine KT.step rfl rfl (K.pick rfl (fun _ => rfl) (fun h => by cases h)) ?_
      refine KT.step rfl rfl (K.pick rfl (fun _ => rfl) (fun h => by cases h)) ?_
      refine KT.nil ?_
      refine ⟨by kernel_rfl, ?_⟩
      refine thenK_n ?_
      refine KC.cond rfl (fun hc36 => ?_) (fun hc36 => ?_)
      · skip
        refine KC.skip ?_
        refine thenK_n ?_
        refine KC.block ?_
        refine KC.region ?_
        refine KT.step rfl rfl (K.move rfl) ?_
        refine KT.step rfl rfl (K.add rfl rfl (wrap_id (by omega))) ?_
        refine KT.step rfl rfl (K.assign rfl) ?_
        refine KT.nil ?_
        refine blockK_n ?_
        refine thenK_n ?_
        have hnf : fireB L q X a = false := by
          rw [← Bool.not_eq_true]
          intro h
          have := fireB_iff.1 h
          omega
        refine ⟨(_, a + 1), ⟨by simp only; omega, fun b hb => ?_, y0, y2, hown⟩, by simp only; omega, rfl, by simp [Go.Vm.look, extK]⟩
        rcases Nat.lt_succ_iff_lt_or_eq.1 hb with h | rfl
        · exact hno b h
        · exact hnf
      · cases hc36
    · skip
      replace hb29 := of_decide_eq_false hb29
      replace hb29 : ¬ (q a : Int) ≤ (X a : Int) := hb29
      refine KT.step rfl rfl (K.loadOA [DI (N : Nat), d] rfl y0 (by decide) Try.agg24 Try.size24 rfl) ?_
      refine KT.step rfl rfl (K.move rfl) ?_
      refine KT.step rfl rfl (K.move rfl) ?_
      have hcan := can37 (n := (N : Int)) (a := a) (ex := false) hd hr.len hr.ok (fun j => Nat.le_trans (hXq j) (hr.le j)) y2
      refine KT.step rfl rfl (K.callG rfl plainTry_37 hcan) ?_
      generalize hτ : (⟨[.d (DI (N : Nat)), .d d], 0⟩ :: canObj X a L : List VObj) = τ
      replace y0 := get_left (B := τ) y0
      replace y2 := get_left (B := τ) y2
      replace hown := hown.keep (σ' := σ1 ++ τ) fun j hj => List.getElem?_append_left (hown.lt hj)
      refine KT.step rfl rfl (K.not rfl) ?_
      refine KT.step rfl rfl (K.pick rfl (fun h => by cases h) (fun _ => rfl)) ?_
      refine KT.step rfl rfl (K.pick rfl (fun _ => rfl) (fun h => by cases h)) ?_
      refine KT.nil ?_
      refine ⟨by kernel_rfl, ?_⟩
      refine thenK_n ?_
      refine KC.cond rfl (fun hc36 => ?_) (fun hc36 => ?_)
      · skip
        refine KC.skip ?_
        refine thenK_n ?_
        refine KC.block ?_
        refine KC.region ?_
        refine KT.step rfl rfl (K.move rfl) ?_
        refine KT.step rfl rfl (K.add rfl rfl (wrap_id (by omega))) ?_
        refine KT.step rfl rfl (K.assign rfl) ?_
        refine KT.nil ?_
        refine blockK_n ?_
        refine thenK_n ?_
        have hnf : fireB L q X a = false := by
          rw [← Bool.not_eq_true]
          intro h
          have := fireB_iff.1 h
          rw [this.2] at hc36; cases hc36
        refine ⟨(_, a + 1), ⟨by simp only; omega, fun b hb => ?_, y0, y2, hown⟩, by simp only; omega, rfl, by simp [Go.Vm.look, extK]⟩
        rcases Nat.lt_succ_iff_lt_or_eq.1 hb with h | rfl
        · exact hno b h
        · exact hnf
      · skip
        refine KC.exit ?_
        refine thenK_x ?_
        refine thenK_x ?_
        refine blockK_e ?_
        refine thenK_n ?_
        refine KC.seq ?_
        refine KC.seq ?_
        have hfire : fireB L q X a = true := fireB_iff.2 ⟨by omega, by simpa using hc36⟩
        refine KC.region ?_
        refine KT.step rfl rfl (K.move rfl) ?_
        refine KT.step rfl rfl (K.fieldAddrO rfl Try.fld24_0 Try.size3) ?_
        refine KT.step rfl rfl (K.loadO (y := .d (DI (N : Nat))) rfl y0 (by simp) rfl Try.agg3) ?_
        refine KT.step rfl rfl (K.eql rfl rfl) ?_
        refine KT.nil ?_
        refine thenK_n ?_
        refine KC.cond rfl (fun hc42 => ?_) (fun hc42 => ?_)
        · skip
          exact absurd (of_decide_eq_true hc42) (by omega)
        · skip
          replace hc42 := of_decide_eq_false hc42
          refine KC.skip ?_
          refine thenK_n ?_
          refine KC.seq ?_
          refine KC.region ?_
          refine KT.step rfl rfl (K.move rfl) ?_
          refine KT.step rfl rfl (K.move rfl) ?_
          refine KT.step rfl rfl (K.idxO (m := a) rfl rfl haN Try.underlying25 Try.size3) ?_
          refine KT.step rfl rfl (K.loadO rfl y2 (by simp) (iX_get _ haN) Try.agg3) ?_
          refine KT.step rfl rfl (K.add rfl rfl (oneN (by have := hXq a; have := hr.le a; omega))) ?_
          refine KT.step rfl rfl (K.idxO (m := a) rfl rfl haN Try.underlying25 Try.size3) ?_
          refine KT.storeG rfl rfl rfl rfl y2 (by rw [iX_len]; omega) rfl rfl Try.size3 fun σ2 l2 u2 v2 => ?_
          replace y0 := (v2 0 (by decide)).trans y0
          rw [iX_bump X haN] at u2
          replace y2 := u2
          refine KT.nil ?_
          refine thenK_n ?_
          refine KC.region ?_
          refine KT.step rfl rfl (K.move rfl) ?_
          refine KT.step rfl rfl (K.move rfl) ?_
          refine KT.step rfl rfl (K.build1' (v := .d (DI (a : Nat))) rfl rfl Try.underlying25 Try.one3) ?_
          have he : eqB X q = false := by
            rw [← Bool.not_eq_true]
            intro h
            have := eqB_iff.1 h a (by omega)
            have := (fireB_iff.1 hfire).1
            omega
          have hs60 : s.length < 60 := by have := eqB_tot hXq he; omega
          have hown2 := (hown.keep (σ' := σ2) fun j hj => v2 j (by have := hid j hj; omega)).pushed (⟨[.d (DI (a : Nat))], 0⟩ : VObj)
          refine KT.appK (k := 1) rfl rfl rfl rfl hown2 (List.getElem?_concat_length ..) rfl rfl (by simp; omega) Try.underlying25 Try.size3 (of_decide_eq_true (by kernel_rfl)) (by kernel_rfl) (by omega) fun σ3 x3 ho3 k3 w3 => ?_
          have g0 := (List.getElem?_eq_some_iff.1 y0).1
          have g2 := (List.getElem?_eq_some_iff.1 y2).1
          refine KT.step rfl rfl (K.assign rfl) ?_
          refine KT.nil ?_
          refine blockK_n ?_
          refine thenK_n ?_
          have e1 := nxt_of hno haN hfire
          obtain ⟨m, hm⟩ : ∃ m, tot q - tot X = m + 1 := ⟨tot q - tot X - 1, by have := eqB_tot hXq he; omega⟩
          rw [hm, greedy_next he e1] at hgr
          have hf := fireB_iff.1 hfire
          have e2 := tot_bump (X := X) (a := a) (by omega)
          have z0 := (k3 0 (fun h => by have := hid 0 h; omega) (by simp only [List.length_append, List.length_cons, List.length_nil]; omega)).trans (get_left y0)
          have z2 := (k3 2 (fun h => by have := hid 2 h; omega) (by simp only [List.length_append, List.length_cons, List.length_nil]; omega)).trans (get_left y2)
          refine ⟨(σ3, x3, bump X a, s ++ [a]), ⟨z0, z2, by simpa [sX, zs] using ho3, fun j hj => ?_, fun h => by simp at h, fun i => ?_, by simp only [List.length_append, List.length_cons, List.length_nil]; omega, ?_⟩, by simp only; omega, rfl, by simp [Go.Vm.look, extK]⟩
          · obtain ⟨j', h1, h2⟩ := w3
            simp only at hj
            rw [h1] at hj; cases hj
            simp at h2; omega
          · simp only [bump]
            split
            · rename_i e; subst e; omega
            · exact hXq i
          · simp only
            rw [hgr, show tot q - tot (bump X a) = m by omega, Option.map_map]
            congr 1
            funext r
            simp
  · skip
    replace hb19 := of_decide_eq_false hb19
    refine KT.skip rfl rfl ?_
    refine KT.skip rfl rfl ?_
    refine KT.skip rfl rfl ?_
    refine KT.skip rfl rfl ?_
    refine KT.skip rfl rfl ?_
    refine KT.skip rfl rfl ?_
    refine KT.skip rfl rfl ?_
    refine KT.skip rfl rfl ?_
    refine KT.skip rfl rfl ?_
    refine KT.skip rfl rfl ?_
    refine KT.skip rfl rfl ?_
    refine KT.skip rfl rfl ?_
    refine KT.skip rfl rfl ?_
    refine KT.skip rfl rfl ?_
    refine KT.skip rfl rfl ?_
    refine KT.skip rfl rfl ?_
    refine KT.step rfl rfl (K.pick rfl (fun h => by cases h) (fun _ => rfl)) ?_
    refine KT.nil ?_
    refine ⟨by kernel_rfl, ?_⟩
    refine thenK_n ?_
    refine KC.cond rfl (fun hc36 => ?_) (fun hc36 => ?_)
    · cases hc36
    · skip
      refine KC.exit ?_
      refine thenK_x ?_
      refine thenK_x ?_
      refine blockK_e ?_
      refine thenK_n ?_
      refine KC.seq ?_
      refine KC.seq ?_
      refine KC.region ?_
      refine KT.step rfl rfl (K.move rfl) ?_
      refine KT.step rfl rfl (K.fieldAddrO rfl Try.fld24_0 Try.size3) ?_
      refine KT.step rfl rfl (K.loadO (y := .d (DI (N : Nat))) rfl y0 (by simp) rfl Try.agg3) ?_
      refine KT.step rfl rfl (K.eql rfl rfl) ?_
      refine KT.nil ?_
      refine thenK_n ?_
      refine KC.cond rfl (fun hc42 => ?_) (fun hc42 => ?_)
      · skip
        replace hc42 := of_decide_eq_true hc42
        refine KC.exit ?_
        refine thenK_x ?_
        refine blockK_x (by decide) ?_
        refine thenK_x ?_
        refine blockK_e ?_
        refine thenK_n ?_
        refine KC.seq ?_
        refine KC.seq ?_
        refine KC.region ?_
        refine KT.step rfl rfl (K.move rfl) ?_
        refine KT.step rfl rfl (K.len rfl (iD_ints N _) Try.underlying25) ?_
        rw [show ((List.range N).map fun k => (q k : Int)).length = N by simp]
        refine KT.step rfl rfl (K.move rfl) ?_
        refine KT.nil ?_
        refine thenK_n ?_
        refine KC.block ?_
        obtain rfl : N = a := by omega
        refine KC.loop (fun _ : Nat => σ1) (fun j => [(1, .d (iD N fun k => (q k : Int))), (2, .osl 2 0 N 1 N false), (3, .optr 0 0), (8, x), (53, .d (iD N fun k => (q k : Int))), (54, .d (DI (N : Nat))), (55, .d (DI (j : Nat)))]) (fun j => j ≤ N ∧ ∀ i, i < j → q i ≤ X i) (fun j => N - j) 0 ⟨Nat.zero_le _, fun i hi => absurd hi (Nat.not_lt_zero _)⟩ rfl (by simp [Go.Vm.look, extK]) ?_
        intro j hj
        obtain ⟨hj, hge⟩ := hj
        refine KC.seq ?_
        refine KC.region ?_
        refine KT.step rfl rfl (K.lss rfl rfl) ?_
        refine KT.nil ?_
        refine thenK_n ?_
        refine KC.seq ?_
        refine KC.cond rfl (fun hc56 => ?_) (fun hc56 => ?_)
        · skip
          replace hc56 := of_decide_eq_true hc56
          have hjN : j < N := by omega
          refine KC.skip ?_
          refine thenK_n ?_
          refine KC.seq ?_
          refine KC.block ?_
          refine KC.seq ?_
          refine KC.region ?_
          refine KT.step rfl rfl (K.move rfl) ?_
          refine KT.step rfl rfl (K.idxDK (m := j) rfl rfl hjN Try.underlying25 Try.size3) ?_
          refine KT.step rfl rfl (K.loadSeq hjN rfl Try.agg3) ?_
          refine KT.step rfl rfl (K.assign rfl) ?_
          refine KT.step rfl rfl (K.assign rfl) ?_
          refine KT.nil ?_
          refine thenK_n ?_
          refine KC.seq ?_
          refine KC.region ?_
          refine KT.step rfl rfl (K.move rfl) ?_
          refine KT.step rfl rfl (K.move rfl) ?_
          refine KT.step rfl rfl (K.idxO (m := j) rfl rfl hjN Try.underlying25 Try.size3) ?_
          refine KT.step rfl rfl (K.loadO rfl y2 (by simp) (iX_get _ hjN) Try.agg3) ?_
          refine KT.step rfl rfl (K.move rfl) ?_
          refine KT.step rfl rfl (K.lss rfl rfl) ?_
          refine KT.nil ?_
          refine thenK_n ?_
          refine KC.cond rfl (fun hc65 => ?_) (fun hc65 => ?_)
          · skip
            replace hc65 := of_decide_eq_true hc65
            replace hc65 : (X j : Int) < (q j : Int) := hc65
            refine KC.seq ?_
            refine KC.region ?_
            refine KT.step rfl rfl (K.assign rfl) ?_
            refine KT.step rfl rfl (K.assign rfl) ?_
            refine KT.nil ?_
            refine thenK_n ?_
            refine KC.ret ?_
            refine blockK_r ?_
            refine thenK_r ?_
            refine thenK_r ?_
            refine blockK_r ?_
            refine thenK_r ?_
            have he : eqB X q = false := by
              rw [← Bool.not_eq_true]
              intro h
              have := eqB_iff.1 h j (by omega)
              omega
            obtain ⟨m, hm⟩ : ∃ m, tot q - tot X = m + 1 := ⟨tot q - tot X - 1, by have := eqB_tot hXq he; omega⟩
            rw [hm, greedy_stop he (nxt_no hno)] at hgr
            have hgr2 : first0 L N q = none := by rw [hgr]; rfl
            rw [hgr2]
            exact ⟨.inl rfl, _, rfl, rfl⟩
          · skip
            replace hc65 := of_decide_eq_false hc65
            replace hc65 : ¬ (X j : Int) < (q j : Int) := hc65
            refine KC.skip ?_
            refine blockK_n ?_
            refine thenK_n ?_
            refine KC.region ?_
            refine KT.step rfl rfl (K.add rfl rfl (wrap_id (by omega))) ?_
            refine KT.step rfl rfl (K.move rfl) ?_
            refine KT.nil ?_
            refine thenK_n ?_
            refine ⟨j + 1, ⟨by omega, fun i hi => ?_⟩, by omega, rfl, by simp [Go.Vm.look, extK]⟩
            rcases Nat.lt_succ_iff_lt_or_eq.1 hi with h | rfl
            · exact hge i h
            · omega
        · skip
          replace hc56 := of_decide_eq_false hc56
          refine KC.exit ?_
          refine thenK_x ?_
          refine thenK_x ?_
          refine blockK_e ?_
          refine thenK_n ?_
          refine KC.seq ?_
          refine KC.region ?_
          refine KT.step rfl rfl (K.move rfl) ?_
          refine KT.step rfl rfl (K.assign rfl) ?_
          refine KT.step rfl rfl (K.assign rfl) ?_
          refine KT.nil ?_
          refine thenK_n ?_
          refine KC.ret ?_
          have he : eqB X q = true := q_out hr hXq (fun i hi => hge i (by omega))
          rw [greedy_end he] at hgr
          have hgr2 : first0 L N q = some s := by rw [hgr]; simp
          rw [hgr2]
          exact ⟨.inl rfl, _, rfl, deepen_tup2 (fin_own (ownK_own hown) fun h => hnil (by cases s with | nil => rfl | cons _ _ => simp at h))⟩
      · skip
        exact absurd (of_decide_eq_false hc42) (by omega)
end Go.Proofs.Ytnfnjnaheckdbaa

