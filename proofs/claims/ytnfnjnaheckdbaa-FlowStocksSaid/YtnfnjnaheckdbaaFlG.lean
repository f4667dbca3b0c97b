import Derived.Test.YtnfnjnaheckdbaaFlF
/-
  Dataflow graphs: the first schedule of the program.
-/
namespace Go.Proofs.Ytnfnjnaheckdbaa
open Go.Vm Go.Fl

theorem wX_bumpN (X : Nat → Nat) {i : Nat} (hi : i < 6) : (wX X).set (0 + i * 1) (.d (DI ((X i + 1 : Nat) : Int))) = wX (bump X i) := by
  rw [show (((X i + 1 : Nat) : Int)) = (X i : Int) + 1 by omega]; exact wX_bump X hi
theorem nxt_of {L : List LN} {N : Nat} {q X : Nat → Nat} {a : Nat} (h : ∀ b, b < a → fireB L q X b = false) (ha : a < N) (hf : fireB L q X a = true) : nxt L N q X = some a := by
  unfold nxt
  rw [List.find?_eq_some_iff_getElem]
  refine ⟨hf, a, by simpa using ha, by simp, fun j hj => ?_⟩
  simp [h j hj]
theorem nxt_no {L : List LN} {N : Nat} {q X : Nat → Nat} (h : ∀ b, b < N → fireB L q X b = false) : nxt L N q X = none := by
  unfold nxt
  rw [List.find?_eq_none]
  intro b hb
  simp at hb
  simp [h b hb]
theorem greedy_end {L : List LN} {N : Nat} {q X : Nat → Nat} (h : eqB X q = true) : ∀ n, greedy L N q n X = some []
  | 0 => by simp [greedy, h]
  | n + 1 => by simp [greedy, h]
theorem greedy_next {L : List LN} {N : Nat} {q X : Nat → Nat} {a n : Nat} (h : eqB X q = false) (hn : nxt L N q X = some a) : greedy L N q (n + 1) X = (greedy L N q n (bump X a)).map (a :: ·) := by
  simp [greedy, h, hn]
theorem greedy_stop {L : List LN} {N : Nat} {q X : Nat → Nat} {n : Nat} (h : eqB X q = false) (hn : nxt L N q X = none) : greedy L N q (n + 1) X = none := by
  simp [greedy, h, hn]
theorem eqB_tot {X q : Nat → Nat} (hX : ∀ i, X i ≤ q i) (h : eqB X q = false) : tot X < tot q := by
  rcases Nat.lt_or_ge (tot X) (tot q) with h1 | h1
  · exact h1
  · have := eqB_iff.2 (tot_eq (fun i _ => hX i) h1)
    rw [h] at this; cases this
abbrev first0 (L : List LN) (N : Nat) (q : Nat → Nat) : Option (List Nat) := greedy L N q (tot q) fun _ => 0
def firD : Option (List Nat) → DV
  | some s => lsD (zs s)
  | none => Dnil
abbrev sX (s : List Nat) : List XV := ((zs s).map DI).map .d
set_option maxRecDepth 10000 in
theorem fires78 {d : DV} {N : Nat} {L : List LN} {q X : Nat → Nat} {a : Nat} (hd : Lks d (L.map LN.z)) (hr : RepG N L q) (hX : ∀ i, X i ≤ 60) (ha : a < N) :
    DeepCall Try.prog 78 [.agg [DI (N : Nat), d], DI (a : Nat), .agg (wN X), .agg (wN q)] (DB (fireB L q X a)) := by
  have h6 := hr.n6
  have hl := hr.len
  have ha6 : a < 6 := by omega
  refine deepCall_K 5 Try.func78 rfl (Nat.le_of_ble_eq_true rfl) fun M W0 => ?_
  refine KC.seq ?_
  refine KC.region ?_
  refine KT.step rfl rfl (K.box rfl) ?_
  refine KT.step rfl rfl (K.box rfl) ?_
  refine KT.step rfl rfl (K.box rfl) ?_
  refine KT.step rfl rfl (K.assign rfl) ?_
  refine KT.nil ?_
  refine thenK_n ?_
  refine KC.seq ?_
  refine KC.seq ?_
  refine KC.draw Try.mixed ?_
  refine KT.step rfl rfl (K.move rfl) ?_
  refine KT.step rfl rfl (K.idxA rfl rfl ha6 Try.underlying75 Try.size3) ?_
  refine KT.step rfl rfl (K.loadO rfl rfl (by simp) (wX_get X ha6) Try.agg3) ?_
  refine KT.step rfl rfl (K.move rfl) ?_
  refine KT.step rfl rfl (K.idxA rfl rfl ha6 Try.underlying75 Try.size3) ?_
  refine KT.step rfl rfl (K.loadO rfl rfl (by simp) (wX_get q ha6) Try.agg3) ?_
  refine KT.step rfl rfl (K.geq rfl rfl) ?_
  refine KT.nil ?_
  refine ⟨by kernel_rfl, ?_⟩
  refine thenK_n ?_
  refine KC.cond rfl (fun hc17 => ?_) (fun hc17 => ?_)
  · skip
    replace hc17 := of_decide_eq_true hc17
    refine KC.seq ?_
    refine KC.region ?_
    refine KT.step rfl rfl (K.assign rfl) ?_
    refine KT.nil ?_
    refine thenK_n ?_
    refine KC.ret ?_
    refine thenK_r ?_
    exact ⟨.inl rfl, _, rfl, fin_b (by unfold fireB; rw [decide_eq_false (by omega)]; rfl)⟩
  · skip
    replace hc17 := of_decide_eq_false hc17
    refine KC.skip ?_
    refine thenK_n ?_
    refine KC.seq ?_
    refine KC.seq ?_
    refine KC.region ?_
    refine KT.step rfl rfl (K.fieldAddrO rfl Try.fld31_1 Try.size29) ?_
    refine KT.step rfl rfl (K.loadO rfl rfl (by simp) rfl Try.agg29) ?_
    refine KT.step rfl rfl (K.lenN rfl hd Try.underlying29) ?_
    refine KT.step rfl rfl (K.move rfl) ?_
    refine KT.nil ?_
    refine thenK_n ?_
    refine KC.block ?_
    refine KC.loop (fun p : List VObj × Nat => p.1) (fun p => [(1, .d (DI (a : Nat))), (6, .optr 1 0), (19, .d d), (20, .d (DI (L.length : Nat))), (21, .d (DI (p.2 : Nat)))]) (fun p => p.2 ≤ L.length ∧ (L.take p.2).all (fun l => !waitB X a l) = true ∧ p.1[1]? = some ⟨wX X, 0⟩) (fun p => L.length - p.2) (_, 0) ⟨Nat.zero_le _, by simp, rfl⟩ rfl (by simp [Go.Vm.look, extK, enterK]) ?_
    intro p hp
    obtain ⟨σ0, i⟩ := p
    obtain ⟨hi, hall, y1⟩ := hp
    simp only at hi hall y1 ⊢
    have g1 := (List.getElem?_eq_some_iff.1 y1).1
    refine KC.seq ?_
    refine KC.region ?_
    refine KT.step rfl rfl (K.lss rfl rfl) ?_
    refine KT.nil ?_
    refine thenK_n ?_
    refine KC.seq ?_
    refine KC.cond rfl (fun hc22 => ?_) (fun hc22 => ?_)
    · skip
      replace hc22 := of_decide_eq_true hc22
      have hil : i < L.length := by omega
      have ok := hr.ok _ (List.getElem_mem hil)
      refine KC.skip ?_
      refine thenK_n ?_
      refine KC.seq ?_
      refine KC.block ?_
      refine KC.seq ?_
      refine KC.region ?_
      refine KT.step rfl rfl (K.idxN rfl hd rfl hil Try.underlying29 Try.size62) ?_
      refine KT.step rfl rfl (K.loadN hil rfl Try.agg62 Try.size62) ?_
      refine KT.step rfl rfl (K.alloc Try.zero62) ?_
      refine KT.storeH (cs := (lk5 L[i].z).map XV.d) rfl rfl rfl rfl (List.getElem?_concat_length ..) rfl (Nat.le_refl _) rfl Try.size62 fun σ1 l1 u1 v1 => ?_
      try simp only [List.length_append, List.length_cons, List.length_nil] at l1
      replace u1 := u1.trans (congrArg (fun c => some (VObj.mk c 0)) (splice_all (by rfl)))
      have y1 := (v1 (1) (by omega)).trans ((List.getElem?_append_left (by omega)).trans y1)
      have x1 := u1
      refine KT.nil ?_
      refine thenK_n ?_
      refine KC.seq ?_
      refine KC.draw Try.mixed ?_
      refine KT.step rfl rfl (K.fieldAddrO rfl Try.fld62_1 Try.size3) ?_
      refine KT.step rfl rfl (K.loadO rfl x1 (by simp) rfl Try.agg3) ?_
      refine KT.step rfl rfl (K.move rfl) ?_
      refine KT.step rfl rfl (K.eql rfl rfl) ?_
      refine KT.step rfl rfl (K.move rfl) ?_
      refine KT.bcase (fun hb29 => ?_) (fun hb29 => ?_)
      · skip
        replace hb29 := of_decide_eq_true hb29
        replace hb29 : (L[i].t : Int) = (a : Int) := hb29
        refine KT.step rfl rfl (K.loadOA (lk5 L[i].z) rfl x1 (by decide) Try.agg62 Try.size62 rfl) ?_
        refine KT.step rfl rfl (K.loadOA (wN X) rfl y1 (by decide) Try.agg75 Try.size75 rfl) ?_
        refine KT.step rfl rfl (K.call2 rfl rfl plainTry_79 (loads79 h6 ok hX)) ?_
        refine KT.step rfl rfl (K.fieldAddrO rfl Try.fld62_3 Try.size3) ?_
        refine KT.step rfl rfl (K.loadO rfl x1 (by simp) rfl Try.agg3) ?_
        refine KT.step rfl rfl (K.lss rfl rfl) ?_
        refine KT.step rfl rfl (K.pick rfl (fun _ => rfl) (fun h => by cases h)) ?_
        refine KT.nil ?_
        refine ⟨by kernel_rfl, ?_⟩
        refine thenK_n ?_
        refine KC.cond rfl (fun hc36 => ?_) (fun hc36 => ?_)
        · skip
          replace hc36 := of_decide_eq_true hc36
          replace hc36 : loadZ L[i] X < (L[i].k : Int) := hc36
          refine KC.seq ?_
          refine KC.region ?_
          refine KT.step rfl rfl (K.assign rfl) ?_
          refine KT.nil ?_
          refine thenK_n ?_
          refine KC.ret ?_
          refine blockK_r ?_
          refine thenK_r ?_
          refine thenK_r ?_
          refine blockK_r ?_
          refine thenK_r ?_
          refine ⟨.inl rfl, _, rfl, fin_b ?_⟩
          have hc : canB L X a = false := all_false hil (by unfold waitB; rw [decide_eq_true (show L[i].t = a by omega), decide_eq_true hc36]; rfl)
          unfold fireB; rw [hc, Bool.and_false]
        · skip
          replace hc36 := of_decide_eq_false hc36
          replace hc36 : ¬ loadZ L[i] X < (L[i].k : Int) := hc36
          refine KC.skip ?_
          refine blockK_n ?_
          refine thenK_n ?_
          refine KC.region ?_
          refine KT.step rfl rfl (K.add rfl rfl (wrap_id (by omega))) ?_
          refine KT.step rfl rfl (K.move rfl) ?_
          refine KT.nil ?_
          refine thenK_n ?_
          refine ⟨(σ1, i + 1), ⟨by simp only; omega, ?_, y1⟩, by simp only; omega, rfl, by simp [Go.Vm.look, extK]⟩
          rw [all_take _ hil, hall, Bool.true_and]
          unfold waitB
          rw [decide_eq_false hc36, Bool.and_false]; rfl
      · skip
        replace hb29 := of_decide_eq_false hb29
        replace hb29 : ¬ (L[i].t : Int) = (a : Int) := hb29
        refine KT.skip rfl rfl ?_
        refine KT.skip rfl rfl ?_
        refine KT.skip rfl rfl ?_
        refine KT.skip rfl rfl ?_
        refine KT.skip rfl rfl ?_
        refine KT.skip rfl rfl ?_
        refine KT.step rfl rfl (K.pick rfl (fun h => by cases h) (fun _ => rfl)) ?_
        refine KT.nil ?_
        refine ⟨by kernel_rfl, ?_⟩
        refine thenK_n ?_
        refine KC.cond rfl (fun hc36 => ?_) (fun hc36 => ?_)
        · cases hc36
        · skip
          refine KC.skip ?_
          refine blockK_n ?_
          refine thenK_n ?_
          refine KC.region ?_
          refine KT.step rfl rfl (K.add rfl rfl (wrap_id (by omega))) ?_
          refine KT.step rfl rfl (K.move rfl) ?_
          refine KT.nil ?_
          refine thenK_n ?_
          refine ⟨(σ1, i + 1), ⟨by simp only; omega, ?_, y1⟩, by simp only; omega, rfl, by simp [Go.Vm.look, extK]⟩
          rw [all_take _ hil, hall, Bool.true_and]
          unfold waitB
          rw [decide_eq_false (by omega)]; rfl
    · skip
      replace hc22 := of_decide_eq_false hc22
      refine KC.exit ?_
      refine thenK_x ?_
      refine thenK_x ?_
      refine blockK_e ?_
      refine thenK_n ?_
      refine KC.seq ?_
      refine KC.region ?_
      refine KT.step rfl rfl (K.assign rfl) ?_
      refine KT.nil ?_
      refine thenK_n ?_
      refine KC.ret ?_
      refine ⟨.inl rfl, _, rfl, fin_b ?_⟩
      have hc : canB L X a = true := all_end (by omega) hall
      unfold fireB; rw [hc, decide_eq_true (by omega)]; rfl
set_option maxRecDepth 10000 in
theorem first77 {d : DV} {N : Nat} {L : List LN} {q : Nat → Nat} (hd : Lks d (L.map LN.z)) (hr : RepG N L q) :
    DeepCall Try.prog 77 [.agg [DI (N : Nat), d], .agg (wN q)] (.tup [firD (first0 L N q), DB (first0 L N q).isSome]) := by
  have h6 := hr.n6
  have hsum := hr.sum
  refine deepCall_K 5 Try.func77 rfl (Nat.le_of_ble_eq_true rfl) fun M W0 => ?_
  refine KC.seq ?_
  refine KC.region ?_
  refine KT.step rfl rfl (K.box rfl) ?_
  refine KT.step rfl rfl (K.box rfl) ?_
  refine KT.step rfl rfl (K.assign rfl) ?_
  refine KT.step rfl rfl (K.assign rfl) ?_
  refine KT.nil ?_
  refine thenK_n ?_
  refine KC.scope ?_
  refine KC.seq ?_
  refine KC.region ?_
  refine KT.step rfl rfl (K.assign rfl) ?_
  refine KT.nil ?_
  refine thenK_n ?_
  refine KC.seq ?_
  refine KC.region ?_
  refine KT.step rfl rfl (K.alloc Try.zero75) ?_
  refine KT.nil ?_
  refine thenK_n ?_
  refine KC.seq ?_
  refine KC.label ?_
  refine thenK_n ?_
  refine KC.seq ?_
  refine KC.block ?_
  refine KC.loop (fun p : List VObj × XV × (Nat → Nat) × List Nat => p.1) (fun p => [(2, .optr 0 0), (3, .optr 1 0), (7, .optr 2 0), (6, p.2.1)]) (fun p : List VObj × XV × (Nat → Nat) × List Nat => p.1[0]? = some ⟨[.d (DI (N : Nat)), .d d], 0⟩ ∧ p.1[1]? = some ⟨wX q, 0⟩ ∧ p.1[2]? = some ⟨wX p.2.2.1, 0⟩ ∧ OwnK 1 p.1 p.2.1 (sX p.2.2.2) ∧ (∀ j, idX p.2.1 = some j → 3 ≤ j) ∧ (p.2.2.2 = [] → p.2.1 = .d Dnil) ∧ (∀ i, p.2.2.1 i ≤ q i) ∧ tot p.2.2.1 = p.2.2.2.length ∧ first0 L N q = (greedy L N q (tot q - tot p.2.2.1) p.2.2.1).map (p.2.2.2 ++ ·)) (fun p => tot q - tot p.2.2.1) (_, .d Dnil, (fun _ => 0), []) ⟨rfl, rfl, rfl, .nil, fun j hj => (by cases hj), fun _ => rfl, fun i => Nat.zero_le _, rfl, (by show first0 L N q = (greedy L N q (tot q - 0) fun _ => 0).map ([] ++ ·); simp [first0])⟩ rfl (by simp [Go.Vm.look, extK, enterK]) ?_
  intro p hp
  obtain ⟨σ0, x, X, s⟩ := p
  obtain ⟨y0, y1, y2, hown, hid, hnil, hXq, htot, hgr⟩ := hp
  simp only at y0 y1 y2 hown hid hnil hXq htot hgr ⊢
  have g2 := (List.getElem?_eq_some_iff.1 y2).1
  refine KC.seq ?_
  refine KC.seq ?_
  refine KC.region ?_
  refine KT.step rfl rfl (K.loadOA (wN X) rfl y2 (by decide) Try.agg75 Try.size75 rfl) ?_
  refine KT.step rfl rfl (K.loadOA (wN q) rfl y1 (by decide) Try.agg75 Try.size75 rfl) ?_
  refine KT.step rfl rfl (K.cntNe rfl rfl) ?_
  refine KT.nil ?_
  refine thenK_n ?_
  refine KC.cond rfl (fun hc11 => ?_) (fun hc11 => ?_)
  · skip
    have he : eqB X q = false := by simpa using hc11
    have hs60 : s.length < 60 := by have := eqB_tot hXq he; omega
    refine KC.skip ?_
    refine thenK_n ?_
    refine KC.block ?_
    refine KC.seq ?_
    refine KC.seq ?_
    refine KC.region ?_
    refine KT.step rfl rfl (K.fieldAddrO rfl Try.fld31_0 Try.size3) ?_
    refine KT.step rfl rfl (K.loadO rfl y0 (by simp) rfl Try.agg3) ?_
    refine KT.step rfl rfl (K.move rfl) ?_
    refine KT.nil ?_
    refine thenK_n ?_
    refine KC.block ?_
    refine KC.loop (fun _ : Nat => σ0) (fun a => [(2, .optr 0 0), (3, .optr 1 0), (7, .optr 2 0), (6, x), (13, .d (DI (N : Nat))), (14, .d (DI (a : Nat)))]) (fun a => a ≤ N ∧ ∀ b, b < a → fireB L q X b = false) (fun a => N - a) 0 ⟨Nat.zero_le _, fun b hb => by omega⟩ rfl (by simp [Go.Vm.look, extK]) ?_
    intro a ha
    obtain ⟨haN', hno⟩ := ha
    refine KC.seq ?_
    refine KC.region ?_
    refine KT.step rfl rfl (K.lss rfl rfl) ?_
    refine KT.nil ?_
    refine thenK_n ?_
    refine KC.seq ?_
    refine KC.cond rfl (fun hc15 => ?_) (fun hc15 => ?_)
    · skip
      replace hc15 := of_decide_eq_true hc15
      have haN : a < N := by omega
      refine KC.skip ?_
      refine thenK_n ?_
      refine KC.seq ?_
      refine KC.block ?_
      refine KC.seq ?_
      refine KC.region ?_
      refine KT.step rfl rfl (K.move rfl) ?_
      refine KT.step rfl rfl (K.assign rfl) ?_
      refine KT.nil ?_
      refine thenK_n ?_
      refine KC.seq ?_
      refine KC.region ?_
      refine KT.step rfl rfl (K.loadOA ([DI (N : Nat), d]) rfl y0 (by decide) Try.agg31 Try.size31 rfl) ?_
      refine KT.step rfl rfl (K.move rfl) ?_
      refine KT.step rfl rfl (K.loadOA (wN X) rfl y2 (by decide) Try.agg75 Try.size75 rfl) ?_
      refine KT.step rfl rfl (K.loadOA (wN q) rfl y1 (by decide) Try.agg75 Try.size75 rfl) ?_
      refine KT.step rfl rfl (K.call4 rfl rfl rfl rfl plainTry_78 (fires78 hd hr (fun i => Nat.le_trans (hXq i) (hr.le i)) haN)) ?_
      refine KT.nil ?_
      refine thenK_n ?_
      refine KC.cond rfl (fun hc21 => ?_) (fun hc21 => ?_)
      · skip
        refine KC.seq ?_
        refine KC.region ?_
        refine KT.step rfl rfl (K.move rfl) ?_
        refine KT.step rfl rfl (K.idxA rfl rfl (by omega) Try.underlying75 Try.size3) ?_
        refine KT.step rfl rfl (K.loadO rfl y2 (by simp) (wX_get X (by omega)) Try.agg3) ?_
        refine KT.step rfl rfl (K.add rfl rfl (oneN (by have := hXq a; have := hr.le a; omega))) ?_
        refine KT.step rfl rfl (K.idxA rfl rfl (by omega) Try.underlying75 Try.size3) ?_
        refine KT.storeG rfl rfl rfl rfl y2 (by rw [wX_len]; omega) rfl rfl Try.size3 fun σ1 l1 u1 v1 => ?_
        refine KT.nil ?_
        refine thenK_n ?_
        refine KC.seq ?_
        refine KC.region ?_
        refine KT.step rfl rfl (K.move rfl) ?_
        refine KT.step rfl rfl (K.move rfl) ?_
        refine KT.step rfl rfl (K.build1' (v := .d (DI (a : Nat))) rfl rfl Try.underlying25 Try.one3) ?_
        have hown2 : OwnK 1 (σ1 ++ [⟨[.d (DI (a : Nat))], 0⟩]) x (sX s) := (hown.keep fun j hj => v1 j (by have := hid j hj; omega)).pushed _
        refine KT.appK (k := 1) rfl rfl rfl rfl hown2 (List.getElem?_concat_length ..) rfl rfl (by simp; omega) Try.underlying25 Try.size3 (of_decide_eq_true (by kernel_rfl)) (by kernel_rfl) (by omega) fun σ2 x2 ho2 k2 w2 => ?_
        refine KT.step rfl rfl (K.assign rfl) ?_
        refine KT.nil ?_
        refine thenK_n ?_
        refine KC.exit ?_
        refine blockK_x (by decide) ?_
        refine thenK_x ?_
        refine thenK_x ?_
        refine blockK_x (by decide) ?_
        refine thenK_x ?_
        refine blockK_e ?_
        refine thenK_n ?_
        have e1 := nxt_of hno haN hc21
        obtain ⟨m, hm⟩ : ∃ m, tot q - tot X = m + 1 := ⟨tot q - tot X - 1, by have := eqB_tot hXq he; omega⟩
        rw [hm, greedy_next he e1] at hgr
        have hf := fireB_iff.1 hc21
        have e2 := tot_bump (X := X) (a := a) (by omega)
        have z0 := (k2 0 (fun h => by have := hid 0 h; omega) (by simp only [List.length_append, List.length_cons, List.length_nil]; omega)).trans ((List.getElem?_append_left (by omega)).trans ((v1 0 (by omega)).trans y0))
        have z1 := (k2 1 (fun h => by have := hid 1 h; omega) (by simp only [List.length_append, List.length_cons, List.length_nil]; omega)).trans ((List.getElem?_append_left (by omega)).trans ((v1 1 (by omega)).trans y1))
        have z2 := (k2 2 (fun h => by have := hid 2 h; omega) (by simp only [List.length_append, List.length_cons, List.length_nil]; omega)).trans ((List.getElem?_append_left (by omega)).trans u1)
        rw [wX_bumpN X (by omega)] at z2
        refine ⟨(σ2, x2, bump X a, s ++ [a]), ⟨z0, z1, z2, by simpa [sX, zs] using ho2, fun j hj => ?_, fun h => by simp at h, fun i => ?_, by simp only [List.length_append, List.length_cons, List.length_nil]; omega, ?_⟩, by simp only; omega, rfl, by simp [Go.Vm.look, extK]⟩
        · obtain ⟨j', h1, h2⟩ := w2
          simp only at hj
          rw [h1] at hj; cases hj
          simp at h2; omega
        · simp only [bump]
          split
          · rename_i e; subst e; omega
          · exact hXq i
        · simp only
          rw [hgr, show tot q - tot (bump X a) = m by omega, Option.map_map]
          congr 1
          funext r
          simp
      · skip
        refine KC.skip ?_
        refine blockK_n ?_
        refine thenK_n ?_
        refine KC.region ?_
        refine KT.step rfl rfl (K.add rfl rfl (wrap_id (by omega))) ?_
        refine KT.step rfl rfl (K.move rfl) ?_
        refine KT.nil ?_
        refine thenK_n ?_
        refine ⟨a + 1, ⟨by omega, fun b hb => ?_⟩, by omega, rfl, by simp [Go.Vm.look, extK]⟩
        by_cases e : b = a
        · subst e; exact hc21
        · exact hno b (by omega)
    · skip
      replace hc15 := of_decide_eq_false hc15
      refine KC.exit ?_
      refine thenK_x ?_
      refine thenK_x ?_
      refine blockK_e ?_
      refine thenK_n ?_
      refine KC.seq ?_
      refine KC.region ?_
      refine KT.step rfl rfl (K.assign rfl) ?_
      refine KT.step rfl rfl (K.assign rfl) ?_
      refine KT.nil ?_
      refine thenK_n ?_
      refine KC.ret ?_
      refine blockK_r ?_
      refine thenK_r ?_
      refine blockK_r ?_
      refine thenK_r ?_
      refine noGotoK_r ?_
      obtain rfl : N = a := by omega
      obtain ⟨m, hm⟩ : ∃ m, tot q - tot X = m + 1 := ⟨tot q - tot X - 1, by have := eqB_tot hXq he; omega⟩
      rw [hm, greedy_stop he (nxt_no hno)] at hgr
      have hgr2 : first0 L N q = none := by rw [hgr]; rfl
      rw [hgr2]
      exact ⟨.inl rfl, _, rfl, rfl⟩
  · skip
    refine KC.exit ?_
    refine thenK_x ?_
    refine thenK_x ?_
    refine blockK_e ?_
    refine thenK_n ?_
    refine KC.seq ?_
    refine KC.region ?_
    refine KT.step rfl rfl (K.move rfl) ?_
    refine KT.step rfl rfl (K.assign rfl) ?_
    refine KT.step rfl rfl (K.assign rfl) ?_
    refine KT.nil ?_
    refine thenK_n ?_
    refine KC.ret ?_
    refine noGotoK_r ?_
    have he : eqB X q = true := by simpa using hc11
    rw [greedy_end he] at hgr
    have hgr2 : first0 L N q = some s := by rw [hgr]; simp
    rw [hgr2]
    exact ⟨.inl rfl, _, rfl, deepen_tup2 (fin_own (ownK_own hown) fun h => hnil (by cases s with | nil => rfl | cons _ _ => simp at h))⟩
end Go.Proofs.Ytnfnjnaheckdbaa

