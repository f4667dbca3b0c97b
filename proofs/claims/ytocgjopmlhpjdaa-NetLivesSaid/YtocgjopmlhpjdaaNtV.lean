import Derived.Test.YtocgjopmlhpjdaaNtU
import Derived.Test.YtocgjopmlhpjdaaNtSe
/-
  Nets: free choice of the reference; Commoner on both sides.
-/
namespace Go.Proofs.Ytocgjopmlhpjdaa
open Go.Vm Go.RowKit Go.Nt
theorem plainTry_34 : plainFn Try.prog 34 = true := by kernel_rfl
theorem plainTry_69 : plainFn Try.prog 69 = true := by kernel_rfl
theorem plainTry_29 : plainFn Try.prog 29 = true := by kernel_rfl
theorem plainTry_32 : plainFn Try.prog 32 = true := by kernel_rfl
theorem fits_one {r : List Int} (h0 : ∀ x ∈ r, 0 ≤ x) : fitsB r r.length 1 = true ↔ One r := by
  unfold fitsB
  rw [decide_eq_true rfl, Bool.true_and, List.all_eq_true]
  constructor
  · intro h p
    unfold tk
    rw [List.getD_eq_getElem?_getD]
    cases e : r[p]? with
    | none => simp
    | some x =>
      have := h x (List.mem_of_getElem? e)
      unfold okI at this
      simp at this ⊢; omega
  · intro h x hx
    obtain ⟨p, hp, rfl⟩ := List.getElem_of_mem hx
    have h1 := h p
    rw [tk_get hp] at h1
    have h2 := h0 _ hx
    unfold okI
    rw [decide_eq_true h1, decide_eq_true h2]; rfl
def comK (a b : List Int) (i : Nat) : Bool := (List.range i).any fun p => decide (0 < tk a p) && decide (0 < tk b p)
theorem comK_succ (a b : List Int) (i : Nat) : comK a b (i + 1) = (comK a b i || (decide (0 < tk a i) && decide (0 < tk b i))) := by unfold comK; rw [List.range_succ, List.any_append]; simp
theorem comK_all {a b : List Int} : comK a b a.length = true ↔ Com a b := by
  unfold comK
  rw [List.any_eq_true]
  constructor
  · rintro ⟨p, _, h⟩
    simp only [Bool.and_eq_true, decide_eq_true_eq] at h
    exact ⟨p, h⟩
  · rintro ⟨p, h1, h2⟩
    have hp : p < a.length := by
      by_cases hp : p < a.length
      · exact hp
      · rw [tk_zero (by omega)] at h1; omega
    exact ⟨p, List.mem_range.2 hp, by rw [decide_eq_true h1, decide_eq_true h2]; rfl⟩
def takK (m : List (List Int)) (p i : Nat) : Bool := (List.range i).any fun t => decide (0 < tk (m.getD t []) p)
theorem takK_succ (m : List (List Int)) (p i : Nat) : takK m p (i + 1) = (takK m p i || decide (0 < tk (m.getD i []) p)) := by unfold takK; rw [List.range_succ, List.any_append]; simp
theorem takK_iff {m : List (List Int)} {p i : Nat} : takK m p i = true ↔ ∃ t, t < i ∧ 0 < tk (m.getD t []) p := by
  unfold takK
  rw [List.any_eq_true]
  exact ⟨fun ⟨t, h1, h2⟩ => ⟨t, List.mem_range.1 h1, of_decide_eq_true h2⟩, fun ⟨t, h1, h2⟩ => ⟨t, List.mem_range.2 h1, decide_eq_true h2⟩⟩
set_option maxHeartbeats 4000000 in
set_option maxRecDepth 10000 in
theorem rFreeChoice34 {a b c : DV} {pre post : List (List Int)} {start : List Int} {r : Bool} (ha : Mat a pre) (hb : Mat b post) (hc : Ints c start) (n6 : start.length ≤ 6) (hpp : post.length = pre.length) (hp6 : pre.length ≤ 6) (rp : ∀ r ∈ pre, r.length = start.length) (rq : ∀ r ∈ post, r.length = start.length) (hp3 : ∀ r ∈ pre, ∀ x ∈ r, 0 ≤ x ∧ x ≤ 3) (hq3 : ∀ r ∈ post, ∀ x ∈ r, 0 ≤ x ∧ x ≤ 3) (hr : r = true ↔ FC pre post start.length) : DeepCall Try.prog 34 [.agg [a, b, c]] (DB r) := by
  have hl6 : ∀ {m : List (List Int)}, (∀ r ∈ m, r.length = start.length) → ∀ {t : Nat} (h : t < m.length), m[t].length = start.length := fun h _ ht => h _ (List.getElem_mem ht)
  have nn : ∀ {m : List (List Int)}, (∀ r ∈ m, ∀ x ∈ r, 0 ≤ x ∧ x ≤ 3) → ∀ {t : Nat} (h : t < m.length), ∀ x ∈ m[t], 0 ≤ x := fun h _ ht x hx => (h _ (List.getElem_mem ht) x hx).1
  refine deepCall_K 5 Try.func34 rfl (Nat.le_of_ble_eq_true rfl) fun M W0 => ?_
  refine KC.seq ?_
  refine KC.region ?_
  refine KT.step rfl rfl (K.box rfl) ?_
  refine KT.step rfl rfl (K.assign rfl) ?_
  refine KT.nil ?_
  refine thenK_n ?_
  refine KC.seq ?_
  refine KC.seq ?_
  refine KC.region ?_
  refine KT.step rfl rfl (K.fieldAddrO rfl Try.fld25_0 Try.size22) ?_
  refine KT.step rfl rfl (K.loadO (y := .d a) rfl rfl (by simp) rfl Try.agg22) ?_
  refine KT.step rfl rfl (K.len rfl ha Try.underlying22) ?_
  refine KT.step rfl rfl (K.move rfl) ?_
  refine KT.nil ?_
  refine thenK_n ?_
  refine KC.block ?_
  refine KC.loop (fun _ : Nat => [⟨[.d a, .d b, .d c], 0⟩]) (fun t => [(1, .optr 0 0), (15, .d a), (16, .d (DI (pre.length : Nat))), (17, .d (DI (t : Nat)))]) (fun t => t ≤ pre.length ∧ (∀ u, u < t → One (pre.getD u []) ∧ One (post.getD u [])) ∧ ∀ u v, u < t → v < pre.length → Com (pre.getD u []) (pre.getD v []) → pre.getD u [] = pre.getD v []) (fun t => pre.length - t) 0 ⟨Nat.zero_le _, fun u h => absurd h (Nat.not_lt_zero _), fun u v h => absurd h (Nat.not_lt_zero _)⟩ rfl (by simp [Go.Vm.look, extK, enterK]) ?_
  intro t ht
  obtain ⟨ht, hone, hcom⟩ := ht
  refine KC.seq ?_
  refine KC.region ?_
  refine KT.step rfl rfl (K.lss rfl rfl) ?_
  refine KT.nil ?_
  refine thenK_n ?_
  refine KC.seq ?_
  refine KC.cond rfl (fun hc18 => ?_) (fun hc18 => ?_)
  · skip
    replace hc18 := of_decide_eq_true hc18
    have htl : t < pre.length := by omega
    have htl2 : t < post.length := by omega
    have hpt := hl6 rp htl
    have hqt := hl6 rq htl2
    refine KC.skip ?_
    refine thenK_n ?_
    refine KC.seq ?_
    refine KC.block ?_
    refine KC.seq ?_
    refine KC.region ?_
    refine KT.step rfl rfl (K.move rfl) ?_
    refine KT.idx rfl rfl rfl (by assumption) rfl (by omega) Try.underlying22 Try.size23 fun c20 cs20 hq20 => ?_
    refine KT.step rfl rfl (K.load rfl Try.agg23) ?_
    refine KT.step rfl rfl (K.assign rfl) ?_
    refine KT.step rfl rfl (K.assign rfl) ?_
    refine KT.nil ?_
    refine thenK_n ?_
    refine KC.seq ?_
    refine KC.seq ?_
    refine KC.region ?_
    refine KT.step rfl rfl (K.move rfl) ?_
    refine KT.step rfl rfl (K.move rfl) ?_
    refine KT.step rfl rfl (K.len rfl hq20 Try.underlying23) ?_
    refine KT.step rfl rfl (K.call3 rfl rfl rfl plainTry_67 (numbers67 (n := pre[t].length) (most := 1) hq20 (by rw [hl6 rp htl]; omega))) ?_
    refine KT.step rfl rfl (K.not rfl) ?_
    refine KT.step rfl rfl (K.move rfl) ?_
    refine KT.bcase (fun hb27 => ?_) (fun hb27 => ?_)
    · skip
      refine KT.skip rfl rfl ?_
      refine KT.skip rfl rfl ?_
      refine KT.skip rfl rfl ?_
      refine KT.skip rfl rfl ?_
      refine KT.skip rfl rfl ?_
      refine KT.skip rfl rfl ?_
      refine KT.skip rfl rfl ?_
      refine KT.skip rfl rfl ?_
      refine KT.skip rfl rfl ?_
      refine KT.step rfl rfl (K.pick rfl (fun _ => rfl) (fun h => by cases h)) ?_
      refine KT.nil ?_
      refine thenK_n ?_
      refine KC.cond rfl (fun hc37 => ?_) (fun hc37 => ?_)
      · skip
        refine KC.seq ?_
        refine KC.region ?_
        refine KT.step rfl rfl (K.assign rfl) ?_
        refine KT.nil ?_
        refine thenK_n ?_
        refine KC.ret ?_
        refine thenK_r ?_
        refine blockK_r ?_
        refine thenK_r ?_
        refine thenK_r ?_
        refine blockK_r ?_
        refine thenK_r ?_
        have hbf := fb_no hr fun h => by
          have h1 := (h.one t htl).1
          rw [getD_at htl] at h1
          rw [(fits_one (nn hp3 htl)).2 h1] at hb27; simp at hb27
        exact ⟨.inl rfl, _, rfl, fin_b hbf⟩
      · cases hc37
    · skip
      refine KT.step rfl rfl (K.fieldAddrO rfl Try.fld25_1 Try.size22) ?_
      refine KT.step rfl rfl (K.loadO (y := .d b) rfl rfl (by simp) rfl Try.agg22) ?_
      refine KT.step rfl rfl (K.move rfl) ?_
      refine KT.idx rfl rfl rfl (by assumption) rfl (by omega) Try.underlying22 Try.size23 fun c31 cs31 hq31 => ?_
      refine KT.step rfl rfl (K.load rfl Try.agg23) ?_
      refine KT.step rfl rfl (K.move rfl) ?_
      refine KT.step rfl rfl (K.len rfl hq20 Try.underlying23) ?_
      refine KT.step rfl rfl (K.call3 rfl rfl rfl plainTry_67 (numbers67 (n := pre[t].length) (most := 1) hq31 (by rw [hl6 rq htl2]; omega))) ?_
      refine KT.step rfl rfl (K.not rfl) ?_
      refine KT.step rfl rfl (K.pick rfl (fun h => by cases h) (fun _ => rfl)) ?_
      refine KT.nil ?_
      refine thenK_n ?_
      refine KC.cond rfl (fun hc37 => ?_) (fun hc37 => ?_)
      · skip
        refine KC.seq ?_
        refine KC.region ?_
        refine KT.step rfl rfl (K.assign rfl) ?_
        refine KT.nil ?_
        refine thenK_n ?_
        refine KC.ret ?_
        refine thenK_r ?_
        refine blockK_r ?_
        refine thenK_r ?_
        refine thenK_r ?_
        refine blockK_r ?_
        refine thenK_r ?_
        have hbf := fb_no hr fun h => by
          have h1 := (h.one t htl).2
          rw [getD_at htl2] at h1
          have h2 := (fits_one (nn hq3 htl2)).2 h1
          rw [hqt, ← hpt] at h2
          rw [h2] at hc37; simp at hc37
        exact ⟨.inl rfl, _, rfl, fin_b hbf⟩
      · skip
        have q1 : One post[t] := (fits_one (nn hq3 htl2)).1 (by rw [hqt, ← hpt]; simpa using hc37)
        refine KC.skip ?_
        refine thenK_n ?_
        refine KC.seq ?_
        refine KC.region ?_
        refine KT.step rfl rfl (K.fieldAddrO rfl Try.fld25_0 Try.size22) ?_
        refine KT.step rfl rfl (K.loadO (y := .d a) rfl rfl (by simp) rfl Try.agg22) ?_
        refine KT.step rfl rfl (K.len rfl ha Try.underlying22) ?_
        refine KT.step rfl rfl (K.move rfl) ?_
        refine KT.nil ?_
        refine thenK_n ?_
        refine KC.block ?_
        refine KC.loop (fun _ : Nat => [⟨[.d a, .d b, .d c], 0⟩]) (fun u => [(1, .optr 0 0), (3, .d (DI (t : Nat))), (4, .d c20), (15, .d a), (16, .d (DI (pre.length : Nat))), (17, .d (DI (t : Nat))), (39, .d a), (40, .d (DI (pre.length : Nat))), (41, .d (DI (u : Nat)))]) (fun u => u ≤ pre.length ∧ ∀ v, v < u → Com (pre.getD t []) (pre.getD v []) → pre.getD t [] = pre.getD v []) (fun u => pre.length - u) 0 ⟨Nat.zero_le _, fun v h => absurd h (Nat.not_lt_zero _)⟩ rfl (by simp [Go.Vm.look, extK, enterK]) ?_
        intro u hu
        obtain ⟨hu, hcu⟩ := hu
        refine KC.seq ?_
        refine KC.region ?_
        refine KT.step rfl rfl (K.lss rfl rfl) ?_
        refine KT.nil ?_
        refine thenK_n ?_
        refine KC.seq ?_
        refine KC.cond rfl (fun hc42 => ?_) (fun hc42 => ?_)
        · skip
          replace hc42 := of_decide_eq_true hc42
          have hul : u < pre.length := by omega
          refine KC.skip ?_
          refine thenK_n ?_
          refine KC.seq ?_
          refine KC.block ?_
          refine KC.seq ?_
          refine KC.region ?_
          refine KT.idx rfl rfl rfl (by assumption) rfl (by omega) Try.underlying22 Try.size23 fun c43 cs43 hq43 => ?_
          refine KT.step rfl rfl (K.load rfl Try.agg23) ?_
          refine KT.step rfl rfl (K.assign rfl) ?_
          refine KT.nil ?_
          refine thenK_n ?_
          refine KC.seq ?_
          refine KC.region ?_
          refine KT.step rfl rfl (K.assign rfl) ?_
          refine KT.nil ?_
          refine thenK_n ?_
          refine KC.seq ?_
          refine KC.seq ?_
          refine KC.region ?_
          refine KT.step rfl rfl (K.move rfl) ?_
          refine KT.step rfl rfl (K.len rfl hq20 Try.underlying23) ?_
          refine KT.step rfl rfl (K.move rfl) ?_
          refine KT.nil ?_
          refine thenK_n ?_
          refine KC.block ?_
          refine KC.loop (fun _ : Nat => [⟨[.d a, .d b, .d c], 0⟩]) (fun p => [(1, .optr 0 0), (3, .d (DI (t : Nat))), (4, .d c20), (6, .d c43), (7, .d (DB (comK pre[t] pre[u] p))), (15, .d a), (16, .d (DI (pre.length : Nat))), (17, .d (DI (t : Nat))), (39, .d a), (40, .d (DI (pre.length : Nat))), (41, .d (DI (u : Nat))), (45, .d c20), (46, .d (DI (pre[t].length : Nat))), (47, .d (DI (p : Nat)))]) (fun p => p ≤ pre[t].length) (fun p => pre[t].length - p) 0 (Nat.zero_le _) rfl (by simp [Go.Vm.look, extK, enterK, comK]) ?_
          intro p hp
          refine KC.seq ?_
          refine KC.region ?_
          refine KT.step rfl rfl (K.lss rfl rfl) ?_
          refine KT.nil ?_
          refine thenK_n ?_
          refine KC.seq ?_
          refine KC.cond rfl (fun hc48 => ?_) (fun hc48 => ?_)
          · skip
            replace hc48 := of_decide_eq_true hc48
            have hpl : p < pre[t].length := by omega
            have hpl2 : p < pre[u].length := by rw [hl6 rp hul, ← hl6 rp htl]; exact hpl
            refine KC.skip ?_
            refine thenK_n ?_
            refine KC.seq ?_
            refine KC.block ?_
            refine KC.seq ?_
            refine KC.region ?_
            refine KT.step rfl rfl (K.move rfl) ?_
            refine KT.idxI rfl rfl rfl (by assumption) rfl (by omega) Try.underlying23 Try.size3 fun cs50 => ?_
            refine KT.step rfl rfl (K.load rfl Try.agg3) ?_
            refine KT.step rfl rfl (K.assign rfl) ?_
            refine KT.step rfl rfl (K.assign rfl) ?_
            refine KT.nil ?_
            refine thenK_n ?_
            refine KC.region ?_
            refine KT.step rfl rfl (K.move rfl) ?_
            refine KT.step rfl rfl (K.move rfl) ?_
            refine KT.bcase (fun hb53 => ?_) (fun hb53 => ?_)
            · skip
              refine KT.skip rfl rfl ?_
              refine KT.skip rfl rfl ?_
              refine KT.skip rfl rfl ?_
              refine KT.skip rfl rfl ?_
              refine KT.skip rfl rfl ?_
              refine KT.skip rfl rfl ?_
              refine KT.skip rfl rfl ?_
              refine KT.skip rfl rfl ?_
              refine KT.skip rfl rfl ?_
              refine KT.step rfl rfl (K.pick rfl (fun _ => rfl) (fun h => by cases h)) ?_
              refine KT.step rfl rfl (K.assign rfl) ?_
              refine KT.nil ?_
              refine blockK_n ?_
              refine thenK_n ?_
              refine KC.region ?_
              refine KT.step rfl rfl (K.add rfl rfl (wrap_id (by omega))) ?_
              refine KT.step rfl rfl (K.move rfl) ?_
              refine KT.nil ?_
              refine thenK_n ?_
              refine ⟨p + 1, by omega, by omega, rfl, ?_⟩
              rw [comK_succ]
              simp [Go.Vm.look, extK, tk_get hpl, tk_get hpl2, hb53]
            · skip
              refine KT.step rfl rfl (K.move rfl) ?_
              refine KT.step rfl rfl (K.gtr rfl rfl) ?_
              refine KT.step rfl rfl (K.move rfl) ?_
              refine KT.bcase (fun hb56 => ?_) (fun hb56 => ?_)
              · skip
                replace hb56 := of_decide_eq_true hb56
                refine KT.step rfl rfl (K.move rfl) ?_
                refine KT.step rfl rfl (K.move rfl) ?_
                refine KT.idxI rfl rfl rfl (by assumption) rfl (by omega) Try.underlying23 Try.size3 fun cs59 => ?_
                refine KT.step rfl rfl (K.load rfl Try.agg3) ?_
                refine KT.step rfl rfl (K.gtr rfl rfl) ?_
                refine KT.step rfl rfl (K.pick rfl (fun _ => rfl) (fun h => by cases h)) ?_
                refine KT.step rfl rfl (K.pick rfl (fun h => by cases h) (fun _ => rfl)) ?_
                refine KT.step rfl rfl (K.assign rfl) ?_
                refine KT.nil ?_
                refine blockK_n ?_
                refine thenK_n ?_
                refine KC.region ?_
                refine KT.step rfl rfl (K.add rfl rfl (wrap_id (by omega))) ?_
                refine KT.step rfl rfl (K.move rfl) ?_
                refine KT.nil ?_
                refine thenK_n ?_
                refine ⟨p + 1, by omega, by omega, rfl, ?_⟩
                rw [comK_succ]
                simp [Go.Vm.look, extK, tk_get hpl, tk_get hpl2, hb53, hb56]
              · skip
                replace hb56 := of_decide_eq_false hb56
                refine KT.skip rfl rfl ?_
                refine KT.skip rfl rfl ?_
                refine KT.skip rfl rfl ?_
                refine KT.skip rfl rfl ?_
                refine KT.skip rfl rfl ?_
                refine KT.step rfl rfl (K.pick rfl (fun h => by cases h) (fun _ => rfl)) ?_
                refine KT.step rfl rfl (K.pick rfl (fun h => by cases h) (fun _ => rfl)) ?_
                refine KT.step rfl rfl (K.assign rfl) ?_
                refine KT.nil ?_
                refine blockK_n ?_
                refine thenK_n ?_
                refine KC.region ?_
                refine KT.step rfl rfl (K.add rfl rfl (wrap_id (by omega))) ?_
                refine KT.step rfl rfl (K.move rfl) ?_
                refine KT.nil ?_
                refine thenK_n ?_
                refine ⟨p + 1, by omega, by omega, rfl, ?_⟩
                rw [comK_succ]
                simp [Go.Vm.look, extK, tk_get hpl, tk_get hpl2, hb53, hb56]
          · skip
            replace hc48 := of_decide_eq_false hc48
            refine KC.exit ?_
            refine thenK_x ?_
            refine thenK_x ?_
            refine blockK_e ?_
            refine thenK_n ?_
            refine KC.seq ?_
            refine KC.region ?_
            refine KT.step rfl rfl (K.move rfl) ?_
            refine KT.step rfl rfl (K.move rfl) ?_
            refine KT.bcase (fun hb66 => ?_) (fun hb66 => ?_)
            · skip
              obtain rfl : p = pre[t].length := by omega
              have hcc := comK_all.1 hb66
              refine KT.step rfl rfl (K.move rfl) ?_
              refine KT.step rfl rfl (K.move rfl) ?_
              refine KT.step rfl rfl (K.call2 rfl rfl plainTry_56 (requal56 hq20 hq43 (by rw [hl6 rp htl, hl6 rp hul]) (by rw [hl6 rp htl]; omega))) ?_
              refine KT.step rfl rfl (K.not rfl) ?_
              refine KT.step rfl rfl (K.pick rfl (fun _ => rfl) (fun h => by cases h)) ?_
              refine KT.nil ?_
              refine thenK_n ?_
              refine KC.cond rfl (fun hc71 => ?_) (fun hc71 => ?_)
              · skip
                refine KC.seq ?_
                refine KC.region ?_
                refine KT.step rfl rfl (K.assign rfl) ?_
                refine KT.nil ?_
                refine thenK_n ?_
                refine KC.ret ?_
                refine blockK_r ?_
                refine thenK_r ?_
                refine thenK_r ?_
                refine blockK_r ?_
                refine blockK_r ?_
                refine thenK_r ?_
                refine thenK_r ?_
                refine blockK_r ?_
                refine thenK_r ?_
                have hbf := fb_no hr fun h => by
                  have h1 := h.com t u htl hul
                  rw [getD_at htl, getD_at hul] at h1
                  rw [h1 hcc] at hc71; simp at hc71
                exact ⟨.inl rfl, _, rfl, fin_b hbf⟩
              · skip
                refine KC.skip ?_
                refine blockK_n ?_
                refine thenK_n ?_
                refine KC.region ?_
                refine KT.step rfl rfl (K.add rfl rfl (wrap_id (by omega))) ?_
                refine KT.step rfl rfl (K.move rfl) ?_
                refine KT.nil ?_
                refine thenK_n ?_
                refine ⟨u + 1, ⟨by omega, fun v hv hcv => ?_⟩, by omega, rfl, by simp [Go.Vm.look, extK]⟩
                by_cases e : v = u
                · subst e
                  rw [getD_at htl, getD_at hul] at *
                  simpa using hc71
                · exact hcu v (by omega) hcv
            · skip
              obtain rfl : p = pre[t].length := by omega
              have hcc : ¬ Com pre[t] pre[u] := fun h => by rw [comK_all.2 h] at hb66; cases hb66
              refine KT.skip rfl rfl ?_
              refine KT.skip rfl rfl ?_
              refine KT.skip rfl rfl ?_
              refine KT.skip rfl rfl ?_
              refine KT.step rfl rfl (K.pick rfl (fun h => by cases h) (fun _ => rfl)) ?_
              refine KT.nil ?_
              refine thenK_n ?_
              refine KC.cond rfl (fun hc71 => ?_) (fun hc71 => ?_)
              · cases hc71
              · skip
                refine KC.skip ?_
                refine blockK_n ?_
                refine thenK_n ?_
                refine KC.region ?_
                refine KT.step rfl rfl (K.add rfl rfl (wrap_id (by omega))) ?_
                refine KT.step rfl rfl (K.move rfl) ?_
                refine KT.nil ?_
                refine thenK_n ?_
                refine ⟨u + 1, ⟨by omega, fun v hv hcv => ?_⟩, by omega, rfl, by simp [Go.Vm.look, extK]⟩
                by_cases e : v = u
                · subst e
                  rw [getD_at htl, getD_at hul] at *
                  exact absurd hcv hcc
                · exact hcu v (by omega) hcv
        · skip
          replace hc42 := of_decide_eq_false hc42
          refine KC.exit ?_
          refine thenK_x ?_
          refine thenK_x ?_
          refine blockK_e ?_
          refine blockK_n ?_
          refine thenK_n ?_
          refine KC.region ?_
          refine KT.step rfl rfl (K.add rfl rfl (wrap_id (by omega))) ?_
          refine KT.step rfl rfl (K.move rfl) ?_
          refine KT.nil ?_
          refine thenK_n ?_
          refine ⟨t + 1, ⟨by omega, fun v hv => ?_, fun v w hv hw hcv => ?_⟩, by omega, rfl, by simp [Go.Vm.look, extK]⟩
          · by_cases e : v = t
            · subst e
              rw [getD_at htl, getD_at htl2]
              exact ⟨(fits_one (nn hp3 htl)).1 (by simpa using hb27), q1⟩
            · exact hone v (by omega)
          · by_cases e : v = t
            · subst e; exact hcu w (by omega) hcv
            · exact hcom v w (by omega) hw hcv
  · skip
    replace hc18 := of_decide_eq_false hc18
    refine KC.exit ?_
    refine thenK_x ?_
    refine thenK_x ?_
    refine blockK_e ?_
    refine thenK_n ?_
    refine KC.seq ?_
    refine KC.seq ?_
    refine KC.region ?_
    refine KT.step rfl rfl (K.fieldAddrO rfl Try.fld25_2 Try.size23) ?_
    refine KT.step rfl rfl (K.loadO (y := .d c) rfl rfl (by simp) rfl Try.agg23) ?_
    refine KT.step rfl rfl (K.len rfl hc Try.underlying23) ?_
    refine KT.step rfl rfl (K.move rfl) ?_
    refine KT.nil ?_
    refine thenK_n ?_
    refine KC.block ?_
    refine KC.loop (fun _ : Nat => [⟨[.d a, .d b, .d c], 0⟩]) (fun p => [(1, .optr 0 0), (75, .d c), (76, .d (DI (start.length : Nat))), (77, .d (DI (p : Nat)))]) (fun p => p ≤ start.length ∧ ∀ q, q < p → ∃ t, t < pre.length ∧ 0 < tk (pre.getD t []) q) (fun p => start.length - p) 0 ⟨Nat.zero_le _, fun q h => absurd h (Nat.not_lt_zero _)⟩ rfl (by simp [Go.Vm.look, extK, enterK]) ?_
    intro p hp
    obtain ⟨hp, hall⟩ := hp
    refine KC.seq ?_
    refine KC.region ?_
    refine KT.step rfl rfl (K.lss rfl rfl) ?_
    refine KT.nil ?_
    refine thenK_n ?_
    refine KC.seq ?_
    refine KC.cond rfl (fun hc78 => ?_) (fun hc78 => ?_)
    · skip
      replace hc78 := of_decide_eq_true hc78
      have hpp2 : p < start.length := by omega
      refine KC.skip ?_
      refine thenK_n ?_
      refine KC.seq ?_
      refine KC.block ?_
      refine KC.seq ?_
      refine KC.region ?_
      refine KT.step rfl rfl (K.move rfl) ?_
      refine KT.step rfl rfl (K.assign rfl) ?_
      refine KT.nil ?_
      refine thenK_n ?_
      refine KC.seq ?_
      refine KC.region ?_
      refine KT.step rfl rfl (K.assign rfl) ?_
      refine KT.nil ?_
      refine thenK_n ?_
      refine KC.seq ?_
      refine KC.seq ?_
      refine KC.region ?_
      refine KT.step rfl rfl (K.fieldAddrO rfl Try.fld25_0 Try.size22) ?_
      refine KT.step rfl rfl (K.loadO (y := .d a) rfl rfl (by simp) rfl Try.agg22) ?_
      refine KT.step rfl rfl (K.len rfl ha Try.underlying22) ?_
      refine KT.step rfl rfl (K.move rfl) ?_
      refine KT.nil ?_
      refine thenK_n ?_
      refine KC.block ?_
      refine KC.loop (fun _ : Nat => [⟨[.d a, .d b, .d c], 0⟩]) (fun u => [(1, .optr 0 0), (10, .d (DI (p : Nat))), (11, .d (DB (takK pre p u))), (75, .d c), (76, .d (DI (start.length : Nat))), (77, .d (DI (p : Nat))), (81, .d a), (82, .d (DI (pre.length : Nat))), (83, .d (DI (u : Nat)))]) (fun u => u ≤ pre.length) (fun u => pre.length - u) 0 (Nat.zero_le _) rfl (by simp [Go.Vm.look, extK, enterK, takK]) ?_
      intro u hu
      refine KC.seq ?_
      refine KC.region ?_
      refine KT.step rfl rfl (K.lss rfl rfl) ?_
      refine KT.nil ?_
      refine thenK_n ?_
      refine KC.seq ?_
      refine KC.cond rfl (fun hc84 => ?_) (fun hc84 => ?_)
      · skip
        replace hc84 := of_decide_eq_true hc84
        have hul : u < pre.length := by omega
        have hpl : p < pre[u].length := by rw [hl6 rp hul]; omega
        refine KC.skip ?_
        refine thenK_n ?_
        refine KC.seq ?_
        refine KC.block ?_
        refine KC.seq ?_
        refine KC.region ?_
        refine KT.idx rfl rfl rfl (by assumption) rfl (by omega) Try.underlying22 Try.size23 fun c85 cs85 hq85 => ?_
        refine KT.step rfl rfl (K.load rfl Try.agg23) ?_
        refine KT.step rfl rfl (K.assign rfl) ?_
        refine KT.nil ?_
        refine thenK_n ?_
        refine KC.region ?_
        refine KT.step rfl rfl (K.move rfl) ?_
        refine KT.step rfl rfl (K.move rfl) ?_
        refine KT.bcase (fun hb88 => ?_) (fun hb88 => ?_)
        · skip
          refine KT.skip rfl rfl ?_
          refine KT.skip rfl rfl ?_
          refine KT.skip rfl rfl ?_
          refine KT.skip rfl rfl ?_
          refine KT.skip rfl rfl ?_
          refine KT.step rfl rfl (K.pick rfl (fun _ => rfl) (fun h => by cases h)) ?_
          refine KT.step rfl rfl (K.assign rfl) ?_
          refine KT.nil ?_
          refine blockK_n ?_
          refine thenK_n ?_
          refine KC.region ?_
          refine KT.step rfl rfl (K.add rfl rfl (wrap_id (by omega))) ?_
          refine KT.step rfl rfl (K.move rfl) ?_
          refine KT.nil ?_
          refine thenK_n ?_
          refine ⟨u + 1, by omega, by omega, rfl, ?_⟩
          rw [takK_succ, getD_at hul, tk_get hpl]
          simp [Go.Vm.look, extK, hb88]
        · skip
          refine KT.step rfl rfl (K.move rfl) ?_
          refine KT.step rfl rfl (K.move rfl) ?_
          refine KT.idxI rfl rfl rfl (by assumption) rfl (by omega) Try.underlying23 Try.size3 fun cs91 => ?_
          refine KT.step rfl rfl (K.load rfl Try.agg3) ?_
          refine KT.step rfl rfl (K.gtr rfl rfl) ?_
          refine KT.step rfl rfl (K.pick rfl (fun h => by cases h) (fun _ => rfl)) ?_
          refine KT.step rfl rfl (K.assign rfl) ?_
          refine KT.nil ?_
          refine blockK_n ?_
          refine thenK_n ?_
          refine KC.region ?_
          refine KT.step rfl rfl (K.add rfl rfl (wrap_id (by omega))) ?_
          refine KT.step rfl rfl (K.move rfl) ?_
          refine KT.nil ?_
          refine thenK_n ?_
          refine ⟨u + 1, by omega, by omega, rfl, ?_⟩
          rw [takK_succ, getD_at hul, tk_get hpl]
          simp [Go.Vm.look, extK, hb88]
      · skip
        replace hc84 := of_decide_eq_false hc84
        refine KC.exit ?_
        refine thenK_x ?_
        refine thenK_x ?_
        refine blockK_e ?_
        refine thenK_n ?_
        refine KC.seq ?_
        refine KC.region ?_
        refine KT.step rfl rfl (K.move rfl) ?_
        refine KT.step rfl rfl (K.not rfl) ?_
        refine KT.nil ?_
        refine thenK_n ?_
        refine KC.cond rfl (fun hc97 => ?_) (fun hc97 => ?_)
        · skip
          obtain rfl : u = pre.length := by omega
          refine KC.seq ?_
          refine KC.region ?_
          refine KT.step rfl rfl (K.assign rfl) ?_
          refine KT.nil ?_
          refine thenK_n ?_
          refine KC.ret ?_
          refine blockK_r ?_
          refine thenK_r ?_
          refine thenK_r ?_
          refine blockK_r ?_
          refine thenK_r ?_
          have hbf := fb_no hr fun h => by
            rw [takK_iff.2 (h.all p hpp2)] at hc97; simp at hc97
          exact ⟨.inl rfl, _, rfl, fin_b hbf⟩
        · skip
          obtain rfl : u = pre.length := by omega
          have htk := takK_iff.1 (show takK pre p pre.length = true by simpa using hc97)
          refine KC.skip ?_
          refine blockK_n ?_
          refine thenK_n ?_
          refine KC.region ?_
          refine KT.step rfl rfl (K.add rfl rfl (wrap_id (by omega))) ?_
          refine KT.step rfl rfl (K.move rfl) ?_
          refine KT.nil ?_
          refine thenK_n ?_
          refine ⟨p + 1, ⟨by omega, fun q hq => ?_⟩, by omega, rfl, by simp [Go.Vm.look, extK]⟩
          by_cases e : q = p
          · subst e; exact htk
          · exact hall q (by omega)
    · skip
      replace hc78 := of_decide_eq_false hc78
      refine KC.exit ?_
      refine thenK_x ?_
      refine thenK_x ?_
      refine blockK_e ?_
      refine thenK_n ?_
      refine KC.seq ?_
      refine KC.region ?_
      refine KT.step rfl rfl (K.assign rfl) ?_
      refine KT.nil ?_
      refine thenK_n ?_
      refine KC.ret ?_
      obtain rfl : t = pre.length := by omega
      obtain rfl : p = start.length := by omega
      exact ⟨.inl rfl, _, rfl, fin_b (hr.2 ⟨hone, hcom, hall⟩)⟩
set_option maxRecDepth 10000 in
theorem marked69 {a b c : DV} {start : List Int} {set : Nat} (hc : Ints c start) (h6 : start.length ≤ 6) (hs : set < 2 ^ 63) : DeepCall Try.prog 69 [.agg [a, b, c], DI (set : Nat)] (DB (touchR start set)) := by
  refine deepCall_K 5 Try.func69 rfl (Nat.le_of_ble_eq_true rfl) fun M W0 => ?_
  refine KC.seq ?_
  refine KC.region ?_
  refine KT.step rfl rfl (K.box rfl) ?_
  refine KT.step rfl rfl (K.assign rfl) ?_
  refine KT.nil ?_
  refine thenK_n ?_
  refine KC.seq ?_
  refine KC.region ?_
  refine KT.step rfl rfl (K.fieldAddrO rfl Try.fld25_2 Try.size23) ?_
  refine KT.step rfl rfl (K.loadO (y := .d c) rfl rfl (by simp) rfl Try.agg23) ?_
  refine KT.step rfl rfl (K.move rfl) ?_
  refine KT.step rfl rfl (K.call2 rfl rfl plainTry_91 (touches91 hc h6 hs)) ?_
  refine KT.step rfl rfl (K.assign rfl) ?_
  refine KT.nil ?_
  refine thenK_n ?_
  refine KC.ret ?_
  exact ⟨.inl rfl, _, rfl, fin_d rfl⟩
/-- Siphons without a marked trap. -/
def noMark (pre post : List (List Int)) (start : List Int) (s : Nat) : Bool := decide (trapR pre post s &&& suppX (tk start) 6 = 0)
def cmnV (pre post : List (List Int)) (start : List Int) : DV := match (sipL pre post (2 ^ start.length)).find? (noMark pre post start) with | some s => .tup [DI (s : Nat), DI 0] | none => .tup [DI 0, DI 5]
theorem find_i {α : Type} {p : α → Bool} {l : List α} {i : Nat} (hi : i < l.length) (hall : ∀ j (h : j < l.length), j < i → p l[j] = false) (hp : p l[i] = true) : l.find? p = some l[i] := by
  conv => lhs; rw [← List.take_append_drop i l]
  rw [List.find?_append]
  have h1 : (l.take i).find? p = none := List.find?_eq_none.2 fun x hx => by
    obtain ⟨j, hj, rfl⟩ := List.getElem_of_mem hx
    rw [List.length_take] at hj
    rw [List.getElem_take]
    have := hall j (by omega) (by omega)
    simp [this]
  rw [h1, List.drop_eq_getElem_cons hi, List.find?_cons_of_pos hp]; simp
theorem find_no {α : Type} {p : α → Bool} {l : List α} {i : Nat} (hi : l.length ≤ i) (hall : ∀ j (h : j < l.length), j < i → p l[j] = false) : l.find? p = none := List.find?_eq_none.2 fun x hx => by
  obtain ⟨j, hj, rfl⟩ := List.getElem_of_mem hx
  have := hall j hj (by omega)
  simp [this]
theorem nats_ints (l : List Nat) : Ints (slOf (l.map fun n => DI (n : Nat))) (natsI l) := by
  cases l with
  | nil => exact .nil
  | cons a l =>
    rw [slOf_ne (by simp)]
    have e : ((a :: l).map fun n => DI (n : Nat)).length = (natsI (a :: l)).length := by simp [natsI]
    rw [e]
    refine .sl e fun i c x h1 h2 => ?_
    unfold natsI at h2
    rw [List.getElem?_map] at h1 h2
    cases hp : (a :: l)[i]? with
    | none => rw [hp] at h1; cases h1
    | some p => rw [hp] at h1 h2; cases h1; cases h2; rfl
theorem natsI_len (l : List Nat) : (natsI l).length = l.length := by simp [natsI]
theorem natsI_get {l : List Nat} {i : Nat} (h : i < (natsI l).length) : (natsI l)[i] = ((l[i]'(by rw [natsI_len] at h; exact h) : Nat) : Int) := by simp [natsI]
set_option maxHeartbeats 2000000 in
set_option maxRecDepth 10000 in
theorem Commoner29 {a b c : DV} {pre post : List (List Int)} {start : List Int} {r : Bool} (h : NetD a b c pre post start) (hr : validB pre post start = true → (r = true ↔ FC pre post start.length)) : DeepCall Try.prog 29 [.agg [a, b, c]] (if validB pre post start then (if r then cmnV pre post start else .tup [DI 0, DI 7]) else .tup [DI 0, DI 2]) := by
  have hN := h
  obtain ⟨ha, hb, hc, l1, l2, l3, r1, r2⟩ := h
  refine deepCall_K 5 Try.func29 rfl (Nat.le_of_ble_eq_true rfl) fun M W0 => ?_
  refine KC.seq ?_
  refine KC.region ?_
  refine KT.step rfl rfl (K.box rfl) ?_
  refine KT.step rfl rfl (K.assign rfl) ?_
  refine KT.step rfl rfl (K.assign rfl) ?_
  refine KT.nil ?_
  refine thenK_n ?_
  refine KC.seq ?_
  refine KC.seq ?_
  refine KC.region ?_
  refine KT.step rfl rfl (K.loadOA [a, b, c] rfl rfl (by decide) Try.agg32 Try.size32 rfl) ?_
  refine KT.step rfl rfl (K.call1 rfl plainTry_48 (valid48 hN)) ?_
  refine KT.step rfl rfl (K.not rfl) ?_
  refine KT.nil ?_
  refine thenK_n ?_
  refine KC.cond rfl (fun hc9 => ?_) (fun hc9 => ?_)
  · skip
    refine KC.seq ?_
    refine KC.region ?_
    refine KT.step rfl rfl (K.assign rfl) ?_
    refine KT.step rfl rfl (K.assign rfl) ?_
    refine KT.nil ?_
    refine thenK_n ?_
    refine KC.ret ?_
    refine thenK_r ?_
    refine ⟨.inl rfl, _, rfl, ?_⟩
    rw [if_neg (by simpa using hc9)]
    rfl
  · skip
    have hv : validB pre post start = true := by simpa using hc9
    obtain ⟨v1, v2, v3, v4, v5, v6, v7, v8⟩ := validB_iff.1 hv
    have rp : ∀ r ∈ pre, r.length = start.length := fun r hr => fitsB_len (allB_mem v7 r hr)
    have rq : ∀ r ∈ post, r.length = start.length := fun r hr => fitsB_len (allB_mem v8 r hr)
    refine KC.skip ?_
    refine thenK_n ?_
    refine KC.seq ?_
    refine KC.region ?_
    refine KT.step rfl rfl (K.loadOA [a, b, c] rfl rfl (by decide) Try.agg32 Try.size32 rfl) ?_
    refine KT.step rfl rfl (K.call1 rfl plainTry_59 (systemOf59 ha hb hc v1 v2 v4 v5 v6 rp rq)) ?_
    refine KT.step rfl rfl (K.alloc Try.zero66) ?_
    refine KT.putAll (cs := (sysC start.length pre post start).map .d) rfl rfl rfl rfl rfl rfl (by simp [w6, sysC, Value.cells]) (by simp [sysC, w6, oneX, Value.oneCell']) Try.size66 ?_
    refine KT.nil ?_
    refine thenK_n ?_
    refine KC.seq ?_
    refine KC.seq ?_
    refine KC.region ?_
    refine KT.step rfl rfl (K.loadOA (sysC start.length pre post start) rfl rfl (by decide) Try.agg66 Try.size66 rfl) ?_
    refine KT.step rfl rfl (K.call1 rfl plainTry_60 (freeChoice60 v2 v6 v5 rp rq (fun r h => fitsB_mem (allB_mem v7 r h)) (hr hv))) ?_
    refine KT.step rfl rfl (K.not rfl) ?_
    refine KT.nil ?_
    refine thenK_n ?_
    refine KC.cond rfl (fun hc14 => ?_) (fun hc14 => ?_)
    · skip
      refine KC.seq ?_
      refine KC.region ?_
      refine KT.step rfl rfl (K.assign rfl) ?_
      refine KT.step rfl rfl (K.assign rfl) ?_
      refine KT.nil ?_
      refine thenK_n ?_
      refine KC.ret ?_
      refine thenK_r ?_
      refine ⟨.inl rfl, _, rfl, ?_⟩
      rw [if_pos hv, show r = false from by simpa using hc14]
      rfl
    · skip
      refine KC.skip ?_
      refine thenK_n ?_
      refine KC.seq ?_
      refine KC.seq ?_
      refine KC.region ?_
      refine KT.step rfl rfl (K.loadOA (sysC start.length pre post start) rfl rfl (by decide) Try.agg66 Try.size66 rfl) ?_
      refine KT.step rfl rfl (K.call1 rfl plainTry_61 (siphons61 v2 v6 v5)) ?_
      obtain ⟨L, hL⟩ : ∃ L, L = sipL pre post (2 ^ start.length) := ⟨_, rfl⟩
      have hLl : L.length ≤ 64 := by rw [hL]; exact Nat.le_trans (sipL_len _ _ _) (pow6 v2)
      have hLm : ∀ x ∈ L, x < 64 := fun x hx => by rw [hL] at hx; have := sipL_lt pre post _ x hx; have := pow6 v2; omega
      rw [← hL]
      have hin := nats_ints L
      have hil := natsI_len L
      generalize slOf (L.map fun n => DI ((n : Nat) : Int)) = sd at hin
      refine KT.step rfl rfl (K.len rfl hin Try.underlying23) ?_
      refine KT.step rfl rfl (K.move rfl) ?_
      refine KT.nil ?_
      refine thenK_n ?_
      refine KC.block ?_
      refine KC.loop (fun _ : Nat => [⟨[.d a, .d b, .d c], 0⟩, ⟨(sysC start.length pre post start).map .d, 0⟩]) (fun i => [(4, .optr 1 0), (16, .d sd), (17, .d (DI ((natsI L).length : Nat))), (18, .d (DI (i : Nat)))]) (fun i => i ≤ L.length ∧ ∀ j (h : j < L.length), j < i → noMark pre post start L[j] = false) (fun i => L.length - i) 0 ⟨Nat.zero_le _, fun j _ h => absurd h (Nat.not_lt_zero _)⟩ rfl (by simp [Go.Vm.look, extK, enterK]) ?_
      intro i hi
      obtain ⟨hi, hall⟩ := hi
      refine KC.seq ?_
      refine KC.region ?_
      refine KT.step rfl rfl (K.lss rfl rfl) ?_
      refine KT.nil ?_
      refine thenK_n ?_
      refine KC.seq ?_
      refine KC.cond rfl (fun hc19 => ?_) (fun hc19 => ?_)
      · skip
        replace hc19 := of_decide_eq_true hc19
        have hiL : i < L.length := by omega
        refine KC.skip ?_
        refine thenK_n ?_
        refine KC.seq ?_
        refine KC.block ?_
        refine KC.seq ?_
        refine KC.region ?_
        refine KT.idxI rfl rfl rfl (by assumption) rfl (by omega) Try.underlying23 Try.size3 fun cs20 => ?_
        refine KT.step rfl rfl (K.load rfl Try.agg3) ?_
        refine KT.step rfl rfl (K.assign rfl) ?_
        refine KT.nil ?_
        refine thenK_n ?_
        refine KC.seq ?_
        refine KC.draw Try.mixed ?_
        rw [natsI_get]
        obtain ⟨s, hs⟩ : ∃ s, s = L[i] := ⟨_, rfl⟩
        rw [← hs]
        have hs64 := hLm _ (List.getElem_mem hiL)
        rw [← hs] at hs64
        have hT6 : trapR pre post s < 2 ^ 6 := Nat.lt_of_le_of_lt (trapN_sub pre post s _) hs64
        refine KT.step rfl rfl (K.loadOA (sysC start.length pre post start) rfl rfl (by decide) Try.agg66 Try.size66 rfl) ?_
        refine KT.step rfl rfl (K.move rfl) ?_
        refine KT.step rfl rfl (K.call2 rfl rfl plainTry_62 (trap62 v6 v5 (by omega))) ?_
        refine KT.step rfl rfl (K.fieldAddrO rfl Try.fld66_3 Try.size64) ?_
        refine KT.step rfl rfl (K.loadOP (m := 6) (off := 0 + 3) (sysC start.length pre post start) rfl rfl (by decide) Try.agg64 Try.size64 (by simp [sysC, w6])) ?_
        rw [show ((sysC start.length pre post start).drop (0 + 3)).take 6 = w6 (tk start) from rfl]
        refine KT.step rfl rfl (K.call1 rfl plainTry_63 (places63 _)) ?_
        refine KT.step rfl rfl (K.band rfl rfl (andI (lt63 hT6 (by decide)) (supp63 _))) ?_
        refine KT.step rfl rfl (K.eql rfl rfl) ?_
        refine KT.nil ?_
        refine ⟨by kernel_rfl, ?_⟩
        refine thenK_n ?_
        refine KC.cond rfl (fun hc29 => ?_) (fun hc29 => ?_)
        · skip
          replace hc29 := of_decide_eq_true hc29
          have hmk : noMark pre post start L[i] = true := by unfold noMark; rw [← hs]; exact decide_eq_true (by omega)
          refine KC.seq ?_
          refine KC.region ?_
          refine KT.step rfl rfl (K.move rfl) ?_
          refine KT.step rfl rfl (K.assign rfl) ?_
          refine KT.step rfl rfl (K.assign rfl) ?_
          refine KT.nil ?_
          refine thenK_n ?_
          refine KC.ret ?_
          refine blockK_r ?_
          refine thenK_r ?_
          refine thenK_r ?_
          refine blockK_r ?_
          refine thenK_r ?_
          refine ⟨.inl rfl, _, rfl, ?_⟩
          rw [if_pos hv, if_pos (show r = true by simpa using hc14)]
          unfold cmnV
          rw [← hL, find_i hiL hall hmk, ← hs]
          rfl
        · skip
          replace hc29 := of_decide_eq_false hc29
          have hmk : noMark pre post start L[i] = false := by unfold noMark; rw [← hs]; exact decide_eq_false (by omega)
          refine KC.skip ?_
          refine blockK_n ?_
          refine thenK_n ?_
          refine KC.region ?_
          refine KT.step rfl rfl (K.add rfl rfl (wrap_id (by omega))) ?_
          refine KT.step rfl rfl (K.move rfl) ?_
          refine KT.nil ?_
          refine thenK_n ?_
          refine ⟨i + 1, ⟨by omega, fun j h hj => ?_⟩, by omega, rfl, by simp [Go.Vm.look, extK]⟩
          by_cases e : j = i
          · subst e; exact hmk
          · exact hall j h (by omega)
      · skip
        replace hc19 := of_decide_eq_false hc19
        refine KC.exit ?_
        refine thenK_x ?_
        refine thenK_x ?_
        refine blockK_e ?_
        refine thenK_n ?_
        refine KC.seq ?_
        refine KC.region ?_
        refine KT.step rfl rfl (K.assign rfl) ?_
        refine KT.step rfl rfl (K.assign rfl) ?_
        refine KT.nil ?_
        refine thenK_n ?_
        refine KC.ret ?_
        refine ⟨.inl rfl, _, rfl, ?_⟩
        rw [if_pos hv, if_pos (show r = true by simpa using hc14)]
        unfold cmnV
        rw [← hL, find_no (i := i) (by omega) hall]; rfl
theorem noMark_touch {pre post : List (List Int)} {start : List Int} {s : Nat} (h6 : start.length ≤ 6) (h0 : ∀ x ∈ start, 0 ≤ x) : (!touchR start (trapR pre post s)) = noMark pre post start s := by
  rw [touch_same h6 h0]
  unfold touchN noMark
  rw [Nat.and_comm]
  by_cases h : trapR pre post s &&& suppX (tk start) 6 = 0 <;> simp [h]
set_option maxHeartbeats 2000000 in
set_option maxRecDepth 10000 in
theorem rCommoner32 {a b c : DV} {pre post : List (List Int)} {start : List Int} {r : Bool} (h : NetD a b c pre post start) (hv : validB pre post start = true) (hr : r = true ↔ FC pre post start.length) : DeepCall Try.prog 32 [.agg [a, b, c]] (if r then cmnV pre post start else .tup [DI 0, DI 7]) := by
  obtain ⟨ha, hb, hc, l1, l2, l3, r1, r2⟩ := h
  obtain ⟨v1, v2, v3, v4, v5, v6, v7, v8⟩ := validB_iff.1 hv
  have rp : ∀ r ∈ pre, r.length = start.length := fun r hr => fitsB_len (allB_mem v7 r hr)
  have rq : ∀ r ∈ post, r.length = start.length := fun r hr => fitsB_len (allB_mem v8 r hr)
  have hp3 : ∀ r ∈ pre, ∀ x ∈ r, 0 ≤ x ∧ x ≤ 3 := fun r h => fitsB_mem (allB_mem v7 r h)
  have hq3 : ∀ r ∈ post, ∀ x ∈ r, 0 ≤ x ∧ x ≤ 3 := fun r h => fitsB_mem (allB_mem v8 r h)
  have hs0 : ∀ x ∈ start, 0 ≤ x := fun x hx => (start_bd hv x hx).1
  refine deepCall_K 5 Try.func32 rfl (Nat.le_of_ble_eq_true rfl) fun M W0 => ?_
  refine KC.seq ?_
  refine KC.region ?_
  refine KT.step rfl rfl (K.box rfl) ?_
  refine KT.step rfl rfl (K.assign rfl) ?_
  refine KT.step rfl rfl (K.assign rfl) ?_
  refine KT.nil ?_
  refine thenK_n ?_
  refine KC.seq ?_
  refine KC.seq ?_
  refine KC.region ?_
  refine KT.step rfl rfl (K.loadOA [a, b, c] rfl rfl (by decide) Try.agg25 Try.size25 rfl) ?_
  refine KT.step rfl rfl (K.call1 rfl plainTry_34 (rFreeChoice34 ha hb hc v2 v6 v5 rp rq hp3 hq3 hr)) ?_
  refine KT.step rfl rfl (K.not rfl) ?_
  refine KT.nil ?_
  refine thenK_n ?_
  refine KC.cond rfl (fun hc8 => ?_) (fun hc8 => ?_)
  · skip
    refine KC.seq ?_
    refine KC.region ?_
    refine KT.step rfl rfl (K.assign rfl) ?_
    refine KT.step rfl rfl (K.assign rfl) ?_
    refine KT.nil ?_
    refine thenK_n ?_
    refine KC.ret ?_
    refine thenK_r ?_
    refine ⟨.inl rfl, _, rfl, ?_⟩
    rw [show r = false from by simpa using hc8]
    rfl
  · skip
    refine KC.skip ?_
    refine thenK_n ?_
    refine KC.seq ?_
    refine KC.seq ?_
    refine KC.region ?_
    refine KT.step rfl rfl (K.loadOA [a, b, c] rfl rfl (by decide) Try.agg25 Try.size25 rfl) ?_
    have c10 := rSiphons68 ha hb hc v2 v6 v5 (good_of v7 v2) (good_of v8 v2)
    rw [refL_sipL] at c10
    refine KT.step rfl rfl (K.call1 rfl plainTry_68 c10) ?_
    clear c10
    obtain ⟨L, hL⟩ : ∃ L, L = sipL pre post (2 ^ start.length) := ⟨_, rfl⟩
    have hLl : L.length ≤ 64 := by rw [hL]; exact Nat.le_trans (sipL_len _ _ _) (pow6 v2)
    have hLm : ∀ x ∈ L, x < 64 := fun x hx => by rw [hL] at hx; have := sipL_lt pre post _ x hx; have := pow6 v2; omega
    rw [← hL]
    have hin := nats_ints L
    have hil := natsI_len L
    generalize slOf (L.map fun n => DI ((n : Nat) : Int)) = sd at hin
    refine KT.step rfl rfl (K.len rfl hin Try.underlying23) ?_
    refine KT.step rfl rfl (K.move rfl) ?_
    refine KT.nil ?_
    refine thenK_n ?_
    refine KC.block ?_
    refine KC.loop (fun _ : Nat => [⟨[.d a, .d b, .d c], 0⟩]) (fun i => [(1, .optr 0 0), (10, .d sd), (11, .d (DI ((natsI L).length : Nat))), (12, .d (DI (i : Nat)))]) (fun i => i ≤ L.length ∧ ∀ j (h : j < L.length), j < i → noMark pre post start L[j] = false) (fun i => L.length - i) 0 ⟨Nat.zero_le _, fun j _ h => absurd h (Nat.not_lt_zero _)⟩ rfl (by simp [Go.Vm.look, extK, enterK]) ?_
    intro i hi
    obtain ⟨hi, hall⟩ := hi
    refine KC.seq ?_
    refine KC.region ?_
    refine KT.step rfl rfl (K.lss rfl rfl) ?_
    refine KT.nil ?_
    refine thenK_n ?_
    refine KC.seq ?_
    refine KC.cond rfl (fun hc13 => ?_) (fun hc13 => ?_)
    · skip
      replace hc13 := of_decide_eq_true hc13
      have hiL : i < L.length := by omega
      refine KC.skip ?_
      refine thenK_n ?_
      refine KC.seq ?_
      refine KC.block ?_
      refine KC.seq ?_
      refine KC.region ?_
      refine KT.idxI rfl rfl rfl (by assumption) rfl (by omega) Try.underlying23 Try.size3 fun cs14 => ?_
      refine KT.step rfl rfl (K.load rfl Try.agg3) ?_
      refine KT.step rfl rfl (K.assign rfl) ?_
      refine KT.nil ?_
      refine thenK_n ?_
      refine KC.seq ?_
      refine KC.draw Try.mixed ?_
      rw [natsI_get]
      obtain ⟨s, hs⟩ : ∃ s, s = L[i] := ⟨_, rfl⟩
      rw [← hs]
      have hs64 := hLm _ (List.getElem_mem hiL)
      rw [← hs] at hs64
      have hT6 : trapR pre post s < 2 ^ 6 := Nat.lt_of_le_of_lt (trapN_sub pre post s _) hs64
      refine KT.step rfl rfl (K.loadOA [a, b, c] rfl rfl (by decide) Try.agg25 Try.size25 rfl) ?_
      refine KT.step rfl rfl (K.loadOA [a, b, c] rfl rfl (by decide) Try.agg25 Try.size25 rfl) ?_
      refine KT.step rfl rfl (K.move rfl) ?_
      refine KT.step rfl rfl (K.call2 rfl rfl plainTry_70 (rTrap70 (set := s) ha hb hc v6 v4 v5 (good_of v7 v2) (good_of v8 v2) hs64)) ?_
      refine KT.step rfl rfl (K.call2 rfl rfl plainTry_69 (marked69 (set := trapR pre post s) hc v2 (lt63 hT6 (by decide)))) ?_
      refine KT.step rfl rfl (K.not rfl) ?_
      refine KT.nil ?_
      refine ⟨by kernel_rfl, ?_⟩
      refine thenK_n ?_
      refine KC.cond rfl (fun hc21 => ?_) (fun hc21 => ?_)
      · skip
        have hmk : noMark pre post start L[i] = true := by rw [← hs, ← noMark_touch v2 hs0]; exact hc21
        refine KC.seq ?_
        refine KC.region ?_
        refine KT.step rfl rfl (K.move rfl) ?_
        refine KT.step rfl rfl (K.assign rfl) ?_
        refine KT.step rfl rfl (K.assign rfl) ?_
        refine KT.nil ?_
        refine thenK_n ?_
        refine KC.ret ?_
        refine blockK_r ?_
        refine thenK_r ?_
        refine thenK_r ?_
        refine blockK_r ?_
        refine thenK_r ?_
        refine ⟨.inl rfl, _, rfl, ?_⟩
        rw [if_pos (show r = true by simpa using hc8)]
        unfold cmnV
        rw [← hL, find_i hiL hall hmk, ← hs]
        rfl
      · skip
        have hmk : noMark pre post start L[i] = false := by rw [← hs, ← noMark_touch v2 hs0]; exact hc21
        refine KC.skip ?_
        refine blockK_n ?_
        refine thenK_n ?_
        refine KC.region ?_
        refine KT.step rfl rfl (K.add rfl rfl (wrap_id (by omega))) ?_
        refine KT.step rfl rfl (K.move rfl) ?_
        refine KT.nil ?_
        refine thenK_n ?_
        refine ⟨i + 1, ⟨by omega, fun j h hj => ?_⟩, by omega, rfl, by simp [Go.Vm.look, extK]⟩
        by_cases e : j = i
        · subst e; exact hmk
        · exact hall j h (by omega)
    · skip
      replace hc13 := of_decide_eq_false hc13
      refine KC.exit ?_
      refine thenK_x ?_
      refine thenK_x ?_
      refine blockK_e ?_
      refine thenK_n ?_
      refine KC.seq ?_
      refine KC.region ?_
      refine KT.step rfl rfl (K.assign rfl) ?_
      refine KT.step rfl rfl (K.assign rfl) ?_
      refine KT.nil ?_
      refine thenK_n ?_
      refine KC.ret ?_
      refine ⟨.inl rfl, _, rfl, ?_⟩
      rw [if_pos (show r = true by simpa using hc8)]
      unfold cmnV
      rw [← hL, find_no (i := i) (by omega) hall]
      rfl
end Go.Proofs.Ytocgjopmlhpjdaa

