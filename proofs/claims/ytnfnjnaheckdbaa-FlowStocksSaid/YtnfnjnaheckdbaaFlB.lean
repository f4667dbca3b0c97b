import Derived.Test.YtnfnjnaheckdbaaFlA
/-
  Dataflow graphs: which are valid.
-/
namespace Go.Proofs.Ytnfnjnaheckdbaa
open Go.Vm Go.Fl
theorem plainTry_73 : plainFn Try.prog 73 = true := by kernel_rfl
theorem plainTry_35 : plainFn Try.prog 35 = true := by kernel_rfl

def okZ (n : Int) (l : LZ) : Bool := decide (0 ≤ l.f) && decide (l.f ≤ n - 1) && (decide (0 ≤ l.t) && decide (l.t ≤ n - 1)) && (decide (1 ≤ l.g) && decide (l.g ≤ 6)) && (decide (1 ≤ l.k) && decide (l.k ≤ 6)) && (decide (0 ≤ l.s) && decide (l.s ≤ 20))
def validB (n : Int) (L : List LZ) : Bool := decide (1 ≤ n) && decide (n ≤ 6) && decide (L.length ≤ 10) && L.all (okZ n)
theorem okZ_iff {n : Int} {l : LZ} : okZ n l = true ↔ 0 ≤ l.f ∧ l.f ≤ n - 1 ∧ 0 ≤ l.t ∧ l.t ≤ n - 1 ∧ 1 ≤ l.g ∧ l.g ≤ 6 ∧ 1 ≤ l.k ∧ l.k ≤ 6 ∧ 0 ≤ l.s ∧ l.s ≤ 20 := by
  simp only [okZ, Bool.and_eq_true, decide_eq_true_eq]
  constructor
  · rintro ⟨⟨⟨⟨⟨a, b⟩, c, d⟩, e, f⟩, g, h⟩, i, j⟩; exact ⟨a, b, c, d, e, f, g, h, i, j⟩
  · rintro ⟨a, b, c, d, e, f, g, h, i, j⟩; exact ⟨⟨⟨⟨⟨a, b⟩, c, d⟩, e, f⟩, g, h⟩, i, j⟩
theorem validB_iff {n : Int} {L : List LZ} : validB n L = true ↔ 1 ≤ n ∧ n ≤ 6 ∧ L.length ≤ 10 ∧ L.all (okZ n) = true := by
  simp only [validB, Bool.and_eq_true, decide_eq_true_eq]
  constructor
  · rintro ⟨⟨⟨a, b⟩, c⟩, d⟩; exact ⟨a, b, c, d⟩
  · rintro ⟨a, b, c, d⟩; exact ⟨⟨⟨a, b⟩, c⟩, d⟩
theorem valid_no {n : Int} {L : List LZ} (h : n < 1 ∨ 6 < n ∨ 10 < L.length) : validB n L = false := by
  refine Bool.eq_false_iff.2 fun hv => ?_
  have := validB_iff.1 hv
  omega
theorem valid_bad {n : Int} {L : List LZ} {i : Nat} (hi : i < L.length) (h : okZ n L[i] = false) : validB n L = false := by
  unfold validB; rw [all_false hi h, Bool.and_false]
theorem valid_end {n : Int} {L : List LZ} {i : Nat} (h1 : 1 ≤ n) (h2 : n ≤ 6) (h3 : L.length ≤ 10) (hi : L.length ≤ i) (h : (L.take i).all (okZ n) = true) : validB n L = true :=
  validB_iff.2 ⟨h1, h2, h3, all_end hi h⟩
/-- A valid graph, in natural numbers. -/
theorem valid_nat {n : Int} {L : List LZ} (h : validB n L = true) : ∃ (N : Nat) (Ln : List LN), n = (N : Int) ∧ 1 ≤ N ∧ N ≤ 6 ∧ L = Ln.map LN.z ∧ Ln.length ≤ 10 ∧ ∀ l ∈ Ln, OkL N l := by
  obtain ⟨h1, h2, h3, h4⟩ := validB_iff.1 h
  refine ⟨n.toNat, L.map fun l => ⟨l.f.toNat, l.t.toNat, l.g.toNat, l.k.toNat, l.s.toNat⟩, by omega, by omega, by omega, ?_, by simpa using h3, ?_⟩
  · rw [List.map_map]
    refine (List.ext_getElem (by simp) fun i hi hi2 => ?_).symm
    have := okZ_iff.1 (List.all_eq_true.1 h4 L[i] (List.getElem_mem _))
    simp only [List.getElem_map, Function.comp, LN.z]
    obtain ⟨a, b, c, d, e, f, g, hh, i', j⟩ := this
    rw [Int.toNat_of_nonneg a, Int.toNat_of_nonneg c, Int.toNat_of_nonneg (by omega), Int.toNat_of_nonneg (by omega), Int.toNat_of_nonneg i']
  · intro l hl
    obtain ⟨z, hz, rfl⟩ := List.mem_map.1 hl
    have := okZ_iff.1 (List.all_eq_true.1 h4 z hz)
    exact ⟨by simp only; omega, by simp only; omega, by simp only; omega, by simp only; omega, by simp only; omega, by simp only; omega, by simp only; omega⟩
set_option maxRecDepth 10000 in
theorem valid73 {d : DV} {n : Int} {L : List LZ} (hL : Lks d L) (hl : L.length ≤ 9223372036854775807) : DeepCall Try.prog 73 [.agg [DI n, d]] (DB (validB n L)) := by
  refine deepCall_K 5 Try.func73 rfl (Nat.le_of_ble_eq_true rfl) fun M W0 => ?_
  refine KC.seq ?_
  refine KC.region ?_
  refine KT.step rfl rfl (K.box rfl) ?_
  refine KT.step rfl rfl (K.assign rfl) ?_
  refine KT.nil ?_
  refine thenK_n ?_
  refine KC.seq ?_
  refine KC.seq ?_
  refine KC.region ?_
  refine KT.step rfl rfl (K.fieldAddrO rfl Try.fld31_0 Try.size3) ?_
  refine KT.step rfl rfl (K.loadO rfl rfl (by simp) rfl Try.agg3) ?_
  refine KT.step rfl rfl (K.lss rfl rfl) ?_
  refine KT.step rfl rfl (K.move rfl) ?_
  refine KT.bcase (fun hb8 => ?_) (fun hb8 => ?_)
  · skip
    replace hb8 := of_decide_eq_true hb8
    refine KT.skip rfl rfl ?_
    refine KT.skip rfl rfl ?_
    refine KT.skip rfl rfl ?_
    refine KT.step rfl rfl (K.pick rfl (fun _ => rfl) (fun h => by cases h)) ?_
    refine KT.step rfl rfl (K.move rfl) ?_
    refine KT.skip rfl rfl ?_
    refine KT.skip rfl rfl ?_
    refine KT.skip rfl rfl ?_
    refine KT.skip rfl rfl ?_
    refine KT.step rfl rfl (K.pick rfl (fun _ => rfl) (fun h => by cases h)) ?_
    refine KT.nil ?_
    refine thenK_n ?_
    refine KC.cond rfl (fun hc18 => ?_) (fun hc18 => ?_)
    · skip
      refine KC.seq ?_
      refine KC.region ?_
      refine KT.step rfl rfl (K.assign rfl) ?_
      refine KT.nil ?_
      refine thenK_n ?_
      refine KC.ret ?_
      refine thenK_r ?_
      exact ⟨.inl rfl, _, rfl, fin_b (valid_no (by omega))⟩
    · cases hc18
  · skip
    replace hb8 := of_decide_eq_false hb8
    refine KT.step rfl rfl (K.fieldAddrO rfl Try.fld31_0 Try.size3) ?_
    refine KT.step rfl rfl (K.loadO rfl rfl (by simp) rfl Try.agg3) ?_
    refine KT.step rfl rfl (K.gtr rfl rfl) ?_
    refine KT.step rfl rfl (K.pick rfl (fun h => by cases h) (fun _ => rfl)) ?_
    refine KT.step rfl rfl (K.move rfl) ?_
    refine KT.bcase (fun hb13 => ?_) (fun hb13 => ?_)
    · skip
      replace hb13 := of_decide_eq_true hb13
      refine KT.skip rfl rfl ?_
      refine KT.skip rfl rfl ?_
      refine KT.skip rfl rfl ?_
      refine KT.skip rfl rfl ?_
      refine KT.step rfl rfl (K.pick rfl (fun _ => rfl) (fun h => by cases h)) ?_
      refine KT.nil ?_
      refine thenK_n ?_
      refine KC.cond rfl (fun hc18 => ?_) (fun hc18 => ?_)
      · skip
        refine KC.seq ?_
        refine KC.region ?_
        refine KT.step rfl rfl (K.assign rfl) ?_
        refine KT.nil ?_
        refine thenK_n ?_
        refine KC.ret ?_
        refine thenK_r ?_
        exact ⟨.inl rfl, _, rfl, fin_b (valid_no (by omega))⟩
      · cases hc18
    · skip
      replace hb13 := of_decide_eq_false hb13
      refine KT.step rfl rfl (K.fieldAddrO rfl Try.fld31_1 Try.size29) ?_
      refine KT.step rfl rfl (K.loadO rfl rfl (by simp) rfl Try.agg29) ?_
      refine KT.step rfl rfl (K.lenL rfl hL Try.underlying29) ?_
      refine KT.step rfl rfl (K.gtr rfl rfl) ?_
      refine KT.step rfl rfl (K.pick rfl (fun h => by cases h) (fun _ => rfl)) ?_
      refine KT.nil ?_
      refine thenK_n ?_
      refine KC.cond rfl (fun hc18 => ?_) (fun hc18 => ?_)
      · skip
        replace hc18 := of_decide_eq_true hc18
        refine KC.seq ?_
        refine KC.region ?_
        refine KT.step rfl rfl (K.assign rfl) ?_
        refine KT.nil ?_
        refine thenK_n ?_
        refine KC.ret ?_
        refine thenK_r ?_
        exact ⟨.inl rfl, _, rfl, fin_b (valid_no (by omega))⟩
      · skip
        replace hc18 := of_decide_eq_false hc18
        refine KC.skip ?_
        refine thenK_n ?_
        refine KC.seq ?_
        refine KC.seq ?_
        refine KC.region ?_
        refine KT.step rfl rfl (K.fieldAddrO rfl Try.fld31_1 Try.size29) ?_
        refine KT.step rfl rfl (K.loadO rfl rfl (by simp) rfl Try.agg29) ?_
        refine KT.step rfl rfl (K.lenL rfl hL Try.underlying29) ?_
        refine KT.step rfl rfl (K.move rfl) ?_
        refine KT.nil ?_
        refine thenK_n ?_
        refine KC.block ?_
        refine KC.loop (fun p : List VObj × Nat => p.1) (fun p => [(1, .optr 0 0), (20, .d d), (21, .d (DI (L.length : Nat))), (22, .d (DI (p.2 : Nat)))]) (fun p => p.2 ≤ L.length ∧ (L.take p.2).all (okZ n) = true ∧ p.1[0]? = some ⟨[.d (DI n), .d d], 0⟩) (fun p => L.length - p.2) (_, 0) ⟨Nat.zero_le _, by simp, rfl⟩ rfl (by simp [Go.Vm.look, extK, enterK]) ?_
        intro p hp
        obtain ⟨σ0, i⟩ := p
        obtain ⟨hi, hall, y0⟩ := hp
        simp only at hi hall y0 ⊢
        have g0 := (List.getElem?_eq_some_iff.1 y0).1
        refine KC.seq ?_
        refine KC.region ?_
        refine KT.step rfl rfl (K.lss rfl rfl) ?_
        refine KT.nil ?_
        refine thenK_n ?_
        refine KC.seq ?_
        refine KC.cond rfl (fun hc23 => ?_) (fun hc23 => ?_)
        · skip
          replace hc23 := of_decide_eq_true hc23
          have hil : i < L.length := by omega
          refine KC.skip ?_
          refine thenK_n ?_
          refine KC.seq ?_
          refine KC.block ?_
          refine KC.seq ?_
          refine KC.region ?_
          refine KT.step rfl rfl (K.idxL rfl hL rfl hil Try.underlying29 Try.size62) ?_
          refine KT.step rfl rfl (K.loadL hil rfl Try.agg62 Try.size62) ?_
          refine KT.step rfl rfl (K.alloc Try.zero62) ?_
          refine KT.storeH (cs := (lk5 L[i]).map XV.d) rfl rfl rfl rfl (List.getElem?_concat_length ..) rfl (Nat.le_refl _) rfl Try.size62 fun σ1 l1 u1 v1 => ?_
          simp only [List.length_append, List.length_cons, List.length_nil] at l1
          replace u1 := u1.trans (congrArg (fun c => some (VObj.mk c 0)) (splice_all (by rfl)))
          have y0 := (v1 (0) (by omega)).trans ((List.getElem?_append_left (by omega)).trans y0)
          refine KT.nil ?_
          refine thenK_n ?_
          refine KC.seq ?_
          refine KC.region ?_
          refine KT.step rfl rfl (K.fieldAddrO rfl Try.fld62_0 Try.size3) ?_
          refine KT.step rfl rfl (K.loadO rfl u1 (by simp) rfl Try.agg3) ?_
          refine KT.step rfl rfl (K.fieldAddrO rfl Try.fld31_0 Try.size3) ?_
          refine KT.step rfl rfl (K.loadO rfl y0 (by simp) rfl Try.agg3) ?_
          refine KT.step rfl rfl (K.sub rfl rfl (wrap_id (by omega))) ?_
          refine KT.step rfl rfl (K.call3 rfl rfl rfl plainTry_87 (within87 _ _ _)) ?_
          refine KT.step rfl rfl (K.not rfl) ?_
          refine KT.step rfl rfl (K.move rfl) ?_
          refine KT.bcase (fun hb33 => ?_) (fun hb33 => ?_)
          · skip
            refine KT.skip rfl rfl ?_
            refine KT.skip rfl rfl ?_
            refine KT.skip rfl rfl ?_
            refine KT.skip rfl rfl ?_
            refine KT.skip rfl rfl ?_
            refine KT.skip rfl rfl ?_
            refine KT.skip rfl rfl ?_
            refine KT.step rfl rfl (K.pick rfl (fun _ => rfl) (fun h => by cases h)) ?_
            refine KT.step rfl rfl (K.move rfl) ?_
            refine KT.skip rfl rfl ?_
            refine KT.skip rfl rfl ?_
            refine KT.skip rfl rfl ?_
            refine KT.skip rfl rfl ?_
            refine KT.step rfl rfl (K.pick rfl (fun _ => rfl) (fun h => by cases h)) ?_
            refine KT.step rfl rfl (K.move rfl) ?_
            refine KT.skip rfl rfl ?_
            refine KT.skip rfl rfl ?_
            refine KT.skip rfl rfl ?_
            refine KT.skip rfl rfl ?_
            refine KT.step rfl rfl (K.pick rfl (fun _ => rfl) (fun h => by cases h)) ?_
            refine KT.step rfl rfl (K.move rfl) ?_
            refine KT.skip rfl rfl ?_
            refine KT.skip rfl rfl ?_
            refine KT.skip rfl rfl ?_
            refine KT.skip rfl rfl ?_
            refine KT.step rfl rfl (K.pick rfl (fun _ => rfl) (fun h => by cases h)) ?_
            refine KT.nil ?_
            refine thenK_n ?_
            refine KC.cond rfl (fun hc59 => ?_) (fun hc59 => ?_)
            · skip
              refine KC.seq ?_
              refine KC.region ?_
              refine KT.step rfl rfl (K.assign rfl) ?_
              refine KT.nil ?_
              refine thenK_n ?_
              refine KC.ret ?_
              refine blockK_r ?_
              refine thenK_r ?_
              refine thenK_r ?_
              refine blockK_r ?_
              refine thenK_r ?_
              refine ⟨.inl rfl, _, rfl, fin_b (valid_bad (i := i) hil ?_)⟩
              refine Bool.eq_false_iff.2 fun hv => ?_
              have hv := okZ_iff.1 hv
              simp_all
              try omega
            · cases hc59
          · skip
            refine KT.step rfl rfl (K.fieldAddrO rfl Try.fld62_1 Try.size3) ?_
            refine KT.step rfl rfl (K.loadO rfl u1 (by simp) rfl Try.agg3) ?_
            refine KT.step rfl rfl (K.fieldAddrO rfl Try.fld31_0 Try.size3) ?_
            refine KT.step rfl rfl (K.loadO rfl y0 (by simp) rfl Try.agg3) ?_
            refine KT.step rfl rfl (K.sub rfl rfl (wrap_id (by omega))) ?_
            refine KT.step rfl rfl (K.call3 rfl rfl rfl plainTry_87 (within87 _ _ _)) ?_
            refine KT.step rfl rfl (K.not rfl) ?_
            refine KT.step rfl rfl (K.pick rfl (fun h => by cases h) (fun _ => rfl)) ?_
            refine KT.step rfl rfl (K.move rfl) ?_
            refine KT.bcase (fun hb42 => ?_) (fun hb42 => ?_)
            · skip
              refine KT.skip rfl rfl ?_
              refine KT.skip rfl rfl ?_
              refine KT.skip rfl rfl ?_
              refine KT.skip rfl rfl ?_
              refine KT.step rfl rfl (K.pick rfl (fun _ => rfl) (fun h => by cases h)) ?_
              refine KT.step rfl rfl (K.move rfl) ?_
              refine KT.skip rfl rfl ?_
              refine KT.skip rfl rfl ?_
              refine KT.skip rfl rfl ?_
              refine KT.skip rfl rfl ?_
              refine KT.step rfl rfl (K.pick rfl (fun _ => rfl) (fun h => by cases h)) ?_
              refine KT.step rfl rfl (K.move rfl) ?_
              refine KT.skip rfl rfl ?_
              refine KT.skip rfl rfl ?_
              refine KT.skip rfl rfl ?_
              refine KT.skip rfl rfl ?_
              refine KT.step rfl rfl (K.pick rfl (fun _ => rfl) (fun h => by cases h)) ?_
              refine KT.nil ?_
              refine thenK_n ?_
              refine KC.cond rfl (fun hc59 => ?_) (fun hc59 => ?_)
              · skip
                refine KC.seq ?_
                refine KC.region ?_
                refine KT.step rfl rfl (K.assign rfl) ?_
                refine KT.nil ?_
                refine thenK_n ?_
                refine KC.ret ?_
                refine blockK_r ?_
                refine thenK_r ?_
                refine thenK_r ?_
                refine blockK_r ?_
                refine thenK_r ?_
                refine ⟨.inl rfl, _, rfl, fin_b (valid_bad (i := i) hil ?_)⟩
                refine Bool.eq_false_iff.2 fun hv => ?_
                have hv := okZ_iff.1 hv
                simp_all
                try omega
              · cases hc59
            · skip
              refine KT.step rfl rfl (K.fieldAddrO rfl Try.fld62_2 Try.size3) ?_
              refine KT.step rfl rfl (K.loadO rfl u1 (by simp) rfl Try.agg3) ?_
              refine KT.step rfl rfl (K.call3 rfl rfl rfl plainTry_87 (within87 _ _ _)) ?_
              refine KT.step rfl rfl (K.not rfl) ?_
              refine KT.step rfl rfl (K.pick rfl (fun h => by cases h) (fun _ => rfl)) ?_
              refine KT.step rfl rfl (K.move rfl) ?_
              refine KT.bcase (fun hb48 => ?_) (fun hb48 => ?_)
              · skip
                refine KT.skip rfl rfl ?_
                refine KT.skip rfl rfl ?_
                refine KT.skip rfl rfl ?_
                refine KT.skip rfl rfl ?_
                refine KT.step rfl rfl (K.pick rfl (fun _ => rfl) (fun h => by cases h)) ?_
                refine KT.step rfl rfl (K.move rfl) ?_
                refine KT.skip rfl rfl ?_
                refine KT.skip rfl rfl ?_
                refine KT.skip rfl rfl ?_
                refine KT.skip rfl rfl ?_
                refine KT.step rfl rfl (K.pick rfl (fun _ => rfl) (fun h => by cases h)) ?_
                refine KT.nil ?_
                refine thenK_n ?_
                refine KC.cond rfl (fun hc59 => ?_) (fun hc59 => ?_)
                · skip
                  refine KC.seq ?_
                  refine KC.region ?_
                  refine KT.step rfl rfl (K.assign rfl) ?_
                  refine KT.nil ?_
                  refine thenK_n ?_
                  refine KC.ret ?_
                  refine blockK_r ?_
                  refine thenK_r ?_
                  refine thenK_r ?_
                  refine blockK_r ?_
                  refine thenK_r ?_
                  refine ⟨.inl rfl, _, rfl, fin_b (valid_bad (i := i) hil ?_)⟩
                  refine Bool.eq_false_iff.2 fun hv => ?_
                  have hv := okZ_iff.1 hv
                  simp_all
                  try omega
                · cases hc59
              · skip
                refine KT.step rfl rfl (K.fieldAddrO rfl Try.fld62_3 Try.size3) ?_
                refine KT.step rfl rfl (K.loadO rfl u1 (by simp) rfl Try.agg3) ?_
                refine KT.step rfl rfl (K.call3 rfl rfl rfl plainTry_87 (within87 _ _ _)) ?_
                refine KT.step rfl rfl (K.not rfl) ?_
                refine KT.step rfl rfl (K.pick rfl (fun h => by cases h) (fun _ => rfl)) ?_
                refine KT.step rfl rfl (K.move rfl) ?_
                refine KT.bcase (fun hb54 => ?_) (fun hb54 => ?_)
                · skip
                  refine KT.skip rfl rfl ?_
                  refine KT.skip rfl rfl ?_
                  refine KT.skip rfl rfl ?_
                  refine KT.skip rfl rfl ?_
                  refine KT.step rfl rfl (K.pick rfl (fun _ => rfl) (fun h => by cases h)) ?_
                  refine KT.nil ?_
                  refine thenK_n ?_
                  refine KC.cond rfl (fun hc59 => ?_) (fun hc59 => ?_)
                  · skip
                    refine KC.seq ?_
                    refine KC.region ?_
                    refine KT.step rfl rfl (K.assign rfl) ?_
                    refine KT.nil ?_
                    refine thenK_n ?_
                    refine KC.ret ?_
                    refine blockK_r ?_
                    refine thenK_r ?_
                    refine thenK_r ?_
                    refine blockK_r ?_
                    refine thenK_r ?_
                    refine ⟨.inl rfl, _, rfl, fin_b (valid_bad (i := i) hil ?_)⟩
                    refine Bool.eq_false_iff.2 fun hv => ?_
                    have hv := okZ_iff.1 hv
                    simp_all
                    try omega
                  · cases hc59
                · skip
                  refine KT.step rfl rfl (K.fieldAddrO rfl Try.fld62_4 Try.size3) ?_
                  refine KT.step rfl rfl (K.loadO rfl u1 (by simp) rfl Try.agg3) ?_
                  refine KT.step rfl rfl (K.call3 rfl rfl rfl plainTry_87 (within87 _ _ _)) ?_
                  refine KT.step rfl rfl (K.not rfl) ?_
                  refine KT.step rfl rfl (K.pick rfl (fun h => by cases h) (fun _ => rfl)) ?_
                  refine KT.nil ?_
                  refine thenK_n ?_
                  refine KC.cond rfl (fun hc59 => ?_) (fun hc59 => ?_)
                  · skip
                    refine KC.seq ?_
                    refine KC.region ?_
                    refine KT.step rfl rfl (K.assign rfl) ?_
                    refine KT.nil ?_
                    refine thenK_n ?_
                    refine KC.ret ?_
                    refine blockK_r ?_
                    refine thenK_r ?_
                    refine thenK_r ?_
                    refine blockK_r ?_
                    refine thenK_r ?_
                    refine ⟨.inl rfl, _, rfl, fin_b (valid_bad (i := i) hil ?_)⟩
                    refine Bool.eq_false_iff.2 fun hv => ?_
                    have hv := okZ_iff.1 hv
                    simp_all
                    try omega
                  · skip
                    refine KC.skip ?_
                    refine blockK_n ?_
                    refine thenK_n ?_
                    refine KC.region ?_
                    refine KT.step rfl rfl (K.add rfl rfl (wrap_id (by omega))) ?_
                    refine KT.step rfl rfl (K.move rfl) ?_
                    refine KT.nil ?_
                    refine thenK_n ?_
                    refine ⟨(σ1, i + 1), ⟨by simp only; omega, ?_, y0⟩, by simp only; omega, rfl, by simp [Go.Vm.look, extK]⟩
                    rw [all_take _ hil, hall, Bool.true_and, okZ_iff]
                    simp_all
                    try omega
        · skip
          replace hc23 := of_decide_eq_false hc23
          refine KC.exit ?_
          refine thenK_x ?_
          refine thenK_x ?_
          refine blockK_e ?_
          refine thenK_n ?_
          refine KC.seq ?_
          refine KC.region ?_
          refine KT.step rfl rfl (K.assign rfl) ?_
          refine KT.nil ?_
          refine thenK_n ?_
          refine KC.ret ?_
          exact ⟨.inl rfl, _, rfl, fin_b (valid_end (by omega) (by omega) (by omega) (by omega) hall)⟩
set_option maxRecDepth 10000 in
theorem rvalid35 {d : DV} {n : Int} {L : List LZ} (hL : Lks d L) (hl : L.length ≤ 9223372036854775807) : DeepCall Try.prog 35 [.agg [DI n, d]] (DB (validB n L)) := by
  refine deepCall_K 5 Try.func35 rfl (Nat.le_of_ble_eq_true rfl) fun M W0 => ?_
  refine KC.seq ?_
  refine KC.region ?_
  refine KT.step rfl rfl (K.box rfl) ?_
  refine KT.step rfl rfl (K.assign rfl) ?_
  refine KT.nil ?_
  refine thenK_n ?_
  refine KC.seq ?_
  refine KC.seq ?_
  refine KC.region ?_
  refine KT.step rfl rfl (K.fieldAddrO rfl Try.fld24_0 Try.size3) ?_
  refine KT.step rfl rfl (K.loadO rfl rfl (by simp) rfl Try.agg3) ?_
  refine KT.step rfl rfl (K.lss rfl rfl) ?_
  refine KT.step rfl rfl (K.move rfl) ?_
  refine KT.bcase (fun hb8 => ?_) (fun hb8 => ?_)
  · skip
    replace hb8 := of_decide_eq_true hb8
    refine KT.skip rfl rfl ?_
    refine KT.skip rfl rfl ?_
    refine KT.skip rfl rfl ?_
    refine KT.step rfl rfl (K.pick rfl (fun _ => rfl) (fun h => by cases h)) ?_
    refine KT.step rfl rfl (K.move rfl) ?_
    refine KT.skip rfl rfl ?_
    refine KT.skip rfl rfl ?_
    refine KT.skip rfl rfl ?_
    refine KT.skip rfl rfl ?_
    refine KT.step rfl rfl (K.pick rfl (fun _ => rfl) (fun h => by cases h)) ?_
    refine KT.nil ?_
    refine thenK_n ?_
    refine KC.cond rfl (fun hc18 => ?_) (fun hc18 => ?_)
    · skip
      refine KC.seq ?_
      refine KC.region ?_
      refine KT.step rfl rfl (K.assign rfl) ?_
      refine KT.nil ?_
      refine thenK_n ?_
      refine KC.ret ?_
      refine thenK_r ?_
      exact ⟨.inl rfl, _, rfl, fin_b (valid_no (by omega))⟩
    · cases hc18
  · skip
    replace hb8 := of_decide_eq_false hb8
    refine KT.step rfl rfl (K.fieldAddrO rfl Try.fld24_0 Try.size3) ?_
    refine KT.step rfl rfl (K.loadO rfl rfl (by simp) rfl Try.agg3) ?_
    refine KT.step rfl rfl (K.gtr rfl rfl) ?_
    refine KT.step rfl rfl (K.pick rfl (fun h => by cases h) (fun _ => rfl)) ?_
    refine KT.step rfl rfl (K.move rfl) ?_
    refine KT.bcase (fun hb13 => ?_) (fun hb13 => ?_)
    · skip
      replace hb13 := of_decide_eq_true hb13
      refine KT.skip rfl rfl ?_
      refine KT.skip rfl rfl ?_
      refine KT.skip rfl rfl ?_
      refine KT.skip rfl rfl ?_
      refine KT.step rfl rfl (K.pick rfl (fun _ => rfl) (fun h => by cases h)) ?_
      refine KT.nil ?_
      refine thenK_n ?_
      refine KC.cond rfl (fun hc18 => ?_) (fun hc18 => ?_)
      · skip
        refine KC.seq ?_
        refine KC.region ?_
        refine KT.step rfl rfl (K.assign rfl) ?_
        refine KT.nil ?_
        refine thenK_n ?_
        refine KC.ret ?_
        refine thenK_r ?_
        exact ⟨.inl rfl, _, rfl, fin_b (valid_no (by omega))⟩
      · cases hc18
    · skip
      replace hb13 := of_decide_eq_false hb13
      refine KT.step rfl rfl (K.fieldAddrO rfl Try.fld24_1 Try.size22) ?_
      refine KT.step rfl rfl (K.loadO rfl rfl (by simp) rfl Try.agg22) ?_
      refine KT.step rfl rfl (K.lenL rfl hL Try.underlying22) ?_
      refine KT.step rfl rfl (K.gtr rfl rfl) ?_
      refine KT.step rfl rfl (K.pick rfl (fun h => by cases h) (fun _ => rfl)) ?_
      refine KT.nil ?_
      refine thenK_n ?_
      refine KC.cond rfl (fun hc18 => ?_) (fun hc18 => ?_)
      · skip
        replace hc18 := of_decide_eq_true hc18
        refine KC.seq ?_
        refine KC.region ?_
        refine KT.step rfl rfl (K.assign rfl) ?_
        refine KT.nil ?_
        refine thenK_n ?_
        refine KC.ret ?_
        refine thenK_r ?_
        exact ⟨.inl rfl, _, rfl, fin_b (valid_no (by omega))⟩
      · skip
        replace hc18 := of_decide_eq_false hc18
        refine KC.skip ?_
        refine thenK_n ?_
        refine KC.seq ?_
        refine KC.seq ?_
        refine KC.region ?_
        refine KT.step rfl rfl (K.fieldAddrO rfl Try.fld24_1 Try.size22) ?_
        refine KT.step rfl rfl (K.loadO rfl rfl (by simp) rfl Try.agg22) ?_
        refine KT.step rfl rfl (K.lenL rfl hL Try.underlying22) ?_
        refine KT.step rfl rfl (K.move rfl) ?_
        refine KT.nil ?_
        refine thenK_n ?_
        refine KC.block ?_
        refine KC.loop (fun p : List VObj × Nat => p.1) (fun p => [(1, .optr 0 0), (20, .d d), (21, .d (DI (L.length : Nat))), (22, .d (DI (p.2 : Nat)))]) (fun p => p.2 ≤ L.length ∧ (L.take p.2).all (okZ n) = true ∧ p.1[0]? = some ⟨[.d (DI n), .d d], 0⟩) (fun p => L.length - p.2) (_, 0) ⟨Nat.zero_le _, by simp, rfl⟩ rfl (by simp [Go.Vm.look, extK, enterK]) ?_
        intro p hp
        obtain ⟨σ0, i⟩ := p
        obtain ⟨hi, hall, y0⟩ := hp
        simp only at hi hall y0 ⊢
        have g0 := (List.getElem?_eq_some_iff.1 y0).1
        refine KC.seq ?_
        refine KC.region ?_
        refine KT.step rfl rfl (K.lss rfl rfl) ?_
        refine KT.nil ?_
        refine thenK_n ?_
        refine KC.seq ?_
        refine KC.cond rfl (fun hc23 => ?_) (fun hc23 => ?_)
        · skip
          replace hc23 := of_decide_eq_true hc23
          have hil : i < L.length := by omega
          refine KC.skip ?_
          refine thenK_n ?_
          refine KC.seq ?_
          refine KC.block ?_
          refine KC.seq ?_
          refine KC.region ?_
          refine KT.step rfl rfl (K.idxL rfl hL rfl hil Try.underlying22 Try.size57) ?_
          refine KT.step rfl rfl (K.loadL hil rfl Try.agg57 Try.size57) ?_
          refine KT.step rfl rfl (K.alloc Try.zero57) ?_
          refine KT.storeH (cs := (lk5 L[i]).map XV.d) rfl rfl rfl rfl (List.getElem?_concat_length ..) rfl (Nat.le_refl _) rfl Try.size57 fun σ1 l1 u1 v1 => ?_
          simp only [List.length_append, List.length_cons, List.length_nil] at l1
          replace u1 := u1.trans (congrArg (fun c => some (VObj.mk c 0)) (splice_all (by rfl)))
          have y0 := (v1 (0) (by omega)).trans ((List.getElem?_append_left (by omega)).trans y0)
          refine KT.nil ?_
          refine thenK_n ?_
          refine KC.seq ?_
          refine KC.region ?_
          refine KT.step rfl rfl (K.fieldAddrO rfl Try.fld57_0 Try.size3) ?_
          refine KT.step rfl rfl (K.loadO rfl u1 (by simp) rfl Try.agg3) ?_
          refine KT.step rfl rfl (K.lss rfl rfl) ?_
          refine KT.step rfl rfl (K.move rfl) ?_
          refine KT.bcase (fun hb29 => ?_) (fun hb29 => ?_)
          · skip
            replace hb29 := of_decide_eq_true hb29
            refine KT.skip rfl rfl ?_
            refine KT.skip rfl rfl ?_
            refine KT.skip rfl rfl ?_
            refine KT.skip rfl rfl ?_
            refine KT.skip rfl rfl ?_
            refine KT.step rfl rfl (K.pick rfl (fun _ => rfl) (fun h => by cases h)) ?_
            refine KT.step rfl rfl (K.move rfl) ?_
            refine KT.skip rfl rfl ?_
            refine KT.skip rfl rfl ?_
            refine KT.skip rfl rfl ?_
            refine KT.step rfl rfl (K.pick rfl (fun _ => rfl) (fun h => by cases h)) ?_
            refine KT.step rfl rfl (K.move rfl) ?_
            refine KT.skip rfl rfl ?_
            refine KT.skip rfl rfl ?_
            refine KT.skip rfl rfl ?_
            refine KT.skip rfl rfl ?_
            refine KT.skip rfl rfl ?_
            refine KT.step rfl rfl (K.pick rfl (fun _ => rfl) (fun h => by cases h)) ?_
            refine KT.step rfl rfl (K.move rfl) ?_
            refine KT.skip rfl rfl ?_
            refine KT.skip rfl rfl ?_
            refine KT.skip rfl rfl ?_
            refine KT.step rfl rfl (K.pick rfl (fun _ => rfl) (fun h => by cases h)) ?_
            refine KT.step rfl rfl (K.move rfl) ?_
            refine KT.skip rfl rfl ?_
            refine KT.skip rfl rfl ?_
            refine KT.skip rfl rfl ?_
            refine KT.step rfl rfl (K.pick rfl (fun _ => rfl) (fun h => by cases h)) ?_
            refine KT.step rfl rfl (K.move rfl) ?_
            refine KT.skip rfl rfl ?_
            refine KT.skip rfl rfl ?_
            refine KT.skip rfl rfl ?_
            refine KT.step rfl rfl (K.pick rfl (fun _ => rfl) (fun h => by cases h)) ?_
            refine KT.step rfl rfl (K.move rfl) ?_
            refine KT.skip rfl rfl ?_
            refine KT.skip rfl rfl ?_
            refine KT.skip rfl rfl ?_
            refine KT.step rfl rfl (K.pick rfl (fun _ => rfl) (fun h => by cases h)) ?_
            refine KT.step rfl rfl (K.move rfl) ?_
            refine KT.skip rfl rfl ?_
            refine KT.skip rfl rfl ?_
            refine KT.skip rfl rfl ?_
            refine KT.step rfl rfl (K.pick rfl (fun _ => rfl) (fun h => by cases h)) ?_
            refine KT.step rfl rfl (K.move rfl) ?_
            refine KT.skip rfl rfl ?_
            refine KT.skip rfl rfl ?_
            refine KT.skip rfl rfl ?_
            refine KT.step rfl rfl (K.pick rfl (fun _ => rfl) (fun h => by cases h)) ?_
            refine KT.nil ?_
            refine thenK_n ?_
            refine KC.cond rfl (fun hc77 => ?_) (fun hc77 => ?_)
            · skip
              refine KC.seq ?_
              refine KC.region ?_
              refine KT.step rfl rfl (K.assign rfl) ?_
              refine KT.nil ?_
              refine thenK_n ?_
              refine KC.ret ?_
              refine blockK_r ?_
              refine thenK_r ?_
              refine thenK_r ?_
              refine blockK_r ?_
              refine thenK_r ?_
              refine ⟨.inl rfl, _, rfl, fin_b (valid_bad (i := i) hil ?_)⟩
              refine Bool.eq_false_iff.2 fun hv => ?_
              have hv := okZ_iff.1 hv
              simp_all
              try omega
            · cases hc77
          · skip
            replace hb29 := of_decide_eq_false hb29
            refine KT.step rfl rfl (K.fieldAddrO rfl Try.fld57_0 Try.size3) ?_
            refine KT.step rfl rfl (K.loadO rfl u1 (by simp) rfl Try.agg3) ?_
            refine KT.step rfl rfl (K.fieldAddrO rfl Try.fld24_0 Try.size3) ?_
            refine KT.step rfl rfl (K.loadO rfl y0 (by simp) rfl Try.agg3) ?_
            refine KT.step rfl rfl (K.geq rfl rfl) ?_
            refine KT.step rfl rfl (K.pick rfl (fun h => by cases h) (fun _ => rfl)) ?_
            refine KT.step rfl rfl (K.move rfl) ?_
            refine KT.bcase (fun hb36 => ?_) (fun hb36 => ?_)
            · skip
              replace hb36 := of_decide_eq_true hb36
              refine KT.skip rfl rfl ?_
              refine KT.skip rfl rfl ?_
              refine KT.skip rfl rfl ?_
              refine KT.step rfl rfl (K.pick rfl (fun _ => rfl) (fun h => by cases h)) ?_
              refine KT.step rfl rfl (K.move rfl) ?_
              refine KT.skip rfl rfl ?_
              refine KT.skip rfl rfl ?_
              refine KT.skip rfl rfl ?_
              refine KT.skip rfl rfl ?_
              refine KT.skip rfl rfl ?_
              refine KT.step rfl rfl (K.pick rfl (fun _ => rfl) (fun h => by cases h)) ?_
              refine KT.step rfl rfl (K.move rfl) ?_
              refine KT.skip rfl rfl ?_
              refine KT.skip rfl rfl ?_
              refine KT.skip rfl rfl ?_
              refine KT.step rfl rfl (K.pick rfl (fun _ => rfl) (fun h => by cases h)) ?_
              refine KT.step rfl rfl (K.move rfl) ?_
              refine KT.skip rfl rfl ?_
              refine KT.skip rfl rfl ?_
              refine KT.skip rfl rfl ?_
              refine KT.step rfl rfl (K.pick rfl (fun _ => rfl) (fun h => by cases h)) ?_
              refine KT.step rfl rfl (K.move rfl) ?_
              refine KT.skip rfl rfl ?_
              refine KT.skip rfl rfl ?_
              refine KT.skip rfl rfl ?_
              refine KT.step rfl rfl (K.pick rfl (fun _ => rfl) (fun h => by cases h)) ?_
              refine KT.step rfl rfl (K.move rfl) ?_
              refine KT.skip rfl rfl ?_
              refine KT.skip rfl rfl ?_
              refine KT.skip rfl rfl ?_
              refine KT.step rfl rfl (K.pick rfl (fun _ => rfl) (fun h => by cases h)) ?_
              refine KT.step rfl rfl (K.move rfl) ?_
              refine KT.skip rfl rfl ?_
              refine KT.skip rfl rfl ?_
              refine KT.skip rfl rfl ?_
              refine KT.step rfl rfl (K.pick rfl (fun _ => rfl) (fun h => by cases h)) ?_
              refine KT.step rfl rfl (K.move rfl) ?_
              refine KT.skip rfl rfl ?_
              refine KT.skip rfl rfl ?_
              refine KT.skip rfl rfl ?_
              refine KT.step rfl rfl (K.pick rfl (fun _ => rfl) (fun h => by cases h)) ?_
              refine KT.nil ?_
              refine thenK_n ?_
              refine KC.cond rfl (fun hc77 => ?_) (fun hc77 => ?_)
              · skip
                refine KC.seq ?_
                refine KC.region ?_
                refine KT.step rfl rfl (K.assign rfl) ?_
                refine KT.nil ?_
                refine thenK_n ?_
                refine KC.ret ?_
                refine blockK_r ?_
                refine thenK_r ?_
                refine thenK_r ?_
                refine blockK_r ?_
                refine thenK_r ?_
                refine ⟨.inl rfl, _, rfl, fin_b (valid_bad (i := i) hil ?_)⟩
                refine Bool.eq_false_iff.2 fun hv => ?_
                have hv := okZ_iff.1 hv
                simp_all
                try omega
              · cases hc77
            · skip
              replace hb36 := of_decide_eq_false hb36
              refine KT.step rfl rfl (K.fieldAddrO rfl Try.fld57_1 Try.size3) ?_
              refine KT.step rfl rfl (K.loadO rfl u1 (by simp) rfl Try.agg3) ?_
              refine KT.step rfl rfl (K.lss rfl rfl) ?_
              refine KT.step rfl rfl (K.pick rfl (fun h => by cases h) (fun _ => rfl)) ?_
              refine KT.step rfl rfl (K.move rfl) ?_
              refine KT.bcase (fun hb41 => ?_) (fun hb41 => ?_)
              · skip
                replace hb41 := of_decide_eq_true hb41
                refine KT.skip rfl rfl ?_
                refine KT.skip rfl rfl ?_
                refine KT.skip rfl rfl ?_
                refine KT.skip rfl rfl ?_
                refine KT.skip rfl rfl ?_
                refine KT.step rfl rfl (K.pick rfl (fun _ => rfl) (fun h => by cases h)) ?_
                refine KT.step rfl rfl (K.move rfl) ?_
                refine KT.skip rfl rfl ?_
                refine KT.skip rfl rfl ?_
                refine KT.skip rfl rfl ?_
                refine KT.step rfl rfl (K.pick rfl (fun _ => rfl) (fun h => by cases h)) ?_
                refine KT.step rfl rfl (K.move rfl) ?_
                refine KT.skip rfl rfl ?_
                refine KT.skip rfl rfl ?_
                refine KT.skip rfl rfl ?_
                refine KT.step rfl rfl (K.pick rfl (fun _ => rfl) (fun h => by cases h)) ?_
                refine KT.step rfl rfl (K.move rfl) ?_
                refine KT.skip rfl rfl ?_
                refine KT.skip rfl rfl ?_
                refine KT.skip rfl rfl ?_
                refine KT.step rfl rfl (K.pick rfl (fun _ => rfl) (fun h => by cases h)) ?_
                refine KT.step rfl rfl (K.move rfl) ?_
                refine KT.skip rfl rfl ?_
                refine KT.skip rfl rfl ?_
                refine KT.skip rfl rfl ?_
                refine KT.step rfl rfl (K.pick rfl (fun _ => rfl) (fun h => by cases h)) ?_
                refine KT.step rfl rfl (K.move rfl) ?_
                refine KT.skip rfl rfl ?_
                refine KT.skip rfl rfl ?_
                refine KT.skip rfl rfl ?_
                refine KT.step rfl rfl (K.pick rfl (fun _ => rfl) (fun h => by cases h)) ?_
                refine KT.step rfl rfl (K.move rfl) ?_
                refine KT.skip rfl rfl ?_
                refine KT.skip rfl rfl ?_
                refine KT.skip rfl rfl ?_
                refine KT.step rfl rfl (K.pick rfl (fun _ => rfl) (fun h => by cases h)) ?_
                refine KT.nil ?_
                refine thenK_n ?_
                refine KC.cond rfl (fun hc77 => ?_) (fun hc77 => ?_)
                · skip
                  refine KC.seq ?_
                  refine KC.region ?_
                  refine KT.step rfl rfl (K.assign rfl) ?_
                  refine KT.nil ?_
                  refine thenK_n ?_
                  refine KC.ret ?_
                  refine blockK_r ?_
                  refine thenK_r ?_
                  refine thenK_r ?_
                  refine blockK_r ?_
                  refine thenK_r ?_
                  refine ⟨.inl rfl, _, rfl, fin_b (valid_bad (i := i) hil ?_)⟩
                  refine Bool.eq_false_iff.2 fun hv => ?_
                  have hv := okZ_iff.1 hv
                  simp_all
                  try omega
                · cases hc77
              · skip
                replace hb41 := of_decide_eq_false hb41
                refine KT.step rfl rfl (K.fieldAddrO rfl Try.fld57_1 Try.size3) ?_
                refine KT.step rfl rfl (K.loadO rfl u1 (by simp) rfl Try.agg3) ?_
                refine KT.step rfl rfl (K.fieldAddrO rfl Try.fld24_0 Try.size3) ?_
                refine KT.step rfl rfl (K.loadO rfl y0 (by simp) rfl Try.agg3) ?_
                refine KT.step rfl rfl (K.geq rfl rfl) ?_
                refine KT.step rfl rfl (K.pick rfl (fun h => by cases h) (fun _ => rfl)) ?_
                refine KT.step rfl rfl (K.move rfl) ?_
                refine KT.bcase (fun hb48 => ?_) (fun hb48 => ?_)
                · skip
                  replace hb48 := of_decide_eq_true hb48
                  refine KT.skip rfl rfl ?_
                  refine KT.skip rfl rfl ?_
                  refine KT.skip rfl rfl ?_
                  refine KT.step rfl rfl (K.pick rfl (fun _ => rfl) (fun h => by cases h)) ?_
                  refine KT.step rfl rfl (K.move rfl) ?_
                  refine KT.skip rfl rfl ?_
                  refine KT.skip rfl rfl ?_
                  refine KT.skip rfl rfl ?_
                  refine KT.step rfl rfl (K.pick rfl (fun _ => rfl) (fun h => by cases h)) ?_
                  refine KT.step rfl rfl (K.move rfl) ?_
                  refine KT.skip rfl rfl ?_
                  refine KT.skip rfl rfl ?_
                  refine KT.skip rfl rfl ?_
                  refine KT.step rfl rfl (K.pick rfl (fun _ => rfl) (fun h => by cases h)) ?_
                  refine KT.step rfl rfl (K.move rfl) ?_
                  refine KT.skip rfl rfl ?_
                  refine KT.skip rfl rfl ?_
                  refine KT.skip rfl rfl ?_
                  refine KT.step rfl rfl (K.pick rfl (fun _ => rfl) (fun h => by cases h)) ?_
                  refine KT.step rfl rfl (K.move rfl) ?_
                  refine KT.skip rfl rfl ?_
                  refine KT.skip rfl rfl ?_
                  refine KT.skip rfl rfl ?_
                  refine KT.step rfl rfl (K.pick rfl (fun _ => rfl) (fun h => by cases h)) ?_
                  refine KT.step rfl rfl (K.move rfl) ?_
                  refine KT.skip rfl rfl ?_
                  refine KT.skip rfl rfl ?_
                  refine KT.skip rfl rfl ?_
                  refine KT.step rfl rfl (K.pick rfl (fun _ => rfl) (fun h => by cases h)) ?_
                  refine KT.nil ?_
                  refine thenK_n ?_
                  refine KC.cond rfl (fun hc77 => ?_) (fun hc77 => ?_)
                  · skip
                    refine KC.seq ?_
                    refine KC.region ?_
                    refine KT.step rfl rfl (K.assign rfl) ?_
                    refine KT.nil ?_
                    refine thenK_n ?_
                    refine KC.ret ?_
                    refine blockK_r ?_
                    refine thenK_r ?_
                    refine thenK_r ?_
                    refine blockK_r ?_
                    refine thenK_r ?_
                    refine ⟨.inl rfl, _, rfl, fin_b (valid_bad (i := i) hil ?_)⟩
                    refine Bool.eq_false_iff.2 fun hv => ?_
                    have hv := okZ_iff.1 hv
                    simp_all
                    try omega
                  · cases hc77
                · skip
                  replace hb48 := of_decide_eq_false hb48
                  refine KT.step rfl rfl (K.fieldAddrO rfl Try.fld57_2 Try.size3) ?_
                  refine KT.step rfl rfl (K.loadO rfl u1 (by simp) rfl Try.agg3) ?_
                  refine KT.step rfl rfl (K.lss rfl rfl) ?_
                  refine KT.step rfl rfl (K.pick rfl (fun h => by cases h) (fun _ => rfl)) ?_
                  refine KT.step rfl rfl (K.move rfl) ?_
                  refine KT.bcase (fun hb53 => ?_) (fun hb53 => ?_)
                  · skip
                    replace hb53 := of_decide_eq_true hb53
                    refine KT.skip rfl rfl ?_
                    refine KT.skip rfl rfl ?_
                    refine KT.skip rfl rfl ?_
                    refine KT.step rfl rfl (K.pick rfl (fun _ => rfl) (fun h => by cases h)) ?_
                    refine KT.step rfl rfl (K.move rfl) ?_
                    refine KT.skip rfl rfl ?_
                    refine KT.skip rfl rfl ?_
                    refine KT.skip rfl rfl ?_
                    refine KT.step rfl rfl (K.pick rfl (fun _ => rfl) (fun h => by cases h)) ?_
                    refine KT.step rfl rfl (K.move rfl) ?_
                    refine KT.skip rfl rfl ?_
                    refine KT.skip rfl rfl ?_
                    refine KT.skip rfl rfl ?_
                    refine KT.step rfl rfl (K.pick rfl (fun _ => rfl) (fun h => by cases h)) ?_
                    refine KT.step rfl rfl (K.move rfl) ?_
                    refine KT.skip rfl rfl ?_
                    refine KT.skip rfl rfl ?_
                    refine KT.skip rfl rfl ?_
                    refine KT.step rfl rfl (K.pick rfl (fun _ => rfl) (fun h => by cases h)) ?_
                    refine KT.step rfl rfl (K.move rfl) ?_
                    refine KT.skip rfl rfl ?_
                    refine KT.skip rfl rfl ?_
                    refine KT.skip rfl rfl ?_
                    refine KT.step rfl rfl (K.pick rfl (fun _ => rfl) (fun h => by cases h)) ?_
                    refine KT.nil ?_
                    refine thenK_n ?_
                    refine KC.cond rfl (fun hc77 => ?_) (fun hc77 => ?_)
                    · skip
                      refine KC.seq ?_
                      refine KC.region ?_
                      refine KT.step rfl rfl (K.assign rfl) ?_
                      refine KT.nil ?_
                      refine thenK_n ?_
                      refine KC.ret ?_
                      refine blockK_r ?_
                      refine thenK_r ?_
                      refine thenK_r ?_
                      refine blockK_r ?_
                      refine thenK_r ?_
                      refine ⟨.inl rfl, _, rfl, fin_b (valid_bad (i := i) hil ?_)⟩
                      refine Bool.eq_false_iff.2 fun hv => ?_
                      have hv := okZ_iff.1 hv
                      simp_all
                      try omega
                    · cases hc77
                  · skip
                    replace hb53 := of_decide_eq_false hb53
                    refine KT.step rfl rfl (K.fieldAddrO rfl Try.fld57_2 Try.size3) ?_
                    refine KT.step rfl rfl (K.loadO rfl u1 (by simp) rfl Try.agg3) ?_
                    refine KT.step rfl rfl (K.gtr rfl rfl) ?_
                    refine KT.step rfl rfl (K.pick rfl (fun h => by cases h) (fun _ => rfl)) ?_
                    refine KT.step rfl rfl (K.move rfl) ?_
                    refine KT.bcase (fun hb58 => ?_) (fun hb58 => ?_)
                    · skip
                      replace hb58 := of_decide_eq_true hb58
                      refine KT.skip rfl rfl ?_
                      refine KT.skip rfl rfl ?_
                      refine KT.skip rfl rfl ?_
                      refine KT.step rfl rfl (K.pick rfl (fun _ => rfl) (fun h => by cases h)) ?_
                      refine KT.step rfl rfl (K.move rfl) ?_
                      refine KT.skip rfl rfl ?_
                      refine KT.skip rfl rfl ?_
                      refine KT.skip rfl rfl ?_
                      refine KT.step rfl rfl (K.pick rfl (fun _ => rfl) (fun h => by cases h)) ?_
                      refine KT.step rfl rfl (K.move rfl) ?_
                      refine KT.skip rfl rfl ?_
                      refine KT.skip rfl rfl ?_
                      refine KT.skip rfl rfl ?_
                      refine KT.step rfl rfl (K.pick rfl (fun _ => rfl) (fun h => by cases h)) ?_
                      refine KT.step rfl rfl (K.move rfl) ?_
                      refine KT.skip rfl rfl ?_
                      refine KT.skip rfl rfl ?_
                      refine KT.skip rfl rfl ?_
                      refine KT.step rfl rfl (K.pick rfl (fun _ => rfl) (fun h => by cases h)) ?_
                      refine KT.nil ?_
                      refine thenK_n ?_
                      refine KC.cond rfl (fun hc77 => ?_) (fun hc77 => ?_)
                      · skip
                        refine KC.seq ?_
                        refine KC.region ?_
                        refine KT.step rfl rfl (K.assign rfl) ?_
                        refine KT.nil ?_
                        refine thenK_n ?_
                        refine KC.ret ?_
                        refine blockK_r ?_
                        refine thenK_r ?_
                        refine thenK_r ?_
                        refine blockK_r ?_
                        refine thenK_r ?_
                        refine ⟨.inl rfl, _, rfl, fin_b (valid_bad (i := i) hil ?_)⟩
                        refine Bool.eq_false_iff.2 fun hv => ?_
                        have hv := okZ_iff.1 hv
                        simp_all
                        try omega
                      · cases hc77
                    · skip
                      replace hb58 := of_decide_eq_false hb58
                      refine KT.step rfl rfl (K.fieldAddrO rfl Try.fld57_3 Try.size3) ?_
                      refine KT.step rfl rfl (K.loadO rfl u1 (by simp) rfl Try.agg3) ?_
                      refine KT.step rfl rfl (K.lss rfl rfl) ?_
                      refine KT.step rfl rfl (K.pick rfl (fun h => by cases h) (fun _ => rfl)) ?_
                      refine KT.step rfl rfl (K.move rfl) ?_
                      refine KT.bcase (fun hb63 => ?_) (fun hb63 => ?_)
                      · skip
                        replace hb63 := of_decide_eq_true hb63
                        refine KT.skip rfl rfl ?_
                        refine KT.skip rfl rfl ?_
                        refine KT.skip rfl rfl ?_
                        refine KT.step rfl rfl (K.pick rfl (fun _ => rfl) (fun h => by cases h)) ?_
                        refine KT.step rfl rfl (K.move rfl) ?_
                        refine KT.skip rfl rfl ?_
                        refine KT.skip rfl rfl ?_
                        refine KT.skip rfl rfl ?_
                        refine KT.step rfl rfl (K.pick rfl (fun _ => rfl) (fun h => by cases h)) ?_
                        refine KT.step rfl rfl (K.move rfl) ?_
                        refine KT.skip rfl rfl ?_
                        refine KT.skip rfl rfl ?_
                        refine KT.skip rfl rfl ?_
                        refine KT.step rfl rfl (K.pick rfl (fun _ => rfl) (fun h => by cases h)) ?_
                        refine KT.nil ?_
                        refine thenK_n ?_
                        refine KC.cond rfl (fun hc77 => ?_) (fun hc77 => ?_)
                        · skip
                          refine KC.seq ?_
                          refine KC.region ?_
                          refine KT.step rfl rfl (K.assign rfl) ?_
                          refine KT.nil ?_
                          refine thenK_n ?_
                          refine KC.ret ?_
                          refine blockK_r ?_
                          refine thenK_r ?_
                          refine thenK_r ?_
                          refine blockK_r ?_
                          refine thenK_r ?_
                          refine ⟨.inl rfl, _, rfl, fin_b (valid_bad (i := i) hil ?_)⟩
                          refine Bool.eq_false_iff.2 fun hv => ?_
                          have hv := okZ_iff.1 hv
                          simp_all
                          try omega
                        · cases hc77
                      · skip
                        replace hb63 := of_decide_eq_false hb63
                        refine KT.step rfl rfl (K.fieldAddrO rfl Try.fld57_3 Try.size3) ?_
                        refine KT.step rfl rfl (K.loadO rfl u1 (by simp) rfl Try.agg3) ?_
                        refine KT.step rfl rfl (K.gtr rfl rfl) ?_
                        refine KT.step rfl rfl (K.pick rfl (fun h => by cases h) (fun _ => rfl)) ?_
                        refine KT.step rfl rfl (K.move rfl) ?_
                        refine KT.bcase (fun hb68 => ?_) (fun hb68 => ?_)
                        · skip
                          replace hb68 := of_decide_eq_true hb68
                          refine KT.skip rfl rfl ?_
                          refine KT.skip rfl rfl ?_
                          refine KT.skip rfl rfl ?_
                          refine KT.step rfl rfl (K.pick rfl (fun _ => rfl) (fun h => by cases h)) ?_
                          refine KT.step rfl rfl (K.move rfl) ?_
                          refine KT.skip rfl rfl ?_
                          refine KT.skip rfl rfl ?_
                          refine KT.skip rfl rfl ?_
                          refine KT.step rfl rfl (K.pick rfl (fun _ => rfl) (fun h => by cases h)) ?_
                          refine KT.nil ?_
                          refine thenK_n ?_
                          refine KC.cond rfl (fun hc77 => ?_) (fun hc77 => ?_)
                          · skip
                            refine KC.seq ?_
                            refine KC.region ?_
                            refine KT.step rfl rfl (K.assign rfl) ?_
                            refine KT.nil ?_
                            refine thenK_n ?_
                            refine KC.ret ?_
                            refine blockK_r ?_
                            refine thenK_r ?_
                            refine thenK_r ?_
                            refine blockK_r ?_
                            refine thenK_r ?_
                            refine ⟨.inl rfl, _, rfl, fin_b (valid_bad (i := i) hil ?_)⟩
                            refine Bool.eq_false_iff.2 fun hv => ?_
                            have hv := okZ_iff.1 hv
                            simp_all
                            try omega
                          · cases hc77
                        · skip
                          replace hb68 := of_decide_eq_false hb68
                          refine KT.step rfl rfl (K.fieldAddrO rfl Try.fld57_4 Try.size3) ?_
                          refine KT.step rfl rfl (K.loadO rfl u1 (by simp) rfl Try.agg3) ?_
                          refine KT.step rfl rfl (K.lss rfl rfl) ?_
                          refine KT.step rfl rfl (K.pick rfl (fun h => by cases h) (fun _ => rfl)) ?_
                          refine KT.step rfl rfl (K.move rfl) ?_
                          refine KT.bcase (fun hb73 => ?_) (fun hb73 => ?_)
                          · skip
                            replace hb73 := of_decide_eq_true hb73
                            refine KT.skip rfl rfl ?_
                            refine KT.skip rfl rfl ?_
                            refine KT.skip rfl rfl ?_
                            refine KT.step rfl rfl (K.pick rfl (fun _ => rfl) (fun h => by cases h)) ?_
                            refine KT.nil ?_
                            refine thenK_n ?_
                            refine KC.cond rfl (fun hc77 => ?_) (fun hc77 => ?_)
                            · skip
                              refine KC.seq ?_
                              refine KC.region ?_
                              refine KT.step rfl rfl (K.assign rfl) ?_
                              refine KT.nil ?_
                              refine thenK_n ?_
                              refine KC.ret ?_
                              refine blockK_r ?_
                              refine thenK_r ?_
                              refine thenK_r ?_
                              refine blockK_r ?_
                              refine thenK_r ?_
                              refine ⟨.inl rfl, _, rfl, fin_b (valid_bad (i := i) hil ?_)⟩
                              refine Bool.eq_false_iff.2 fun hv => ?_
                              have hv := okZ_iff.1 hv
                              simp_all
                              try omega
                            · cases hc77
                          · skip
                            replace hb73 := of_decide_eq_false hb73
                            refine KT.step rfl rfl (K.fieldAddrO rfl Try.fld57_4 Try.size3) ?_
                            refine KT.step rfl rfl (K.loadO rfl u1 (by simp) rfl Try.agg3) ?_
                            refine KT.step rfl rfl (K.gtr rfl rfl) ?_
                            refine KT.step rfl rfl (K.pick rfl (fun h => by cases h) (fun _ => rfl)) ?_
                            refine KT.nil ?_
                            refine thenK_n ?_
                            refine KC.cond rfl (fun hc77 => ?_) (fun hc77 => ?_)
                            · skip
                              replace hc77 := of_decide_eq_true hc77
                              refine KC.seq ?_
                              refine KC.region ?_
                              refine KT.step rfl rfl (K.assign rfl) ?_
                              refine KT.nil ?_
                              refine thenK_n ?_
                              refine KC.ret ?_
                              refine blockK_r ?_
                              refine thenK_r ?_
                              refine thenK_r ?_
                              refine blockK_r ?_
                              refine thenK_r ?_
                              refine ⟨.inl rfl, _, rfl, fin_b (valid_bad (i := i) hil ?_)⟩
                              refine Bool.eq_false_iff.2 fun hv => ?_
                              have hv := okZ_iff.1 hv
                              simp_all
                              try omega
                            · skip
                              replace hc77 := of_decide_eq_false hc77
                              refine KC.skip ?_
                              refine blockK_n ?_
                              refine thenK_n ?_
                              refine KC.region ?_
                              refine KT.step rfl rfl (K.add rfl rfl (wrap_id (by omega))) ?_
                              refine KT.step rfl rfl (K.move rfl) ?_
                              refine KT.nil ?_
                              refine thenK_n ?_
                              refine ⟨(σ1, i + 1), ⟨by simp only; omega, ?_, y0⟩, by simp only; omega, rfl, by simp [Go.Vm.look, extK]⟩
                              rw [all_take _ hil, hall, Bool.true_and, okZ_iff]
                              simp_all
                              try omega
        · skip
          replace hc23 := of_decide_eq_false hc23
          refine KC.exit ?_
          refine thenK_x ?_
          refine thenK_x ?_
          refine blockK_e ?_
          refine thenK_n ?_
          refine KC.seq ?_
          refine KC.region ?_
          refine KT.step rfl rfl (K.assign rfl) ?_
          refine KT.nil ?_
          refine thenK_n ?_
          refine KC.ret ?_
          exact ⟨.inl rfl, _, rfl, fin_b (valid_end (by omega) (by omega) (by omega) (by omega) hall)⟩
end Go.Proofs.Ytnfnjnaheckdbaa

