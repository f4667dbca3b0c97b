import Derived.Test.YtocgjopmlhpjdaaNtW
import Derived.Test.YtocgjopmlhpjdaaNtWq
/-
  Nets: Live of the reference.
-/
namespace Go.Proofs.Ytocgjopmlhpjdaa
open Go.Vm Go.RowKit Go.Nt Go.Ht
theorem plainTry_33 : plainFn Try.prog 33 = true := by kernel_rfl
def boolsX (C : List Bool) : List XV := C.map fun b => .d (DB b)
theorem boolsX_len (C : List Bool) : (boolsX C).length = C.length := by simp [boolsX]
theorem boolsX_get {C : List Bool} {i : Nat} (h : i < C.length) : (boolsX C)[0 + i]? = some (.d (DB C[i])) := by
  rw [Nat.zero_add]; unfold boolsX; rw [List.getElem?_map, List.getElem?_eq_getElem h]; rfl
theorem boolsX_set {C : List Bool} {i : Nat} {b : Bool} : (boolsX C).set (0 + i) (.d (DB b)) = boolsX (C.set i b) := by
  rw [Nat.zero_add]; unfold boolsX; rw [List.map_set]
theorem boolsX_rep (n : Nat) : List.replicate n (XV.d (.lit (.bool false))) = boolsX (List.replicate n false) := by unfold boolsX; rw [List.map_replicate]
theorem set_eq {C : List Bool} {i : Nat} {b : Bool} (hi : i < C.length) (h : C[i] = b) : C.set i b = C := by rw [← h]; exact set_same hi
theorem nf_le {C : List Bool} {i : Nat} {b : Bool} (hi : i < C.length) (h : C[i] = true → b = true) : nf (C.set i b) ≤ nf C := by
  cases hc : C[i] with
  | true => rw [h hc, set_eq hi hc]; exact Nat.le_refl _
  | false =>
    cases b with
    | true => exact Nat.le_of_lt (nf_set hi hc)
    | false => rw [set_eq hi hc]; exact Nat.le_refl _
theorem nV_ints (r : List Int) : Ints (nV r) r := by
  have h : Ints (.sl (r.map DI) r.length none) r := .sl (by simp) fun i c x h1 h2 => by
    rw [List.getElem?_map, h2] at h1; cases h1; rfl
  exact h
/-- What is known of a row so far. -/
def nowK (row : List Int) (t : Nat) (C : List Bool) (j : Nat) : Bool := decide (0 ≤ row.getD t (-1)) || (row.take j).any fun k => decide (0 ≤ k) && C.getD k.toNat false
theorem nowK_succ {row : List Int} {t : Nat} {C : List Bool} {j : Nat} (h : j < row.length) : nowK row t C (j + 1) = (nowK row t C j || (decide (0 ≤ row[j]) && C.getD row[j].toNat false)) := by
  unfold nowK
  rw [List.take_add_one, List.getElem?_eq_getElem h, Option.toList_some, List.any_append]
  simp [Bool.or_assoc]
theorem rN_at {nx : List Int → Nat → Option (List Int)} {fs : List Ent} {m : List Int} {T u : Nat} (h : u < T) : (rN nx fs m T).getD u (-1) = rE fs (nx m u) := by
  unfold rN
  rw [List.getD_eq_getElem?_getD, List.getElem?_map, List.getElem?_range h]; rfl
theorem row_arc {nx : List Int → Nat → Option (List Int)} {fs : List Ent} {T i u q : Nat} (hi : i < fs.length) (hu : u < T) : (rN nx fs (mrk fs i) T).getD u (-1) = ((q : Nat) : Int) ↔ (u, q) ∈ (nextN nx T fs fs.length 0).getD i [] := by
  rw [next_get hi, rN_at hu, List.mem_map]
  constructor
  · intro h
    cases e : nx (mrk fs i) u with
    | none => rw [e] at h; simp only [rE] at h; omega
    | some m' =>
      rw [e] at h
      simp only [rE] at h
      exact ⟨(u, m'), enL_mem.2 ⟨hu, e⟩, by unfold pl; simp only; congr 1; omega⟩
  · rintro ⟨p, hp, he⟩
    obtain ⟨h1, h2⟩ := enL_mem.1 hp
    unfold pl at he
    cases he
    rw [h2]; rfl
theorem row_nn {nx : List Int → Nat → Option (List Int)} {fs : List Ent} {m : List Int} {T u : Nat} (hu : u < T) (h : 0 ≤ (rN nx fs m T).getD u (-1)) : ∃ q : Nat, (rN nx fs m T).getD u (-1) = (q : Int) := ⟨_, (Int.toNat_of_nonneg h).symm⟩
theorem now_iff {nx : List Int → Nat → Option (List Int)} {fs : List Ent} {T i t : Nat} {C : List Bool} (hi : i < fs.length) (ht : t < T) : nowK (rN nx fs (mrk fs i) T) t C T = true ↔ NowB (nextN nx T fs fs.length 0) t C i := by
  have hl := rN_len nx fs (mrk fs i) T
  unfold nowK NowB
  rw [Bool.or_eq_true, decide_eq_true_iff, List.take_of_length_le (by omega), List.any_eq_true]
  constructor
  · rintro (h | ⟨k, hk, h⟩)
    · obtain ⟨q, hq⟩ := row_nn ht h
      exact ⟨(t, q), (row_arc hi ht).1 hq, .inl rfl⟩
    · obtain ⟨u, hu, rfl⟩ := List.getElem_of_mem hk
      simp only [Bool.and_eq_true, decide_eq_true_eq] at h
      have e : (rN nx fs (mrk fs i) T).getD u (-1) = (rN nx fs (mrk fs i) T)[u] := by rw [List.getD_eq_getElem?_getD, List.getElem?_eq_getElem hu]; rfl
      obtain ⟨q, hq⟩ := row_nn (nx := nx) (fs := fs) (m := mrk fs i) (T := T) (u := u) (by omega) (by rw [e]; exact h.1)
      have h2 := h.2
      rw [← e, hq, Int.toNat_natCast] at h2
      exact ⟨(u, q), (row_arc hi (by omega)).1 hq, .inr h2⟩
  · rintro ⟨⟨u, q⟩, ha, h | h⟩
    · simp only at h
      subst h
      have := (row_arc (T := T) (nx := nx) hi ht).2 ha
      exact .inl (by rw [this]; omega)
    · have hu : u < T := by
        rw [next_get hi] at ha
        obtain ⟨p, hp, he⟩ := List.mem_map.1 ha
        unfold pl at he
        cases he
        exact (enL_mem.1 hp).1
      have e0 := (row_arc (T := T) (nx := nx) hi hu).2 ha
      have hul : u < (rN nx fs (mrk fs i) T).length := by omega
      have e : (rN nx fs (mrk fs i) T).getD u (-1) = (rN nx fs (mrk fs i) T)[u] := by rw [List.getD_eq_getElem?_getD, List.getElem?_eq_getElem hul]; rfl
      refine .inr ⟨(rN nx fs (mrk fs i) T)[u], List.getElem_mem hul, ?_⟩
      rw [← e, e0, Int.toNat_natCast, h, decide_eq_true (by omega)]; rfl
set_option maxHeartbeats 8000000 in
set_option maxRecDepth 10000 in
theorem rLive33 {a b c : DV} {pre post : List (List Int)} {start : List Int} {r : Bool} (h : NetD a b c pre post start) (hr : ∀ fs, xOf pre post start = some fs → (r = true ↔ LiveN pre.length (nextN (nxN pre post) pre.length fs fs.length 0))) : DeepCall Try.prog 33 [.agg [a, b, c]] (livV pre post start r) := by
  have hN0 := h
  obtain ⟨ha, hb, hc, l1, l2, l3, r1, r2⟩ := h
  refine deepCall_K 9 Try.func33 rfl (Nat.le_of_ble_eq_true rfl) fun M W0 => ?_
  refine KC.seq ?_
  refine KC.region ?_
  refine KT.step rfl rfl (K.box rfl) ?_
  refine KT.step rfl rfl (K.assign rfl) ?_
  refine KT.step rfl rfl (K.assign rfl) ?_
  refine KT.nil ?_
  refine thenK_n ?_
  refine KC.seq ?_
  refine KC.seq ?_
  refine KC.region ?_
  refine KT.step rfl rfl (K.loadOA [a, b, c] rfl rfl (by decide) Try.agg25 Try.size25 rfl) ?_
  refine KT.step rfl rfl (K.call1 rfl plainTry_31 (rvalid31 hN0)) ?_
  refine KT.step rfl rfl (K.not rfl) ?_
  refine KT.nil ?_
  refine thenK_n ?_
  refine KC.cond rfl (fun hc18 => ?_) (fun hc18 => ?_)
  · skip
    refine KC.seq ?_
    refine KC.region ?_
    refine KT.step rfl rfl (K.assign rfl) ?_
    refine KT.step rfl rfl (K.assign rfl) ?_
    refine KT.nil ?_
    refine thenK_n ?_
    refine KC.ret ?_
    refine thenK_r ?_
    refine ⟨.inl rfl, _, rfl, ?_⟩
    have hv : ¬ validB pre post start = true := by intro h; rw [h] at hc18; simp at hc18
    have e1 : xOf pre post start = none := by unfold xOf; rw [if_neg hv]
    have e2 : xE pre post start = 2 := by unfold xE; rw [if_neg hv]
    unfold livV
    rw [e1, e2]; rfl
  · skip
    have hv : validB pre post start = true := by simpa using hc18
    have hNn := NetOk.of hv
    have hp3 : ∀ r ∈ pre, ∀ x ∈ r, 0 ≤ x ∧ x ≤ 3 := fun r hr => fitsB_mem (allB_mem (validB_iff.1 hv).2.2.2.2.2.2.1 r hr)
    have hq3 : ∀ r ∈ post, ∀ x ∈ r, 0 ≤ x ∧ x ≤ 3 := fun r hr => fitsB_mem (allB_mem (validB_iff.1 hv).2.2.2.2.2.2.2 r hr)
    refine KC.skip ?_
    refine thenK_n ?_
    refine KC.seq ?_
    refine KC.regionL ?_
    refine KL.step rfl rfl (K.loadOA [a, b, c] rfl rfl (by decide) Try.agg25 Try.size25 rfl) ?_
    rcases hre : reachE (nxN pre post) pre.length 2000 start with _ | fs
    · skip
      refine KL.call (R := _) rfl rfl rfl rfl rfl plainTry_43 (reach43 (σ := [⟨[.d a, .d b, .d c], 0⟩]) ha hb hc hNn rfl (start_bd hv) hp3 hq3) fun σ1 x1 hR => ?_
      unfold RchQ at hR
      rw [hre] at hR
      simp only at hR
      subst hR
      refine KL.step rfl rfl (K.move rfl) ?_
      refine KL.step rfl rfl (K.extractY rfl rfl) ?_
      refine KL.step rfl rfl (K.extractY rfl rfl) ?_
      refine KL.step rfl rfl (K.assign rfl) ?_
      refine KL.step rfl rfl (K.assign rfl) ?_
      refine KL.nil ?_
      refine thenK_n ?_
      refine KC.seq ?_
      refine KC.seq ?_
      refine KC.region ?_
      refine KT.step rfl rfl (K.move rfl) ?_
      refine KT.step rfl rfl (K.neq rfl rfl) ?_
      refine KT.nil ?_
      refine thenK_n ?_
      refine KC.cond rfl (fun hc25 => ?_) (fun hc25 => ?_)
      · skip
        replace hc25 := of_decide_eq_true hc25
        refine KC.seq ?_
        refine KC.region ?_
        refine KT.step rfl rfl (K.move rfl) ?_
        refine KT.step rfl rfl (K.assign rfl) ?_
        refine KT.step rfl rfl (K.assign rfl) ?_
        refine KT.nil ?_
        refine thenK_n ?_
        refine KC.ret ?_
        refine thenK_r ?_
        refine ⟨.inl rfl, _, rfl, ?_⟩
        have e1 : xOf pre post start = none := by unfold xOf; rw [if_pos hv, hre]
        have e2 : xE pre post start = 3 := by unfold xE; rw [if_pos hv, hre]
        unfold livV
        rw [e1, e2]; rfl
      · skip
        exact absurd hc25 (by decide)
    · skip
      refine KL.call (R := _) rfl rfl rfl rfl rfl plainTry_43 (reach43 (σ := [⟨[.d a, .d b, .d c], 0⟩]) ha hb hc hNn rfl (start_bd hv) hp3 hq3) fun σ1 x1 hR => ?_
      unfold RchQ at hR
      rw [hre] at hR
      obtain ⟨gid, xm, xw, xr, rfl, hg, hF, hout, hgl, hog⟩ := hR
      have hD := done_of hv hre
      have hpos := obj_ltE hD.hd
      have hle := hD.le
      have hp6 := hNn.p6
      obtain ⟨hOk, _⟩ := next_ok hD
      obtain ⟨N, hNe⟩ : ∃ N, N = (nextN (nxN pre post) pre.length fs fs.length 0) := ⟨_, rfl⟩
      rw [← hNe] at hOk
      have hNl : N.length = fs.length := by rw [hNe, nextN_len]
      have hxo : xOf pre post start = some fs := by unfold xOf; rw [if_pos hv, hre]
      have hxe : xE pre post start = 0 := by unfold xE; rw [if_pos hv, hre]
      obtain ⟨mid, exm, rfl, _⟩ := OwnL.is (k := 1) (x := xm) (cells := (mkV c fs).map .d) hF.un4.1 (n := fs.length) (by rw [List.length_map, mkV_len, Nat.mul_one]) (by decide) hpos
      obtain ⟨rid, exr, rfl, hrd⟩ := OwnL.is (k := 1) (x := xr) (cells := ((rNN (nxN pre post) pre.length fs fs.length).map nV).map .d) hF.un4.2.2.1 (n := fs.length) (by simp [rNN]) (by decide) hpos
      have h00 := (hout 0 (by simp)).1
      refine KL.step rfl rfl (K.move rfl) ?_
      refine KL.step rfl rfl (K.extractY rfl rfl) ?_
      refine KL.step rfl rfl (K.extractY rfl rfl) ?_
      refine KL.step rfl rfl (K.assign rfl) ?_
      refine KL.step rfl rfl (K.assign rfl) ?_
      refine KL.nil ?_
      refine thenK_n ?_
      refine KC.seq ?_
      refine KC.seq ?_
      refine KC.region ?_
      refine KT.step rfl rfl (K.move rfl) ?_
      refine KT.step rfl rfl (K.neq rfl rfl) ?_
      refine KT.nil ?_
      refine thenK_n ?_
      refine KC.cond rfl (fun hc25 => ?_) (fun hc25 => ?_)
      · skip
        exact absurd hc25 (by decide)
      · skip
        replace hc25 := of_decide_eq_false hc25
        refine KC.skip ?_
        refine thenK_n ?_
        refine KC.seq ?_
        refine KC.seq ?_
        refine KC.region ?_
        refine KT.step rfl rfl (K.fieldAddrO rfl Try.fld25_0 Try.size22) ?_
        refine KT.step rfl rfl (K.loadO (y := .d a) rfl h00 (by simp) rfl Try.agg22) ?_
        refine KT.step rfl rfl (K.len rfl ha Try.underlying22) ?_
        refine KT.step rfl rfl (K.move rfl) ?_
        refine KT.nil ?_
        refine thenK_n ?_
        refine KC.block ?_
        refine KC.loop (fun p : List VObj × Nat => p.1) (fun p => [(4, .optr gid 0), (29, .d (DI (pre.length : Nat))), (30, .d (DI (p.2 : Nat)))]) (fun p => p.2 ≤ pre.length ∧ (p.1[gid]? = some ⟨[.osl mid 0 fs.length 1 fs.length exm, xw, .osl rid 0 fs.length 1 fs.length exr], 0⟩ ∧ p.1[rid]? = some ⟨((rNN (nxN pre post) pre.length fs fs.length).map nV).map .d, 0⟩) ∧ ∀ u, u < p.2 → ∀ i, i < fs.length → CanN N u i) (fun p => pre.length - p.2) (σ1, 0) ⟨Nat.zero_le _, ⟨hg, hrd⟩, fun u h => absurd h (Nat.not_lt_zero _)⟩ rfl (by simp [Go.Vm.look, extK, enterK]) ?_
        intro p hp
        obtain ⟨σ0, t⟩ := p
        obtain ⟨ht, ⟨g0, r0⟩, hall⟩ := hp
        simp only at ht g0 r0 hall ⊢
        refine KC.seq ?_
        refine KC.region ?_
        refine KT.step rfl rfl (K.lss rfl rfl) ?_
        refine KT.nil ?_
        refine thenK_n ?_
        refine KC.seq ?_
        refine KC.cond rfl (fun hc31 => ?_) (fun hc31 => ?_)
        · skip
          replace hc31 := of_decide_eq_true hc31
          have htl : t < pre.length := by omega
          refine KC.skip ?_
          refine thenK_n ?_
          refine KC.seq ?_
          refine KC.block ?_
          refine KC.seq ?_
          refine KC.region ?_
          refine KT.step rfl rfl (K.move rfl) ?_
          refine KT.step rfl rfl (K.assign rfl) ?_
          refine KT.nil ?_
          refine thenK_n ?_
          refine KC.seq ?_
          refine KC.region ?_
          refine KT.step rfl rfl (K.move rfl) ?_
          refine KT.step rfl rfl (K.nilCheckO rfl) ?_
          refine KT.step rfl rfl (K.fieldAddrO rfl Try.fld80_0 Try.size22) ?_
          refine KT.step rfl rfl (K.loadO rfl g0 (by simp) rfl Try.agg22) ?_
          refine KT.step rfl rfl (K.lenO rfl Try.underlying22) ?_
          refine KT.step rfl rfl (K.make (m := fs.length) (c := fs.length) rfl rfl (Nat.le_refl _) (by omega) Try.underlying104 Try.one4) ?_
          refine KT.step rfl rfl (K.assign rfl) ?_
          refine KT.nil ?_
          refine thenK_n ?_
          refine KC.seq ?_
          refine KC.seq ?_
          refine KC.region ?_
          refine KT.step rfl rfl (K.assign rfl) ?_
          refine KT.nil ?_
          refine thenK_n ?_
          refine KC.block ?_
          obtain ⟨cid, hcid⟩ : ∃ cid, cid = σ0.length := ⟨_, rfl⟩
          have hgl0 := obj_lt g0
          have hrl0 := obj_lt r0
          rw [boolsX_rep, ← hcid]
          refine KC.loop (fun p : List VObj × List Bool × Bool => p.1) (fun p => [(4, .optr gid 0), (29, .d (DI (pre.length : Nat))), (30, .d (DI (t : Nat))), (6, .d (DI (t : Nat))), (7, .osl cid 0 fs.length 1 fs.length true), (8, .d (DB p.2.2))]) (fun p => (p.1[gid]? = some ⟨[.osl mid 0 fs.length 1 fs.length exm, xw, .osl rid 0 fs.length 1 fs.length exr], 0⟩ ∧ p.1[rid]? = some ⟨((rNN (nxN pre post) pre.length fs fs.length).map nV).map .d, 0⟩) ∧ p.1[cid]? = some ⟨boolsX p.2.1, 0⟩ ∧ BoolI N t p.2.1 ∧ (p.2.2 = false → ∀ i, i < fs.length → ClosB N t p.2.1 i)) (fun p => if p.2.2 then 1 + nf p.2.1 else 0) (_, List.replicate fs.length false, true) ⟨⟨obj_left g0, obj_left r0⟩, by simp only; rw [hcid]; exact (List.getElem?_concat_length ..), by rw [← hNl]; exact BoolI.start N t, (fun h => by cases h)⟩ rfl (by simp [Go.Vm.look, extK, enterK]) ?_
          intro p hp
          obtain ⟨σ2, C0, ch0⟩ := p
          obtain ⟨⟨g1, r1_⟩, c1, hq0, hcl0⟩ := hp
          simp only at g1 r1_ c1 hq0 hcl0 ⊢
          refine KC.seq ?_
          refine KC.seq ?_
          refine KC.region ?_
          refine KT.step rfl rfl (K.move rfl) ?_
          refine KT.nil ?_
          refine thenK_n ?_
          refine KC.cond rfl (fun hc39 => ?_) (fun hc39 => ?_)
          · skip
            refine KC.skip ?_
            refine thenK_n ?_
            refine KC.block ?_
            refine KC.seq ?_
            refine KC.region ?_
            refine KT.step rfl rfl (K.assign rfl) ?_
            refine KT.nil ?_
            refine thenK_n ?_
            refine KC.seq ?_
            refine KC.region ?_
            refine KT.step rfl rfl (K.move rfl) ?_
            refine KT.step rfl rfl (K.nilCheckO rfl) ?_
            refine KT.step rfl rfl (K.fieldAddrO rfl Try.fld80_2 Try.size22) ?_
            refine KT.step rfl rfl (K.loadO rfl g1 (by simp) rfl Try.agg22) ?_
            refine KT.step rfl rfl (K.lenO rfl Try.underlying22) ?_
            refine KT.step rfl rfl (K.move rfl) ?_
            refine KT.nil ?_
            refine thenK_n ?_
            refine KC.block ?_
            refine KC.loop (fun p : List VObj × List Bool × Bool × Nat => p.1) (fun p => [(4, .optr gid 0), (29, .d (DI (pre.length : Nat))), (30, .d (DI (t : Nat))), (6, .d (DI (t : Nat))), (7, .osl cid 0 fs.length 1 fs.length true), (8, .d (DB p.2.2.1)), (43, .osl rid 0 fs.length 1 fs.length exr), (44, .d (DI (fs.length : Nat))), (45, .d (DI (p.2.2.2 : Nat)))]) (fun p => (p.1[gid]? = some ⟨[.osl mid 0 fs.length 1 fs.length exm, xw, .osl rid 0 fs.length 1 fs.length exr], 0⟩ ∧ p.1[rid]? = some ⟨((rNN (nxN pre post) pre.length fs fs.length).map nV).map .d, 0⟩) ∧ p.1[cid]? = some ⟨boolsX p.2.1, 0⟩ ∧ BoolI N t p.2.1 ∧ p.2.2.2 ≤ fs.length ∧ (p.2.2.1 = true → nf p.2.1 < nf C0) ∧ nf p.2.1 ≤ nf C0 ∧ (p.2.2.1 = false → ∀ i, i < p.2.2.2 → ClosB N t p.2.1 i)) (fun p => fs.length - p.2.2.2) (σ2, C0, false, 0) ⟨⟨g1, r1_⟩, c1, hq0, Nat.zero_le _, (fun h => by cases h), Nat.le_refl _, fun _ i h => absurd h (Nat.not_lt_zero _)⟩ rfl (by simp [Go.Vm.look, extK, enterK]) ?_
            intro p hp
            obtain ⟨σ3, C, ch, i⟩ := p
            obtain ⟨⟨g2, r2_⟩, c2_, hqB, hi, hm, hm2, hcl⟩ := hp
            simp only at g2 r2_ c2_ hqB hi hm hm2 hcl ⊢
            refine KC.seq ?_
            refine KC.region ?_
            refine KT.step rfl rfl (K.lss rfl rfl) ?_
            refine KT.nil ?_
            refine thenK_n ?_
            refine KC.seq ?_
            refine KC.cond rfl (fun hc46 => ?_) (fun hc46 => ?_)
            · skip
              replace hc46 := of_decide_eq_true hc46
              have hil : i < fs.length := by omega
              have hiC : i < C.length := by rw [hqB.len]; omega
              have hrl := rN_len (nxN pre post) fs (mrk fs i) pre.length
              have hrow := nV_ints (rN (nxN pre post) fs (mrk fs i) pre.length)
              have htr : t < (rN (nxN pre post) fs (mrk fs i) pre.length).length := by omega
              have hrg : (((rNN (nxN pre post) pre.length fs fs.length).map nV).map XV.d)[0 + i]? = some (.d (nV (rN (nxN pre post) fs (mrk fs i) pre.length))) := by
                rw [Nat.zero_add, List.getElem?_map, List.getElem?_map]; unfold rNN; rw [List.getElem?_map, List.getElem?_range hil]; rfl
              refine KC.skip ?_
              refine thenK_n ?_
              refine KC.seq ?_
              refine KC.block ?_
              refine KC.seq ?_
              refine KC.region ?_
              refine KT.step rfl rfl (K.move rfl) ?_
              refine KT.step rfl rfl (K.idxO (m := i) rfl rfl hil Try.underlying22 Try.size23) ?_
              refine KT.step rfl rfl (K.loadO (y := .d (nV (rN (nxN pre post) fs (mrk fs i) pre.length))) rfl r2_ (by simp) hrg Try.agg23) ?_
              refine KT.step rfl rfl (K.assign rfl) ?_
              refine KT.step rfl rfl (K.assign rfl) ?_
              refine KT.nil ?_
              refine thenK_n ?_
              refine KC.seq ?_
              refine KC.region ?_
              refine KT.step rfl rfl (K.move rfl) ?_
              refine KT.step rfl rfl (K.move rfl) ?_
              refine KT.idxI rfl rfl rfl (by assumption) rfl (by omega) Try.underlying23 Try.size3 fun cs52 => ?_
              refine KT.step rfl rfl (K.load rfl Try.agg3) ?_
              refine KT.step rfl rfl (K.geq rfl rfl) ?_
              refine KT.step rfl rfl (K.assign rfl) ?_
              refine KT.nil ?_
              refine thenK_n ?_
              refine KC.seq ?_
              refine KC.seq ?_
              refine KC.region ?_
              refine KT.step rfl rfl (K.move rfl) ?_
              refine KT.step rfl rfl (K.len rfl hrow Try.underlying23) ?_
              refine KT.step rfl rfl (K.move rfl) ?_
              refine KT.nil ?_
              refine thenK_n ?_
              refine KC.block ?_
              refine KC.loop (fun _ : Nat => σ3) (fun j => [(4, .optr gid 0), (29, .d (DI (pre.length : Nat))), (30, .d (DI (t : Nat))), (6, .d (DI (t : Nat))), (7, .osl cid 0 fs.length 1 fs.length true), (8, .d (DB ch)), (9, .d (DI (i : Nat))), (10, .d (nV (rN (nxN pre post) fs (mrk fs i) pre.length))), (11, .d (DB (nowK (rN (nxN pre post) fs (mrk fs i) pre.length) t C j))), (43, .osl rid 0 fs.length 1 fs.length exr), (44, .d (DI (fs.length : Nat))), (45, .d (DI (i : Nat))), (55, .d (nV (rN (nxN pre post) fs (mrk fs i) pre.length))), (56, .d (DI ((rN (nxN pre post) fs (mrk fs i) pre.length).length : Nat))), (57, .d (DI (j : Nat)))]) (fun j => j ≤ (rN (nxN pre post) fs (mrk fs i) pre.length).length) (fun j => (rN (nxN pre post) fs (mrk fs i) pre.length).length - j) 0 (Nat.zero_le _) rfl (by simp [Go.Vm.look, extK, enterK, nowK, List.getElem?_eq_getElem htr]) ?_
              intro j hj
              refine KC.seq ?_
              refine KC.region ?_
              refine KT.step rfl rfl (K.lss rfl rfl) ?_
              refine KT.nil ?_
              refine thenK_n ?_
              refine KC.seq ?_
              refine KC.cond rfl (fun hc58 => ?_) (fun hc58 => ?_)
              · skip
                replace hc58 := of_decide_eq_true hc58
                have hjl : j < (rN (nxN pre post) fs (mrk fs i) pre.length).length := by omega
                refine KC.skip ?_
                refine thenK_n ?_
                refine KC.seq ?_
                refine KC.block ?_
                refine KC.seq ?_
                refine KC.region ?_
                refine KT.idxI rfl rfl rfl (by assumption) rfl (by omega) Try.underlying23 Try.size3 fun cs59 => ?_
                refine KT.step rfl rfl (K.load rfl Try.agg3) ?_
                refine KT.step rfl rfl (K.assign rfl) ?_
                refine KT.nil ?_
                refine thenK_n ?_
                refine KC.region ?_
                refine KT.step rfl rfl (K.move rfl) ?_
                refine KT.step rfl rfl (K.move rfl) ?_
                refine KT.bcase (fun hb62 => ?_) (fun hb62 => ?_)
                · skip
                  refine KT.skip rfl rfl ?_
                  refine KT.skip rfl rfl ?_
                  refine KT.skip rfl rfl ?_
                  refine KT.skip rfl rfl ?_
                  refine KT.skip rfl rfl ?_
                  refine KT.skip rfl rfl ?_
                  refine KT.skip rfl rfl ?_
                  refine KT.skip rfl rfl ?_
                  refine KT.step rfl rfl (K.pick rfl (fun _ => rfl) (fun h => by cases h)) ?_
                  refine KT.step rfl rfl (K.assign rfl) ?_
                  refine KT.nil ?_
                  refine blockK_n ?_
                  refine thenK_n ?_
                  refine KC.region ?_
                  refine KT.step rfl rfl (K.add rfl rfl (wrap_id (by omega))) ?_
                  refine KT.step rfl rfl (K.move rfl) ?_
                  refine KT.nil ?_
                  refine thenK_n ?_
                  refine ⟨j + 1, by omega, by omega, rfl, ?_⟩
                  rw [nowK_succ hjl]
                  simp [Go.Vm.look, extK, hb62]
                · skip
                  refine KT.step rfl rfl (K.move rfl) ?_
                  refine KT.step rfl rfl (K.geq rfl rfl) ?_
                  refine KT.step rfl rfl (K.move rfl) ?_
                  refine KT.bcase (fun hb65 => ?_) (fun hb65 => ?_)
                  · skip
                    replace hb65 := of_decide_eq_true hb65
                    obtain ⟨q, hq0⟩ : ∃ q : Nat, (rN (nxN pre post) fs (mrk fs i) pre.length)[j] = (q : Int) := ⟨_, (Int.toNat_of_nonneg hb65).symm⟩
                    have hq := hq0
                    have hqN := (row_arc (nx := nxN pre post) (T := pre.length) (u := j) (q := q) hil (by omega)).1 (by rw [List.getD_eq_getElem?_getD, List.getElem?_eq_getElem hjl]; exact hq0)
                    have hqn : q < fs.length := by rw [← hNe] at hqN; rw [← hNl]; exact (hOk i _ hqN).2
                    have hqC : q < C.length := by rw [hqB.len]; omega
                    refine KT.step rfl rfl (K.move rfl) ?_
                    refine KT.step rfl rfl (K.move rfl) ?_
                    refine KT.step rfl rfl (K.idxO (m := q) rfl (congrArg (fun z => some (XV.d (DI z))) hq) hqn Try.underlying104 Try.size4) ?_
                    refine KT.step rfl rfl (K.loadO (y := .d (DB C[q])) rfl c2_ (by simp) (boolsX_get hqC) Try.agg4) ?_
                    refine KT.step rfl rfl (K.pick rfl (fun _ => rfl) (fun h => by cases h)) ?_
                    refine KT.step rfl rfl (K.pick rfl (fun h => by cases h) (fun _ => rfl)) ?_
                    refine KT.step rfl rfl (K.assign rfl) ?_
                    refine KT.nil ?_
                    refine blockK_n ?_
                    refine thenK_n ?_
                    refine KC.region ?_
                    refine KT.step rfl rfl (K.add rfl rfl (wrap_id (by omega))) ?_
                    refine KT.step rfl rfl (K.move rfl) ?_
                    refine KT.nil ?_
                    refine thenK_n ?_
                    refine ⟨j + 1, by omega, by omega, rfl, ?_⟩
                    rw [nowK_succ hjl]
                    simp [Go.Vm.look, extK, hb62, hb65, hq0, Int.toNat_natCast, List.getElem?_eq_getElem hqC]
                  · skip
                    replace hb65 := of_decide_eq_false hb65
                    refine KT.skip rfl rfl ?_
                    refine KT.skip rfl rfl ?_
                    refine KT.skip rfl rfl ?_
                    refine KT.skip rfl rfl ?_
                    refine KT.step rfl rfl (K.pick rfl (fun h => by cases h) (fun _ => rfl)) ?_
                    refine KT.step rfl rfl (K.pick rfl (fun h => by cases h) (fun _ => rfl)) ?_
                    refine KT.step rfl rfl (K.assign rfl) ?_
                    refine KT.nil ?_
                    refine blockK_n ?_
                    refine thenK_n ?_
                    refine KC.region ?_
                    refine KT.step rfl rfl (K.add rfl rfl (wrap_id (by omega))) ?_
                    refine KT.step rfl rfl (K.move rfl) ?_
                    refine KT.nil ?_
                    refine thenK_n ?_
                    refine ⟨j + 1, by omega, by omega, rfl, ?_⟩
                    rw [nowK_succ hjl]
                    simp [Go.Vm.look, extK, hb62, show ¬ 0 ≤ (rN (nxN pre post) fs (mrk fs i) pre.length)[j] from by omega]
              · skip
                replace hc58 := of_decide_eq_false hc58
                refine KC.exit ?_
                refine thenK_x ?_
                refine thenK_x ?_
                refine blockK_e ?_
                refine thenK_n ?_
                refine KC.seq ?_
                refine KC.region ?_
                refine KT.step rfl rfl (K.move rfl) ?_
                refine KT.step rfl rfl (K.move rfl) ?_
                refine KT.bcase (fun hb74 => ?_) (fun hb74 => ?_)
                · skip
                  refine KT.skip rfl rfl ?_
                  refine KT.skip rfl rfl ?_
                  refine KT.skip rfl rfl ?_
                  refine KT.skip rfl rfl ?_
                  refine KT.skip rfl rfl ?_
                  refine KT.skip rfl rfl ?_
                  refine KT.skip rfl rfl ?_
                  refine KT.skip rfl rfl ?_
                  refine KT.step rfl rfl (K.pick rfl (fun _ => rfl) (fun h => by cases h)) ?_
                  refine KT.step rfl rfl (K.assign rfl) ?_
                  refine KT.nil ?_
                  refine thenK_n ?_
                  refine KC.region ?_
                  refine KT.step rfl rfl (K.move rfl) ?_
                  refine KT.step rfl rfl (K.move rfl) ?_
                  refine KT.step rfl rfl (K.move rfl) ?_
                  refine KT.step rfl rfl (K.move rfl) ?_
                  refine KT.step rfl rfl (K.idxO (m := i) rfl rfl hil Try.underlying104 Try.size4) ?_
                  refine KT.step rfl rfl (K.loadO (y := .d (DB C[i])) rfl c2_ (by simp) (boolsX_get hiC) Try.agg4) ?_
                  refine KT.step rfl rfl (K.move rfl) ?_
                  refine KT.bcase (fun hb90 => ?_) (fun hb90 => ?_)
                  · skip
                    refine KT.skip rfl rfl ?_
                    refine KT.step rfl rfl (K.pick rfl (fun _ => rfl) (fun h => by cases h)) ?_
                    refine KT.step rfl rfl (K.idxO (m := i) rfl rfl hil Try.underlying104 Try.size4) ?_
                    refine KT.storeG rfl rfl rfl rfl c2_ (by rw [boolsX_len]; omega) rfl rfl Try.size4 fun σ4 l4 u4 v4 => ?_
                    rw [boolsX_set] at u4
                    have w1 := (v4 gid (by omega)).trans g2
                    have w2 := (v4 rid (by omega)).trans r2_
                    refine KT.nil ?_
                    refine blockK_n ?_
                    refine thenK_n ?_
                    refine KC.region ?_
                    refine KT.step rfl rfl (K.add rfl rfl (wrap_id (by omega))) ?_
                    refine KT.step rfl rfl (K.move rfl) ?_
                    refine KT.nil ?_
                    refine thenK_n ?_
                    have hjT : j = pre.length := by omega
                    have hni : nowK (rN (nxN pre post) fs (mrk fs i) pre.length) t C j = true ↔ NowB N t C i := by rw [hjT, hNe]; exact now_iff hil htl
                    refine ⟨(σ4, C.set i true, true, i + 1), ⟨⟨w1, w2⟩, u4, hqB.set hiC (fun h => ?_), by simp only; omega, fun h => ?_, ?_, fun h k hk => ?_⟩, by simp only; omega, rfl, by simp [Go.Vm.look, extK]⟩
                    · exact hqB.ok i (by rw [getB_lt hiC]; exact hb90)
                    · exact Nat.lt_of_le_of_lt (nf_le hiC (fun _ => rfl)) (hm hb74)
                    · exact Nat.le_trans (nf_le hiC (fun _ => rfl)) hm2
                    · cases h
                  · skip
                    refine KT.step rfl rfl (K.move rfl) ?_
                    refine KT.step rfl rfl (K.pick rfl (fun h => by cases h) (fun _ => rfl)) ?_
                    refine KT.step rfl rfl (K.idxO (m := i) rfl rfl hil Try.underlying104 Try.size4) ?_
                    refine KT.storeG rfl rfl rfl rfl c2_ (by rw [boolsX_len]; omega) rfl rfl Try.size4 fun σ4 l4 u4 v4 => ?_
                    rw [boolsX_set] at u4
                    have w1 := (v4 gid (by omega)).trans g2
                    have w2 := (v4 rid (by omega)).trans r2_
                    refine KT.nil ?_
                    refine blockK_n ?_
                    refine thenK_n ?_
                    refine KC.region ?_
                    refine KT.step rfl rfl (K.add rfl rfl (wrap_id (by omega))) ?_
                    refine KT.step rfl rfl (K.move rfl) ?_
                    refine KT.nil ?_
                    refine thenK_n ?_
                    have hjT : j = pre.length := by omega
                    have hni : nowK (rN (nxN pre post) fs (mrk fs i) pre.length) t C j = true ↔ NowB N t C i := by rw [hjT, hNe]; exact now_iff hil htl
                    refine ⟨(σ4, C.set i (nowK (rN (nxN pre post) fs (mrk fs i) pre.length) t C j), true, i + 1), ⟨⟨w1, w2⟩, u4, hqB.set hiC (fun h => ?_), by simp only; omega, fun h => ?_, ?_, fun h k hk => ?_⟩, by simp only; omega, rfl, by simp [Go.Vm.look, extK]⟩
                    · exact (hni.1 h).can hqB
                    · exact Nat.lt_of_le_of_lt (nf_le hiC (fun h9 => by rw [hb90] at h9; cases h9)) (hm hb74)
                    · exact Nat.le_trans (nf_le hiC (fun h9 => by rw [hb90] at h9; cases h9)) hm2
                    · cases h
                · skip
                  refine KT.step rfl rfl (K.move rfl) ?_
                  refine KT.step rfl rfl (K.move rfl) ?_
                  refine KT.bcase (fun hb76 => ?_) (fun hb76 => ?_)
                  · skip
                    refine KT.step rfl rfl (K.move rfl) ?_
                    refine KT.step rfl rfl (K.move rfl) ?_
                    refine KT.step rfl rfl (K.idxO (m := i) rfl rfl hil Try.underlying104 Try.size4) ?_
                    refine KT.step rfl rfl (K.loadO (y := .d (DB C[i])) rfl c2_ (by simp) (boolsX_get hiC) Try.agg4) ?_
                    refine KT.step rfl rfl (K.not rfl) ?_
                    refine KT.step rfl rfl (K.pick rfl (fun _ => rfl) (fun h => by cases h)) ?_
                    refine KT.step rfl rfl (K.pick rfl (fun h => by cases h) (fun _ => rfl)) ?_
                    refine KT.step rfl rfl (K.assign rfl) ?_
                    refine KT.nil ?_
                    refine thenK_n ?_
                    refine KC.region ?_
                    refine KT.step rfl rfl (K.move rfl) ?_
                    refine KT.step rfl rfl (K.move rfl) ?_
                    refine KT.step rfl rfl (K.move rfl) ?_
                    refine KT.step rfl rfl (K.move rfl) ?_
                    refine KT.step rfl rfl (K.idxO (m := i) rfl rfl hil Try.underlying104 Try.size4) ?_
                    refine KT.step rfl rfl (K.loadO (y := .d (DB C[i])) rfl c2_ (by simp) (boolsX_get hiC) Try.agg4) ?_
                    refine KT.step rfl rfl (K.move rfl) ?_
                    refine KT.bcase (fun hb90 => ?_) (fun hb90 => ?_)
                    · skip
                      refine KT.skip rfl rfl ?_
                      refine KT.step rfl rfl (K.pick rfl (fun _ => rfl) (fun h => by cases h)) ?_
                      refine KT.step rfl rfl (K.idxO (m := i) rfl rfl hil Try.underlying104 Try.size4) ?_
                      refine KT.storeG rfl rfl rfl rfl c2_ (by rw [boolsX_len]; omega) rfl rfl Try.size4 fun σ4 l4 u4 v4 => ?_
                      rw [boolsX_set] at u4
                      have w1 := (v4 gid (by omega)).trans g2
                      have w2 := (v4 rid (by omega)).trans r2_
                      refine KT.nil ?_
                      refine blockK_n ?_
                      refine thenK_n ?_
                      refine KC.region ?_
                      refine KT.step rfl rfl (K.add rfl rfl (wrap_id (by omega))) ?_
                      refine KT.step rfl rfl (K.move rfl) ?_
                      refine KT.nil ?_
                      refine thenK_n ?_
                      have hjT : j = pre.length := by omega
                      have hni : nowK (rN (nxN pre post) fs (mrk fs i) pre.length) t C j = true ↔ NowB N t C i := by rw [hjT, hNe]; exact now_iff hil htl
                      refine ⟨(σ4, C.set i true, (!C[i]), i + 1), ⟨⟨w1, w2⟩, u4, hqB.set hiC (fun h => ?_), by simp only; omega, fun h => ?_, ?_, fun h k hk => ?_⟩, by simp only; omega, rfl, by simp [Go.Vm.look, extK]⟩
                      · exact hqB.ok i (by rw [getB_lt hiC]; exact hb90)
                      · have hc : C[i] = false := by simpa using h
                        rw [hb90] at hc; cases hc
                      · exact Nat.le_trans (nf_le hiC (fun _ => rfl)) hm2
                      · have hc : C[i] = true := by simpa using h
                        simp only
                        rw [set_eq hiC hc]
                        by_cases e : k = i
                        · subst e; exact fun _ => by rw [getB_lt hiC]; exact hc
                        · exact hcl hb74 k (by simp only at hk; omega)
                    · skip
                      refine KT.step rfl rfl (K.move rfl) ?_
                      refine KT.step rfl rfl (K.pick rfl (fun h => by cases h) (fun _ => rfl)) ?_
                      refine KT.step rfl rfl (K.idxO (m := i) rfl rfl hil Try.underlying104 Try.size4) ?_
                      refine KT.storeG rfl rfl rfl rfl c2_ (by rw [boolsX_len]; omega) rfl rfl Try.size4 fun σ4 l4 u4 v4 => ?_
                      rw [boolsX_set] at u4
                      have w1 := (v4 gid (by omega)).trans g2
                      have w2 := (v4 rid (by omega)).trans r2_
                      refine KT.nil ?_
                      refine blockK_n ?_
                      refine thenK_n ?_
                      refine KC.region ?_
                      refine KT.step rfl rfl (K.add rfl rfl (wrap_id (by omega))) ?_
                      refine KT.step rfl rfl (K.move rfl) ?_
                      refine KT.nil ?_
                      refine thenK_n ?_
                      have hjT : j = pre.length := by omega
                      have hni : nowK (rN (nxN pre post) fs (mrk fs i) pre.length) t C j = true ↔ NowB N t C i := by rw [hjT, hNe]; exact now_iff hil htl
                      refine ⟨(σ4, C.set i (nowK (rN (nxN pre post) fs (mrk fs i) pre.length) t C j), (!C[i]), i + 1), ⟨⟨w1, w2⟩, u4, hqB.set hiC (fun h => ?_), by simp only; omega, fun h => ?_, ?_, fun h k hk => ?_⟩, by simp only; omega, rfl, by simp [Go.Vm.look, extK]⟩
                      · exact (hni.1 h).can hqB
                      · have hc : C[i] = false := by simpa using h
                        simp only
                        rw [show nowK (rN (nxN pre post) fs (mrk fs i) pre.length) t C j = true from hb76]
                        exact Nat.lt_of_lt_of_le (nf_set hiC hc) hm2
                      · exact Nat.le_trans (nf_le hiC (fun h9 => by rw [hb90] at h9; cases h9)) hm2
                      · have hc : C[i] = true := by simpa using h
                        rw [hb90] at hc; cases hc
                  · skip
                    refine KT.skip rfl rfl ?_
                    refine KT.skip rfl rfl ?_
                    refine KT.skip rfl rfl ?_
                    refine KT.skip rfl rfl ?_
                    refine KT.skip rfl rfl ?_
                    refine KT.step rfl rfl (K.pick rfl (fun h => by cases h) (fun _ => rfl)) ?_
                    refine KT.step rfl rfl (K.pick rfl (fun h => by cases h) (fun _ => rfl)) ?_
                    refine KT.step rfl rfl (K.assign rfl) ?_
                    refine KT.nil ?_
                    refine thenK_n ?_
                    refine KC.region ?_
                    refine KT.step rfl rfl (K.move rfl) ?_
                    refine KT.step rfl rfl (K.move rfl) ?_
                    refine KT.step rfl rfl (K.move rfl) ?_
                    refine KT.step rfl rfl (K.move rfl) ?_
                    refine KT.step rfl rfl (K.idxO (m := i) rfl rfl hil Try.underlying104 Try.size4) ?_
                    refine KT.step rfl rfl (K.loadO (y := .d (DB C[i])) rfl c2_ (by simp) (boolsX_get hiC) Try.agg4) ?_
                    refine KT.step rfl rfl (K.move rfl) ?_
                    refine KT.bcase (fun hb90 => ?_) (fun hb90 => ?_)
                    · skip
                      refine KT.skip rfl rfl ?_
                      refine KT.step rfl rfl (K.pick rfl (fun _ => rfl) (fun h => by cases h)) ?_
                      refine KT.step rfl rfl (K.idxO (m := i) rfl rfl hil Try.underlying104 Try.size4) ?_
                      refine KT.storeG rfl rfl rfl rfl c2_ (by rw [boolsX_len]; omega) rfl rfl Try.size4 fun σ4 l4 u4 v4 => ?_
                      rw [boolsX_set] at u4
                      have w1 := (v4 gid (by omega)).trans g2
                      have w2 := (v4 rid (by omega)).trans r2_
                      refine KT.nil ?_
                      refine blockK_n ?_
                      refine thenK_n ?_
                      refine KC.region ?_
                      refine KT.step rfl rfl (K.add rfl rfl (wrap_id (by omega))) ?_
                      refine KT.step rfl rfl (K.move rfl) ?_
                      refine KT.nil ?_
                      refine thenK_n ?_
                      have hjT : j = pre.length := by omega
                      have hni : nowK (rN (nxN pre post) fs (mrk fs i) pre.length) t C j = true ↔ NowB N t C i := by rw [hjT, hNe]; exact now_iff hil htl
                      refine ⟨(σ4, C.set i true, false, i + 1), ⟨⟨w1, w2⟩, u4, hqB.set hiC (fun h => ?_), by simp only; omega, fun h => ?_, ?_, fun h k hk => ?_⟩, by simp only; omega, rfl, by simp [Go.Vm.look, extK]⟩
                      · exact hqB.ok i (by rw [getB_lt hiC]; exact hb90)
                      · cases h
                      · exact Nat.le_trans (nf_le hiC (fun _ => rfl)) hm2
                      · simp only
                        rw [set_eq hiC hb90]
                        by_cases e : k = i
                        · subst e; exact fun hn => by rw [hni.2 hn] at hb76; cases hb76
                        · exact hcl hb74 k (by simp only at hk; omega)
                    · skip
                      refine KT.step rfl rfl (K.move rfl) ?_
                      refine KT.step rfl rfl (K.pick rfl (fun h => by cases h) (fun _ => rfl)) ?_
                      refine KT.step rfl rfl (K.idxO (m := i) rfl rfl hil Try.underlying104 Try.size4) ?_
                      refine KT.storeG rfl rfl rfl rfl c2_ (by rw [boolsX_len]; omega) rfl rfl Try.size4 fun σ4 l4 u4 v4 => ?_
                      rw [boolsX_set] at u4
                      have w1 := (v4 gid (by omega)).trans g2
                      have w2 := (v4 rid (by omega)).trans r2_
                      refine KT.nil ?_
                      refine blockK_n ?_
                      refine thenK_n ?_
                      refine KC.region ?_
                      refine KT.step rfl rfl (K.add rfl rfl (wrap_id (by omega))) ?_
                      refine KT.step rfl rfl (K.move rfl) ?_
                      refine KT.nil ?_
                      refine thenK_n ?_
                      have hjT : j = pre.length := by omega
                      have hni : nowK (rN (nxN pre post) fs (mrk fs i) pre.length) t C j = true ↔ NowB N t C i := by rw [hjT, hNe]; exact now_iff hil htl
                      refine ⟨(σ4, C.set i (nowK (rN (nxN pre post) fs (mrk fs i) pre.length) t C j), false, i + 1), ⟨⟨w1, w2⟩, u4, hqB.set hiC (fun h => ?_), by simp only; omega, fun h => ?_, ?_, fun h k hk => ?_⟩, by simp only; omega, rfl, by simp [Go.Vm.look, extK]⟩
                      · exact (hni.1 h).can hqB
                      · cases h
                      · exact Nat.le_trans (nf_le hiC (fun h9 => by rw [hb90] at h9; cases h9)) hm2
                      · simp only
                        rw [show nowK (rN (nxN pre post) fs (mrk fs i) pre.length) t C j = false from hb76, set_eq hiC hb90]
                        by_cases e : k = i
                        · subst e; exact fun hn => by rw [hni.2 hn] at hb76; cases hb76
                        · exact hcl hb74 k (by simp only at hk; omega)
            · skip
              replace hc46 := of_decide_eq_false hc46
              refine KC.exit ?_
              refine thenK_x ?_
              refine thenK_x ?_
              refine blockK_e ?_
              refine blockK_n ?_
              refine thenK_n ?_
              refine ⟨(σ3, C, ch), ⟨⟨g2, r2_⟩, c2_, hqB, fun h k hk => hcl h k (by omega)⟩, ?_, rfl, by simp [Go.Vm.look, extK]⟩
              simp only
              rw [hc39]
              cases ch with
              | true => have := hm rfl; simp; omega
              | false => simp <;> omega
          · skip
            refine KC.exit ?_
            refine thenK_x ?_
            refine thenK_x ?_
            refine blockK_e ?_
            refine thenK_n ?_
            refine KC.seq ?_
            refine KC.region ?_
            refine KT.step rfl rfl (K.move rfl) ?_
            refine KT.step rfl rfl (K.lenO rfl Try.underlying104) ?_
            refine KT.step rfl rfl (K.move rfl) ?_
            refine KT.nil ?_
            refine thenK_n ?_
            refine KC.block ?_
            refine KC.loop (fun _ : Nat => σ2) (fun j => [(4, .optr gid 0), (29, .d (DI (pre.length : Nat))), (30, .d (DI (t : Nat))), (95, .osl cid 0 fs.length 1 fs.length true), (96, .d (DI (fs.length : Nat))), (97, .d (DI (j : Nat)))]) (fun j => j ≤ fs.length ∧ ∀ k (h : k < C0.length), k < j → C0[k] = true) (fun j => fs.length - j) 0 ⟨Nat.zero_le _, fun k _ h => absurd h (Nat.not_lt_zero _)⟩ rfl (by simp [Go.Vm.look, extK, enterK]) ?_
            intro j hj
            obtain ⟨hj, htrue⟩ := hj
            refine KC.seq ?_
            refine KC.region ?_
            refine KT.step rfl rfl (K.lss rfl rfl) ?_
            refine KT.nil ?_
            refine thenK_n ?_
            refine KC.seq ?_
            refine KC.cond rfl (fun hc98 => ?_) (fun hc98 => ?_)
            · skip
              replace hc98 := of_decide_eq_true hc98
              have hjl : j < fs.length := by omega
              have hjC : j < C0.length := by rw [hq0.len]; omega
              refine KC.skip ?_
              refine thenK_n ?_
              refine KC.seq ?_
              refine KC.block ?_
              refine KC.seq ?_
              refine KC.region ?_
              refine KT.step rfl rfl (K.idxO (m := j) rfl rfl hjl Try.underlying104 Try.size4) ?_
              refine KT.step rfl rfl (K.loadO (y := .d (DB C0[j])) rfl c1 (by simp) (boolsX_get hjC) Try.agg4) ?_
              refine KT.step rfl rfl (K.assign rfl) ?_
              refine KT.nil ?_
              refine thenK_n ?_
              refine KC.seq ?_
              refine KC.region ?_
              refine KT.step rfl rfl (K.move rfl) ?_
              refine KT.step rfl rfl (K.not rfl) ?_
              refine KT.nil ?_
              refine thenK_n ?_
              refine KC.cond rfl (fun hc102 => ?_) (fun hc102 => ?_)
              · skip
                refine KC.seq ?_
                refine KC.region ?_
                refine KT.step rfl rfl (K.assign rfl) ?_
                refine KT.step rfl rfl (K.assign rfl) ?_
                refine KT.nil ?_
                refine thenK_n ?_
                refine KC.ret ?_
                refine blockK_r ?_
                refine thenK_r ?_
                refine thenK_r ?_
                refine blockK_r ?_
                refine blockK_r ?_
                refine thenK_r ?_
                refine thenK_r ?_
                refine blockK_r ?_
                refine thenK_r ?_
                have hrf := fb_no (hr fs hxo) fun h => by
                  have h1 := h j (by rw [← hNe, hNl]; exact hjl) t htl
                  rw [← hNe] at h1
                  have h2 := Can_closedB (fun k hk => hcl0 (by simpa using hc39) k (by omega)) h1
                  rw [getB_lt hjC] at h2
                  rw [h2] at hc102; simp at hc102
                refine ⟨.inl rfl, _, rfl, ?_⟩
                unfold livV
                rw [hxo, hxe, hrf]; rfl
              · skip
                refine KC.skip ?_
                refine blockK_n ?_
                refine thenK_n ?_
                refine KC.region ?_
                refine KT.step rfl rfl (K.add rfl rfl (wrap_id (by omega))) ?_
                refine KT.step rfl rfl (K.move rfl) ?_
                refine KT.nil ?_
                refine thenK_n ?_
                refine ⟨j + 1, ⟨by omega, fun k h hk => ?_⟩, by omega, rfl, by simp [Go.Vm.look, extK]⟩
                by_cases e : k = j
                · subst e; simpa using hc102
                · exact htrue k h (by omega)
            · skip
              replace hc98 := of_decide_eq_false hc98
              refine KC.exit ?_
              refine thenK_x ?_
              refine thenK_x ?_
              refine blockK_e ?_
              refine blockK_n ?_
              refine thenK_n ?_
              refine KC.region ?_
              refine KT.step rfl rfl (K.add rfl rfl (wrap_id (by omega))) ?_
              refine KT.step rfl rfl (K.move rfl) ?_
              refine KT.nil ?_
              refine thenK_n ?_
              refine ⟨(σ2, t + 1), ⟨by simp only; omega, ⟨g1, r1_⟩, fun u hu i hi => ?_⟩, by simp only; omega, rfl, by simp [Go.Vm.look, extK]⟩
              by_cases e : u = t
              · subst e
                have hiC : i < C0.length := by rw [hq0.len]; omega
                have h1 := htrue i hiC (by omega)
                exact hq0.ok i (by rw [getB_lt hiC]; exact h1)
              · exact hall u (by omega) i hi
        · skip
          replace hc31 := of_decide_eq_false hc31
          refine KC.exit ?_
          refine thenK_x ?_
          refine thenK_x ?_
          refine blockK_e ?_
          refine thenK_n ?_
          refine KC.seq ?_
          refine KC.region ?_
          refine KT.step rfl rfl (K.assign rfl) ?_
          refine KT.step rfl rfl (K.assign rfl) ?_
          refine KT.nil ?_
          refine thenK_n ?_
          refine KC.ret ?_
          obtain rfl : t = pre.length := by omega
          have hrt := (hr fs hxo).2 fun i hi u hu => by
            rw [← hNe] at hi ⊢
            exact hall u hu i (by omega)
          refine ⟨.inl rfl, _, rfl, ?_⟩
          unfold livV
          rw [hxo, hxe, hrt]; rfl
end Go.Proofs.Ytocgjopmlhpjdaa

