import Derived.Test.YthbnnffmhnjpjaaVmE
/-
  VALUES WITHOUT ADDRESSES, 6: the operations are sound: slices of slices, appends, new slices.
-/
namespace Go.Vm
open Go.RowKit

section
variable {P : Program} {M : Nat → Prop} {W0 w : World} {ι : List Nat} {σ : List VObj}

theorem low_run {F : Nat → Prop} {a : Act} {env : Nat → XV} (he : ∀ t, XRep w ι F (a.tmps.getD t undef) (env t)) (lo : Option Operand) {l h : Nat} (code : BoundsCode)
    (hl : boundOf (lo.map (evalX env)) 0 = some l) (hle : l ≤ h) :
    (match lo.map a.eval with
      | some v => Instr.sliceBound v h code
      | none => (pure 0 : Sem Nat)).run P w = .ok l w := by
  cases lo with
  | none => simp [boundOf] at hl; subst hl; simp
  | some x => exact boundOf_some (evalX_rep he x) hl h code hle

theorem bounds_run {F : Nat → Prop} {a : Act} {env : Nat → XV} (he : ∀ t, XRep w ι F (a.tmps.getD t undef) (env t)) (lo hi : Option Operand) {l h len cap : Nat}
    (hl : boundOf (lo.map (evalX env)) 0 = some l) (hh : boundOf (hi.map (evalX env)) len = some h) (h1 : l ≤ h) (h2 : h ≤ cap) :
    (Instr.sliceBounds true len cap (lo.map a.eval) (hi.map a.eval) none).run P w = .ok (l, h, cap) w := by
  have hlow := low_run (P := P) he lo .sliceB hl h1
  cases hi with
  | none =>
    simp [boundOf] at hh; subst hh
    simp only [Instr.sliceBounds, Option.map_none, Option.isSome_none, Bool.false_eq_true, if_false, Sem.run_bind, Sem.run_pure, Result.andThen_ok]
    cases lo <;> simp_all [Sem.run_bind]
  | some x =>
    have hr := boundOf_some (P := P) (evalX_rep he x) hh cap .sliceAcap h2
    simp only [Instr.sliceBounds, Option.map_some, Option.isSome_none, Bool.false_eq_true, if_false, if_true, Sem.run_bind, Sem.run_pure, Result.andThen_ok, hr]
    cases lo <;> simp_all [Sem.run_bind]

theorem bounds3_run {F : Nat → Prop} {a : Act} {env : Nat → XV} (he : ∀ t, XRep w ι F (a.tmps.getD t undef) (env t)) (lo : Option Operand) (hi mx : Operand) {l h m len cap : Nat}
    (hl : boundOf (lo.map (evalX env)) 0 = some l) (hh : boundOf (some (evalX env hi)) 0 = some h) (hm : boundOf (some (evalX env mx)) 0 = some m) (h1 : l ≤ h) (h2 : h ≤ m) (h3 : m ≤ cap) :
    (Instr.sliceBounds true len cap (lo.map a.eval) (some (a.eval hi)) (some (a.eval mx))).run P w = .ok (l, h, m) w := by
  have hlow := low_run (P := P) he lo .slice3C hl h1
  have hr := boundOf_some (P := P) (evalX_rep he hi) hh m .slice3B h2
  have hr2 := boundOf_some (P := P) (evalX_rep he mx) hm cap .slice3Acap h3
  simp only [Instr.sliceBounds, Option.isSome_some, if_true, Sem.run_bind, Sem.run_pure, Result.andThen_ok, hr, hr2]
  cases lo <;> simp_all [Sem.run_bind]

/-- A part of a deep slice. -/
theorem dslice {F : Nat → Prop} {a : Addr} {len cap k l h m : Nat} {cs : List DV} {capo capo' : Option Nat} (hx : DRep w F (.slice (some a) len cap) (.sl cs len capo)) (h1 : l ≤ h) (h2 : h ≤ m) (h3 : h * k ≤ cs.length)
    (hc' : ∀ c, capo' = some c → m - l = c) :
    DRep w F (.slice (some (if m = l then a else a.add (l * k))) (h - l) (m - l)) (.sl ((cs.drop (l * k)).take ((h - l) * k)) (h - l) capo') := by
  cases hx with
  | sl vs hl hc hn ha hcell hxx =>
    have hnil : DRep w F (.slice (some (if m = l then a else a.add (l * k))) (h - l) (m - l)) (.sl [] (h - l) capo') :=
      .sl [] (by omega) hc' rfl (fun h => absurd rfl h) (fun i v h => by simp at h) (fun i v x h => by simp at h)
    by_cases hne : (cs.drop (l * k)).take ((h - l) * k) = []
    · rw [hne]; exact hnil
    · have hne0 : cs ≠ [] := by intro e; subst e; simp at hne
      have hlt : l < h := by
        rcases Nat.lt_or_ge l h with h | h
        · exact h
        · exfalso; apply hne; rw [Nat.sub_eq_zero_of_le h]; simp
      rw [if_neg (by omega)]
      obtain ⟨hsp, hf⟩ := ha hne0
      rw [addr_eta hsp, add_lit']
      refine .sl ((vs.drop (l * k)).take ((h - l) * k)) (by omega) hc' (by simp [hn]) (fun _ => ⟨rfl, hf⟩) (fun i v hv => ?_) (fun i v x hv hx => ?_)
      · rw [List.getElem?_take] at hv
        split at hv
        · rw [List.getElem?_drop] at hv
          have := hcell _ _ hv
          simpa [Nat.add_assoc] using this
        · cases hv
      · rw [List.getElem?_take] at hv hx
        split at hv
        · rename_i hlt
          rw [if_pos hlt] at hx
          rw [List.getElem?_drop] at hv hx
          exact hxx _ _ _ hv hx
        · cases hv

theorem opSlice_sound {F : Nat → Prop} {a : Act} {env : Nat → XV} (he : ∀ t, XRep w ι F (a.tmps.getD t undef) (env t)) {t : TypeId} (ox : Operand) (lo hi mx : Option Operand) {r : XV}
    (h : opSlice P t (evalX env ox) (lo.map (evalX env)) (hi.map (evalX env)) (mx.map (evalX env)) = some r) :
    ∃ u, (Instr.sliceAt t (a.eval ox) (lo.map a.eval) (hi.map a.eval) (mx.map a.eval)).run P w = .ok u w ∧ XRep w ι F u r := by
  have hx := evalX_rep he ox
  revert h hx
  generalize evalX env ox = x
  generalize a.eval ox = vx
  intro h hx
  unfold opSlice at h
  split at h
  · rename_i e hu hmx
    cases mx with
    | some _ => simp at hmx
    | none =>
    split at h
    · rename_i k cs len capo hs
      split at h
      · rename_i l hh hl hhi
        split at h
        · rename_i hc
          cases h
          cases hx with
          | d hx => cases hx with
            | @sl ad _ cap _ _ vs hle hcc hn ha hcell hxx =>
              refine ⟨_, ?_, .d (dslice (m := cap) (.sl vs hle hcc hn ha hcell hxx) hc.1 (by omega) hc.2.2 (fun c hcc' => ?_))⟩
              · simp [Instr.sliceAt, Instr.slice, run_underlying hu, bounds_run (P := P) he lo hi hl hhi hc.1 (by omega : hh ≤ cap), run_sizeOf' hs]
                by_cases e : cap = l <;> simp [e]
              · cases capo with
                | none => simp at hcc'
                | some c0 => simp at hcc'; have := hcc _ rfl; omega
        · cases h
      · cases h
    · rename_i k id off len k' lo' ex hs
      split at h
      · rename_i l hh hl hhi
        split at h
        · rename_i hc
          cases h
          obtain ⟨h1, h2, rfl, h4⟩ := hc
          cases hx with
          | @osl b _ _ cap _ _ _ _ hb hl' hlo hex hsz =>
            obtain ⟨ty, sz, s1, s2⟩ := hsz
            refine ⟨.slice (some ⟨b, off + l * k', none⟩) (hh - l) (cap - l), ?_, .osl hb (by omega) (by omega) (fun h => by have := hex h; omega) ⟨ty, sz, s1, ?_⟩⟩
            · simp [Instr.sliceAt, Instr.slice, run_underlying hu, bounds_run (P := P) he lo hi hl hhi h1 (by omega : hh ≤ cap), run_sizeOf' hs]
              by_cases e : cap = l
              · rcases h4 with h4 | h4
                · omega
                · subst h4; simp [e]
              · simp [e, add_lit']
            · rw [Nat.add_assoc, ← Nat.add_mul]
              have : l + (cap - l) = cap := by omega
              rw [this]; exact s2
        · cases h
      · cases h
    · cases h
  · rename_i e m hu hmx
    split at h
    · rename_i k cs len capo hs
      split at h
      · rename_i l hh m' hl hhi hmm
        split at h
        · rename_i hc
          cases h
          obtain ⟨c1, c2, c3, c4, c5⟩ := hc
          cases mx with
          | none => simp at hmx
          | some omx =>
          cases hi with
          | none => simp at c1
          | some ohi =>
          simp at hmx
          subst hmx
          cases hx with
          | d hx => cases hx with
            | @sl ad _ cap _ _ vs hle hcc hn ha hcell hxx =>
              refine ⟨_, ?_, .d (dslice (m := m') (.sl vs hle hcc hn ha hcell hxx) c2 c3 c5 (fun c hcc' => by cases hcc'; rfl))⟩
              · simp [Instr.sliceAt, Instr.slice, run_underlying hu, bounds3_run (P := P) (len := len) he lo ohi omx hl hhi hmm c2 c3 (by omega : m' ≤ cap), run_sizeOf' hs]
                by_cases e : m' = l <;> simp [e]
        · cases h
      · cases h
    · cases h
  · cases h

/-- The source of an append: its cells in the world. -/
theorem boundsA_run {F : Nat → Prop} {a : Act} {env : Nat → XV} (he : ∀ t, XRep w ι F (a.tmps.getD t undef) (env t)) (lo hi : Option Operand) {l h len cap : Nat}
    (hl : boundOf (lo.map (evalX env)) 0 = some l) (hh : boundOf (hi.map (evalX env)) len = some h) (h1 : l ≤ h) (h2 : h ≤ cap) :
    (Instr.sliceBounds false len cap (lo.map a.eval) (hi.map a.eval) none).run P w = .ok (l, h, cap) w := by
  have hlow := low_run (P := P) he lo .sliceB hl h1
  cases hi with
  | none =>
    simp [boundOf] at hh; subst hh
    simp only [Instr.sliceBounds, Option.map_none, Option.isSome_none, Bool.false_eq_true, if_false, Sem.run_bind, Sem.run_pure, Result.andThen_ok]
    cases lo <;> simp_all [Sem.run_bind]
  | some x =>
    have hr := boundOf_some (P := P) (evalX_rep he x) hh cap .sliceAlen h2
    simp only [Instr.sliceBounds, Option.map_some, Option.isSome_none, Bool.false_eq_true, if_false, if_true, Sem.run_bind, Sem.run_pure, Result.andThen_ok, hr]
    cases lo <;> simp_all [Sem.run_bind]

theorem opSliceA_sound (hm : Mem M W0 ι σ w) {a : Act} {env : Nat → XV} (he : ∀ t, XRep w ι (Forb M ι σ) (a.tmps.getD t undef) (env t)) {t : TypeId} (ox : Operand) (lo hi mx : Option Operand) {r : XV}
    (h : opSliceA P σ t (evalX env ox) (lo.map (evalX env)) (hi.map (evalX env)) (mx.map (evalX env)) = some r) :
    ∃ u, (Instr.sliceAt t (a.eval ox) (lo.map a.eval) (hi.map a.eval) (mx.map a.eval)).run P w = .ok u w ∧ XRep w ι (Forb M ι σ) u r := by
  have hx := evalX_rep he ox
  revert h hx
  generalize evalX env ox = x
  generalize a.eval ox = vx
  intro h hx
  unfold opSliceA at h
  split at h
  case h_2 => cases h
  rename_i id off
  split at h
  case h_2 => cases h
  rename_i n e hu hmx
  cases mx with
  | some _ => simp at hmx
  | none =>
  split at h
  case h_2 => cases h
  rename_i ob ho
  split at h
  case h_2 => cases h
  rename_i k l hh hk hl hhi
  split at h
  case isFalse => cases h
  rename_i hc
  cases h
  obtain ⟨h2, c1, c2, c3, c4⟩ := hc
  cases hx with
  | @optr b _ _ hb =>
  obtain ⟨cur, ty, q1, q2, _⟩ := hm.cells ho hb h2
  refine ⟨.slice (some ⟨b, off + l * k, none⟩) (hh - l) (n - l), ?_, .osl hb (by omega) (Nat.le_refl _) (fun _ => rfl) ⟨ty, _, shape_of_heap q1, ?_⟩⟩
  · simp [Instr.sliceAt, Instr.sureAddr, run_underlying hu, boundsA_run (P := P) he lo hi hl hhi c1 c2, run_sizeOf' hk, add_lit', show ¬ n = l by omega]
  · rw [Nat.add_assoc, ← Nat.add_mul, show l + (n - l) = n by omega]; omega

theorem srcCells_sound (hm : Mem M W0 ι σ w) {k : Nat} {v : Value} {x : XV} (hx : XRep w ι (Forb M ι σ) v x) {news : List XV} {m fl : Nat} (h : srcCells σ k x = some (news, m, fl)) :
    (v = .slice none 0 0 ∧ m = 0 ∧ news = []) ∨
    ∃ (ad : Addr) (cap : Nat) (vs : List Value), v = .slice (some ad) m cap ∧ vs.length = m * k ∧ news.length = m * k ∧ (∀ j v, vs[j]? = some v → w.cell? (ad.add j) = some v) ∧
      (∀ (i : Nat) (v : Value) (x : XV), vs[i]? = some v → news[i]? = some x → XRep w ι (Forb M ι σ) v x) := by
  unfold srcCells at h
  split at h
  · cases h
    cases hx with
    | d hx => cases hx; exact .inl ⟨rfl, rfl, rfl⟩
  · rename_i cs len capo
    split at h
    · rename_i hle
      cases h
      right
      cases hx with
      | d hx => cases hx with
        | @sl ad _ cap _ _ vs hl hcc hn ha hcell hxx =>
          refine ⟨ad, cap, vs.take (m * k), rfl, by simp [hn]; omega, by simp; omega, fun j v hv => ?_, fun i v x hv hx' => ?_⟩
          · rw [List.getElem?_take] at hv
            split at hv
            · have hne : cs ≠ [] := by intro e; subst e; simp at hn; subst hn; simp at hv
              rw [addr_eta (ha hne).1, add_lit']; exact hcell j v hv
            · cases hv
          · rw [List.getElem?_take] at hv
            simp only [List.getElem?_map, List.getElem?_take, Option.map_eq_some_iff] at hx'
            obtain ⟨z, hz, rfl⟩ := hx'
            split at hv
            · rename_i hlt
              rw [if_pos hlt] at hz
              exact .d (hxx i v z hv hz)
            · cases hv
    · cases h
  · rename_i id off len k' lo ex
    split at h
    · rename_i ob ho
      split at h
      · rename_i hc
        cases h
        obtain ⟨h2, rfl, hle⟩ := hc
        right
        cases hx with
        | @osl b _ _ cap _ _ _ _ hb hl' hlo hex hsz =>
          obtain ⟨cur, ty, k1, k2, hcs⟩ := hm.cells ho hb h2
          have hcs' := (hcs.drop off).take (m * k')
          refine ⟨⟨b, off, none⟩, cap, _, rfl, ?_, by simp; omega, fun j v hv => by rw [add_lit']; simpa using hcs'.cell j v hv, hcs'.rep⟩
          rw [hcs'.len]; simp; omega
      · cases h
    · cases h
  · cases h

theorem ones {F : Nat → Prop} {vs : List Value} {xs : List XV} (hl : vs.length = xs.length) (hx : ∀ (i : Nat) (v : Value) (x : XV), vs[i]? = some v → xs[i]? = some x → XRep w ι F v x) (h1 : xs.all oneX = true) :
    ∀ v ∈ vs, v.oneCell' = true := by
  intro v hv
  obtain ⟨i, hi⟩ := List.getElem?_of_mem hv
  have hlt : i < xs.length := by rw [← hl]; exact (List.getElem?_eq_some_iff.1 hi).1
  exact oneX_rep (hx i v _ hi (List.getElem?_eq_getElem hlt)) (List.all_eq_true.1 h1 _ (List.getElem_mem hlt))

theorem bytes_of_info {t : TypeId} {i : TypeInfo} (h : P.info? t = some i) : bytesT P t = i.bytes := by simp [bytesT, h]

/-- A new row for what was there and what is appended. -/
theorem grow_sound (hm : Mem M W0 ι σ w) {e : TypeId} {k need old : Nat} {cells : List XV} {r : XV × List VObj} (h : growTo P σ e k need cells = some r) (hk : sizeT P e = some k)
    {vs : List Value} (hl : vs.length = cells.length) (hn : cells.length = need * k) (hx : ∀ (i : Nat) (v : Value) (x : XV), vs[i]? = some v → cells[i]? = some x → XRep w ι (Forb M ι σ) v x)
    {z : Value} {i : TypeInfo} (hi : P.info? e = some i) (hz : i.zero = some z) :
    ∃ (ι' : List Nat), Mem M W0 ι' r.2 (w.drew.alloc (.cells (vs.toArray ++ Builtin.zeroCells z.cells (grownCap w need old e - need)) e)) ∧
      Ext M ι σ w ι' r.2 (w.drew.alloc (.cells (vs.toArray ++ Builtin.zeroCells z.cells (grownCap w need old e - need)) e)) ∧
      XRep (w.drew.alloc (.cells (vs.toArray ++ Builtin.zeroCells z.cells (grownCap w need old e - need)) e)) ι' (Forb M ι' r.2) (.slice (some ⟨w.heap.size, 0, none⟩) need (grownCap w need old e)) r.1 := by
  unfold growTo at h
  split at h
  · rename_i hc
    cases h
    obtain ⟨c1, c2, c3⟩ := hc
    have hzs : z.cells.size = k := by
      simp [zeroT, hi, hz] at c3; exact c3
    obtain ⟨h1, h2⟩ := hm.push (w1 := w.drew) rfl (Below.drew (below_refl _ w)) (vs.toArray ++ Builtin.zeroCells z.cells (grownCap w need old e - need)) e cells (by simp; omega) (fun i x hx' => by
      have hlt : i < vs.length := by rw [hl]; exact (List.getElem?_eq_some_iff.1 hx').1
      refine ⟨vs[i], ?_, hx i _ x (List.getElem?_eq_getElem hlt) hx'⟩
      rw [Array.getElem?_append_left (by simpa using hlt)]; simp [hlt])
    refine ⟨_, h1, h2, .osl (by simp [hm.len]) (Nat.le_refl _) (grownCap_ge w need old e) (fun h => by cases h) ⟨e, _, shape_of_heap (Go.heap_alloc_new _ _), ?_⟩⟩
    simp only [Array.size_append, List.size_toArray, size_zeroCells, hzs, hl, hn, Nat.zero_add, ← Nat.add_mul]
    have := grownCap_ge w need old e
    exact Nat.mul_le_mul_right _ (by omega)
  · cases h

theorem grow_info {e : TypeId} {k need : Nat} {cells : List XV} {r : XV × List VObj} (h : growTo P σ e k need cells = some r) : ∃ z i, P.info? e = some i ∧ i.zero = some z ∧ need ≤ 1073741824 ∧ i.bytes ≤ 65536 := by
  unfold growTo at h
  split at h
  · rename_i hc
    obtain ⟨c1, c2, c3⟩ := hc
    simp only [Option.map_eq_some_iff] at c3
    obtain ⟨z, hz, _⟩ := c3
    obtain ⟨i, hi, hzi⟩ := info_of_zero hz
    exact ⟨z, i, hi, hzi, c1, by rw [← bytes_of_info hi]; exact c2⟩
  · cases h

theorem mul_small {n b : Nat} (h1 : n ≤ 1073741824) (h2 : b ≤ 65536) : n * b ≤ 140737488355328 :=
  Nat.le_trans (Nat.mul_le_mul h1 h2) (by decide)

end
end Go.Vm

