import Derived.Test.YthbnnffmhnjpjaaVmF
/-
  VALUES WITHOUT ADDRESSES, 7: append, make, literals; all operations together.
-/
namespace Go.Vm
open Go.RowKit

section
variable {P : Program} {M : Nat → Prop} {W0 w : World} {ι : List Nat} {σ : List VObj}

theorem run_append_zero {t ty e : TypeId} {k : Nat} (ht : P.underlying t = some (.slice e)) (hk : sizeT P e = some k) (base : Option Addr) (n cap : Nat) (hn : n ≤ cap) (vx : Value)
    (hx : vx = .slice none 0 0 ∨ ∃ ad c, vx = .slice (some ad) 0 c) :
    (Builtin.append_ #[t, t] ty #[.slice base n cap, vx]).run P w = .ok (.slice base n cap) w := by
  obtain ⟨i, hi, rfl⟩ := info_of_size hk
  rcases hx with rfl | ⟨ad, c, rfl⟩ <;> cases base <;>
    simp [Builtin.append_, run_underlying ht, sizeOf, typeInfo, hi, Builtin.lenOf, Builtin.firstCells, loadCells, loadCellsFrom, storeCells, hn]

theorem run_append_here {t ty e : TypeId} {k : Nat} (ht : P.underlying t = some (.slice e)) (hk : sizeT P e = some k)
    (g off sLen sCap : Nat) (cur : Array Value) (et : TypeId) (hg : w.heap[g]? = some (.cells cur et (0, 0)))
    (a : Addr) (m c : Nat) (news : List Value) (hl : news.length = m * k) (hnews : ∀ j u, news[j]? = some u → w.cell? (a.add j) = some u) (h1 : ∀ u ∈ news, u.oneCell' = true)
    (hroom : sLen + m ≤ sCap) (hfit : off + sLen * k + news.length ≤ cur.size) :
    (Builtin.append_ #[t, t] ty #[.slice (some ⟨g, off, none⟩) sLen sCap, .slice (some a) m c]).run P w =
      .ok (.slice (some ⟨g, off, none⟩) (sLen + m) sCap) (w.setRow g (splice cur.toList (off + sLen * k) news).toArray) := by
  obtain ⟨i, hi, rfl⟩ := info_of_size hk
  have hf := run_firstCells_some (P := P) w i.size m a m c news hl hnews
  have hst := run_storeCells_at P g (off + sLen * i.size) et news 0 cur w hg (by simpa using hfit) h1
  simp only [Nat.add_zero] at hst
  simp [Builtin.append_, run_underlying ht, sizeOf, typeInfo, hi, Builtin.lenOf, hroom, hf, add_lit', hst, splice]

theorem small63 {n : Nat} (h : n ≤ 1073741824) : ((n : Nat) : Int) ≤ 9223372036854775807 := by omega

set_option maxHeartbeats 1000000 in
theorem opAppend_sound (hm : Mem M W0 ι σ w) {ts : Array TypeId} {ty : TypeId} {vs vx : Value} {s x : XV} (hs : XRep w ι (Forb M ι σ) vs s) (hx : XRep w ι (Forb M ι σ) vx x) {r : XV × List VObj}
    (h : opAppend P σ ts s x = some r) :
    ∃ (ι' : List Nat) (w' : World) (v : Value), (Builtin.append_ ts ty #[vs, vx]).run P w = .ok v w' ∧ Mem M W0 ι' r.2 w' ∧ Ext M ι σ w ι' r.2 w' ∧ XRep w' ι' (Forb M ι' r.2) v r.1 := by
  unfold opAppend at h
  split at h
  case h_2 => cases h
  rename_i t u hts
  split at h
  case isFalse => cases h
  rename_i htu
  subst htu
  have hts' : ts = #[t, t] := by cases ts; simp at hts; subst hts; rfl
  subst hts'
  split at h
  case h_2 => cases h
  rename_i e hu
  split at h
  case h_2 => cases h
  rename_i k hk
  split at h
  case h_2 => cases h
  rename_i news m fl hsrc
  split at h
  case isFalse => cases h
  rename_i hone
  have hsrc' := srcCells_sound hm hx hsrc
  split at h
  · -- nothing is appended
    rename_i hm0
    subst hm0
    have hx0 : vx = .slice none 0 0 ∨ ∃ ad c, vx = .slice (some ad) 0 c := by
      rcases hsrc' with ⟨h1, _⟩ | ⟨ad, c, _, h1, _⟩
      · exact .inl h1
      · exact .inr ⟨ad, c, h1⟩
    split at h
    · cases h
      cases hs with
      | d hs => cases hs; exact ⟨ι, w, _, run_append_zero hu hk none 0 0 (Nat.le_refl _) vx hx0, hm, .refl _ _ _ _, .d (.lit _)⟩
    · cases h
      cases hs with
      | d hs => cases hs with
        | sl us hl hc hn ha hcell hxx => exact ⟨ι, w, _, run_append_zero hu hk _ _ _ hl vx hx0, hm, .refl _ _ _ _, .d (.sl us hl hc hn ha hcell hxx)⟩
    · cases h
      cases hs with
      | osl hb hl hlo hex hsz => exact ⟨ι, w, _, run_append_zero hu hk _ _ _ (by omega) vx hx0, hm, .refl _ _ _ _, .osl hb hl hlo hex hsz⟩
    · cases h
  · rename_i hm0
    rcases hsrc' with ⟨_, h1, _⟩ | ⟨ad, c, vn, rfl, hvl, hnl, hvc, hvr⟩
    · exact absurd h1 hm0
    have h1s := ones (by omega) hvr hone
    split at h
    · -- onto nil
      cases hs with
      | d hs =>
      cases hs
      obtain ⟨z, i, hi, hz, c1, c2⟩ := grow_info h
      obtain ⟨_, hi', hke⟩ := info_of_size hk
      rw [hi] at hi'; cases hi'
      obtain ⟨ι', g1, g2, g3⟩ := grow_sound hm (old := 0) h hk (vs := vn) (by omega) hnl hvr hi hz
      refine ⟨ι', _, _, ?_, g1, g2, g3⟩
      exact run_append_nil w t ty e i z hu hi hz ad m c vn (by rw [hke]; exact hvl) hvc (by omega) (small63 c1) (by have := mul_small c1 c2; omega)
    · -- onto a deep slice without room
      rename_i cs len c0
      split at h
      · rename_i hc
        cases hs with
        | d hs => cases hs with
          | @sl a0 _ cap _ _ us hl hcc hn ha hcell hxx =>
          have := hcc _ rfl
          subst this
          obtain ⟨z, i, hi, hz, c1, c2⟩ := grow_info h
          obtain ⟨_, hi', hke⟩ := info_of_size hk
          rw [hi] at hi'; cases hi'
          have hul : (us.take (len * k)).length = len * k := by simp [hn]; omega
          obtain ⟨ι', g1, g2, g3⟩ := grow_sound hm (old := cap) h hk (vs := us.take (len * k) ++ vn) (by simp [hn, hvl, hnl]) (by simp [hnl, Nat.add_mul]; omega) (fun j v y hv hy => by
            by_cases hj : j < len * k
            · rw [List.getElem?_append_left (by omega), List.getElem?_take, if_pos hj] at hv
              rw [List.getElem?_append_left (by simp; omega), List.getElem?_map, List.getElem?_take, if_pos hj] at hy
              simp only [Option.map_eq_some_iff] at hy
              obtain ⟨q, hq, rfl⟩ := hy
              exact .d (hxx j v q hv hq)
            · rw [List.getElem?_append_right (by omega), hul] at hv
              have hcl : ((cs.take (len * k)).map XV.d).length = len * k := by simp; omega
              rw [List.getElem?_append_right (by omega), hcl] at hy
              exact hvr _ _ _ hv hy) hi hz
          refine ⟨ι', _, _, ?_, g1, g2, g3⟩
          have hr := run_append_grow (P := P) w t ty e i z hu hi hz a0 len cap (us.take (len * k)) (by rw [hke]; exact hul) (fun j v hv => by
              rw [List.getElem?_take] at hv
              split at hv
              · have hne : cs ≠ [] := by intro e; subst e; simp at hn; subst hn; simp at hv
                rw [addr_eta (ha hne).1, add_lit']; exact hcell j v hv
              · cases hv) ad m c vn (by rw [hke]; exact hvl) hvc hc.1 (small63 c1) (growslice_fits hc.1 (mul_small c1 c2))
          simpa using hr
      · cases h
    · -- onto a slice of the call's own
      rename_i id off len k' lo ex
      split at h
      case h_2 => cases h
      rename_i ob ho
      split at h
      case isFalse => cases h
      rename_i hkk
      subst hkk
      cases hs with
      | @osl b _ _ cap _ _ _ _ hb hl hlo hex hsz =>
      obtain ⟨sty, sz, s1, s2⟩ := hsz
      split at h
      · -- there is room
        rename_i hroom
        split at h
        case isFalse => cases h
        rename_i hc
        cases h
        obtain ⟨h0, hfit⟩ := hc
        obtain ⟨cur, et, q1, q2, hcs⟩ := hm.cells ho hb (by omega)
        rw [Nat.add_mul, ← Nat.add_assoc] at hfit
        obtain ⟨w1, w2⟩ := hm.write ho hb h0 q1 (off + len * k') vn news (by omega) (by omega) hvr
        refine ⟨ι, _, _, run_append_here hu hk b off len cap cur et q1 ad m c vn hvl hvc h1s (by omega) (by omega), w1, w2, ?_⟩
        exact .osl (w2.pre _ _ hb) hroom hlo hex ⟨sty, sz, w2.shape _ _ s1, s2⟩
      · rename_i hroom
        split at h
        · -- the capacity is known, and there is no room
          rename_i hexx
          split at h
          case isFalse => cases h
          rename_i hc
          have hcap := hex hexx
          subst hcap
          obtain ⟨cur, et, q1, q2, hcs⟩ := hm.cells ho hb hc.1
          have hcs' := (hcs.drop off).take (len * k')
          obtain ⟨z, i, hi, hz, c1, c2⟩ := grow_info h
          obtain ⟨_, hi', hke⟩ := info_of_size hk
          rw [hi] at hi'; cases hi'
          have hol : ((ob.cells.drop off).take (len * k')).length = len * k' := by simp; omega
          have hul : (((cur.toList.take ob.cells.length).drop off).take (len * k')).length = len * k' := by rw [hcs'.len, hol]
          obtain ⟨ι', g1, g2, g3⟩ := grow_sound hm (old := cap) h hk (vs := ((cur.toList.take ob.cells.length).drop off).take (len * k') ++ vn)
            (by rw [List.length_append, List.length_append, hul, hol]; omega) (by rw [List.length_append, hol, Nat.add_mul]; omega) (fun j v y hv hy => by
            by_cases hj : j < len * k'
            · rw [List.getElem?_append_left (by omega)] at hv hy
              exact hcs'.rep j v y hv hy
            · rw [List.getElem?_append_right (by omega), hul] at hv
              rw [List.getElem?_append_right (by omega), hol] at hy
              exact hvr _ _ _ hv hy) hi hz
          refine ⟨ι', _, _, ?_, g1, g2, g3⟩
          have hr := run_append_grow (P := P) w t ty e i z hu hi hz ⟨b, off, none⟩ len cap _ (by rw [hke]; exact hul) (fun j v hv => by
              rw [add_lit']; simpa using hcs'.cell j v hv) ad m c vn (by rw [hke]; exact hvl) hvc (by omega) (small63 c1) (growslice_fits (by omega) (mul_small c1 c2))
          simpa using hr
        · -- the capacity is not known: both ways
          split at h
          case isFalse => cases h
          rename_i hc
          cases h
          obtain ⟨h0, rfl, hlen, c1, c2, c3⟩ := hc
          obtain ⟨cur, et, q1, q2, hcs⟩ := hm.cells ho hb (by omega)
          have hsz : sz = cur.size := by rw [shape_of_heap q1] at s1; cases s1; rfl
          subst hsz
          by_cases hin : len + m ≤ cap
          · have hle : (len + m) * k' ≤ cap * k' := Nat.mul_le_mul_right _ hin
            rw [Nat.add_mul] at hle
            obtain ⟨w1, w2⟩ := hm.extend ho hb h0 q1 vn news (by omega) (by omega) hvr
            have hr := run_append_here (P := P) (ty := ty) hu hk b 0 len cap cur et q1 ad m c vn hvl hvc h1s hin (by omega)
            rw [show 0 + len * k' = ob.cells.length by omega] at hr
            exact ⟨ι ++ [b], _, _, hr, w1, w2, .osl (by simp [hm.len]) (Nat.le_refl _) hin (fun h => by cases h) ⟨sty, _, w2.shape _ _ s1, s2⟩⟩
          · obtain ⟨t1, t2⟩ := hm.tamed (σ' := σ.set id ⟨ob.cells, 2⟩) (by simp) (fun j o' hj => by
              rcases set_get _ _ _ _ _ hj with ⟨rfl, rfl, _⟩ | ⟨_, hj'⟩
              · exact ⟨ob, ho, rfl, fun _ => h0, fun h => absurd rfl h⟩
              · exact ⟨o', hj', rfl, fun h => h, fun h => h⟩)
            simp only [Option.map_eq_some_iff] at c3
            obtain ⟨z, hz0, hzs⟩ := c3
            obtain ⟨i, hi, hz⟩ := info_of_zero hz0
            obtain ⟨_, hi', hke⟩ := info_of_size hk
            rw [hi] at hi'; cases hi'
            rw [bytes_of_info hi] at c2
            have hgr : growTo P (σ.set id ⟨ob.cells, 2⟩) e k' (len + m) (ob.cells ++ news) = some (.osl σ.length 0 (len + m) k' (len + m) false, (σ.set id ⟨ob.cells, 2⟩) ++ [⟨ob.cells ++ news, 0⟩]) := by
              simp [growTo, c1, bytes_of_info hi, c2, hz0, hzs]
            have hul : (cur.toList.take ob.cells.length).length = ob.cells.length := hcs.len
            obtain ⟨ι', g1, g2, g3⟩ := grow_sound t1 (old := cap) hgr hk (vs := cur.toList.take ob.cells.length ++ vn)
              (by rw [List.length_append, List.length_append, hul]; omega) (by rw [List.length_append, Nat.add_mul]; omega) (fun j v y hv hy => by
              by_cases hj : j < ob.cells.length
              · rw [List.getElem?_append_left (by omega)] at hv hy
                exact (hcs.rep j v y hv hy).ext t2
              · rw [List.getElem?_append_right (by omega), hul] at hv
                rw [List.getElem?_append_right (by omega)] at hy
                exact (hvr _ _ _ hv hy).ext t2) hi hz
            refine ⟨ι', _, _, ?_, g1, t2.trans g2, g3⟩
            have hr := run_append_grow (P := P) w t ty e i z hu hi hz ⟨b, 0, none⟩ len cap (cur.toList.take ob.cells.length) (by rw [hke]; omega) (fun j v hv => by
                rw [add_lit']; simpa using hcs.cell j v hv) ad m c vn (by rw [hke]; exact hvl) hvc (by omega) (small63 c1) (growslice_fits (by omega) (mul_small c1 c2))
            simpa using hr
    · cases h


theorem opCopy_sound (hm : Mem M W0 ι σ w) {ts : Array TypeId} {ty : TypeId} {vd vx : Value} {d x : XV} (hd : XRep w ι (Forb M ι σ) vd d) (hx : XRep w ι (Forb M ι σ) vx x) {r : XV × List VObj}
    (h : opCopy P σ ts d x = some r) :
    ∃ (ι' : List Nat) (w' : World) (v : Value), (Builtin.copy_ ts ty #[vd, vx]).run P w = .ok v w' ∧ Mem M W0 ι' r.2 w' ∧ Ext M ι σ w ι' r.2 w' ∧ XRep w' ι' (Forb M ι' r.2) v r.1 := by
  unfold opCopy at h
  split at h
  case h_2 => cases h
  rename_i id off len k' lo ex
  split at h
  case h_2 => cases h
  rename_i e hu
  simp only [Option.bind_eq_some_iff] at hu
  obtain ⟨t, ht, hu⟩ := hu
  split at h
  case h_2 => cases h
  rename_i k ob news m fl hk ho hsrc
  split at h
  case isFalse => cases h
  rename_i hc
  cases h
  obtain ⟨rfl, h0, hfit, hone, hm0⟩ := hc
  cases hd with
  | @osl b _ _ cap _ _ _ _ hb hl hlo hex hsz =>
  obtain ⟨cur, et, q1, q2, hcs⟩ := hm.cells ho hb (by omega)
  obtain ⟨i, hi, hke⟩ := info_of_size hk
  rcases srcCells_sound hm hx hsrc with ⟨rfl, rfl, rfl⟩ | ⟨ad, c, vn, rfl, hvl, hnl, hvc, hvr⟩
  · omega
  · generalize hq : min m len = q at *
    have hqm : q ≤ m := by omega
    have hle : q * k' ≤ m * k' := Nat.mul_le_mul_right _ hqm
    have hvl' : (vn.take (q * k')).length = q * k' := by rw [List.length_take]; omega
    have hnl' : (news.take (q * k')).length = q * k' := by rw [List.length_take]; omega
    have hvr' : ∀ (i : Nat) (v : Value) (x : XV), (vn.take (q * k'))[i]? = some v → (news.take (q * k'))[i]? = some x → XRep w ι (Forb M ι σ) v x := fun i v x h1 h2 => by
      rw [List.getElem?_take] at h1 h2
      split at h1
      · rename_i hlt; rw [if_pos hlt] at h2; exact hvr i v x h1 h2
      · cases h1
    have hvc' : ∀ j v, (vn.take (q * k'))[j]? = some v → w.cell? (ad.add j) = some v := fun j v h1 => by
      rw [List.getElem?_take] at h1
      split at h1
      · exact hvc j v h1
      · cases h1
    obtain ⟨w1, w2⟩ := hm.write ho hb h0 q1 off (vn.take (q * k')) (news.take (q * k')) (by omega) (by omega) hvr'
    refine ⟨ι, _, .int .i64 ((q : Nat) : Int), ?_, w1, w2, .d (.lit _)⟩
    have h1s := ones (by omega) hvr' (List.all_eq_true.2 fun x hx => List.all_eq_true.1 hone x (List.mem_of_mem_take hx))
    have hf := run_firstCells_some (P := P) w i.size (q) ad m c (vn.take (q * k')) (by rw [hke]; exact hvl') hvc'
    have hst := run_storeCells_at P b off et (vn.take (q * k')) 0 cur w q1 (by simp only [Nat.add_zero]; omega) h1s
    simp only [Nat.add_zero] at hst
    have hq' : Nat.min m len = q := hq
    simp only [Builtin.copy_, ht, run_underlying hu, sizeOf, typeInfo, hi, Builtin.lenOf]
    simp [run_underlying hu, hi, hq, hq', hf, hst, goInt, splice]

theorem range_map_get (z : Value) (n : Nat) (i : Nat) (x : XV) (h : (zeroRow z n)[i]? = some x) : ∃ v, ((Array.range n).map (z.cells[· % z.cells.size]!))[i]? = some v ∧ x = .d (.lit v) := by
  unfold zeroRow at h
  simp only [List.getElem?_map, Option.map_eq_some_iff] at h
  obtain ⟨j, hj, rfl⟩ := h
  have hlt0 := hj
  rw [List.getElem?_range (by have := (List.getElem?_eq_some_iff.1 hj).1; simpa using this)] at hj
  cases hj
  refine ⟨_, ?_, rfl⟩
  have hlt : i < n := by
    rcases Nat.lt_or_ge i n with h | h
    · exact h
    · simp [List.getElem?_eq_none, h] at hlt0
  simp [hlt]

theorem opMakeSlice_sound (hm : Mem M W0 ι σ w) {t : TypeId} {vl vc : Value} {l c : XV} (hl : XRep w ι (Forb M ι σ) vl l) (hc : XRep w ι (Forb M ι σ) vc c) {r : XV × List VObj}
    (h : opMakeSlice P σ t l c = some r) :
    ∃ (ι' : List Nat) (w' : World) (v : Value), (Instr.makeSlice t vl vc).run P w = .ok v w' ∧ Mem M W0 ι' r.2 w' ∧ Ext M ι σ w ι' r.2 w' ∧ XRep w' ι' (Forb M ι' r.2) v r.1 := by
  unfold opMakeSlice at h
  split at h
  case h_2 => cases h
  rename_i kl ln kc cn e h1 h2 hu
  split at h
  case h_2 => cases h
  rename_i k z hk hz
  split at h
  case isFalse => cases h
  rename_i hcond
  cases h
  obtain ⟨c1, c2, c3, c4⟩ := hcond
  have e1 := litOf_rep hl h1
  have e2 := litOf_rep hc h2
  subst e1; subst e2
  obtain ⟨i, hi, hke⟩ := info_of_size hk
  have hzi : i.zero = some z := by simpa [zeroT, hi] using hz
  rw [bytes_of_info hi] at c4
  obtain ⟨m1, m2⟩ := hm.push rfl (below_refl _ w) ((Array.range (cn.toNat * k)).map (z.cells[· % z.cells.size]!)) e (zeroRow z (cn.toNat * k)) (by simp [zeroRow]) (fun j x hx => by
    obtain ⟨v, hv, rfl⟩ := range_map_get _ _ _ _ hx
    exact ⟨v, hv, .d (.lit v)⟩)
  refine ⟨_, _, .slice (some ⟨w.heap.size, 0, none⟩) ln.toNat cn.toNat, ?_, m1, m2, .osl (by simp [hm.len]) (by omega) (Nat.le_refl _) (fun _ => rfl) ⟨e, _, shape_of_heap (Go.heap_alloc_new _ _), by simp⟩⟩
  have w1 : IntKind.i64.wrap ln = ln := by simp [IntKind.wrap, IntKind.bits, IntKind.signed]; omega
  have w2 : IntKind.i64.wrap cn = cn := by simp [IntKind.wrap, IntKind.bits, IntKind.signed]; omega
  have hb : (i.bytes : Int) * cn ≤ 2 ^ 48 := by
    have : i.bytes * cn.toNat ≤ 65536 * 1073741824 := Nat.mul_le_mul c4 (by omega)
    have h3 : ((i.bytes * cn.toNat : Nat) : Int) = (i.bytes : Int) * cn := by rw [Int.natCast_mul, Int.toNat_of_nonneg (by omega)]
    omega
  have hno : ¬ ((decide (cn < 0) || decide ((i.bytes : Int) * cn > 2 ^ 48) || decide (ln < 0) || decide (ln > cn)) = true) := by simp; omega
  have hz2 : ∀ w : World, (zeroValue e).run P w = .ok z w := fun w => by simp [zeroValue, typeInfo, hi, hzi]
  by_cases hn : cn.toNat * k = 0
  · have hcells : (Array.range 0).map (z.cells[· % z.cells.size]!) = (Array.range 0).map fun i => ((#[] : Array Value)[i % (#[] : Array Value).size]!) := by
      apply Array.ext <;> simp
    simp only [Instr.makeSlice, run_underlying hu, asInt, asIntOf, typeInfo, hi, w1, w2, sizeOf, hke, Sem.run_bind, Sem.run_pure, Result.andThen_ok, run_program]
    rw [if_neg hno]
    simp only [Sem.run_bind, run_askRoom, Result.andThen_ok, run_program, Sem.run_pure, hi, hke, if_pos hn, newRow, hn, hcells]
    rfl
  · simp only [Instr.makeSlice, run_underlying hu, asInt, asIntOf, typeInfo, hi, w1, w2, sizeOf, hke, Sem.run_bind, Sem.run_pure, Result.andThen_ok, run_program]
    rw [if_neg hno]
    simp only [Sem.run_bind, run_askRoom, Result.andThen_ok, run_program, Sem.run_pure, hi, hke, if_neg hn, newRow, hz2]
    rfl

theorem run_append_zeros {t u ty e : TypeId} {ik vk : IntKind} {k : Nat} (ht : P.underlying t = some (.slice e)) (hu : P.underlying u = some (.int ik)) {i : TypeInfo} {z : Value} (hi : P.info? e = some i) (hz : i.zero = some z)
    (hk : i.size = k) (hk0 : 0 < k) (n : Int) (h0 : 0 < n) (h1 : n.toNat ≤ 1073741824) (h2 : i.bytes ≤ 65536) :
    (Builtin.append_ #[t, u] ty #[.slice none 0 0, .int vk n]).run P w =
      .ok (.slice (some ⟨w.heap.size, 0, none⟩) n.toNat (grownCap w n.toNat 0 e)) (w.drew.alloc (.cells (Builtin.zeroCells z.cells n.toNat ++ Builtin.zeroCells z.cells (grownCap w n.toNat 0 e - n.toNat)) e)) := by
  have w1 : IntKind.i64.wrap n = n := by simp [IntKind.wrap, IntKind.bits, IntKind.signed]; omega
  have hsm := mul_small h1 h2
  have hnc : Builtin.nextslicecap n.toNat 0 * i.bytes ≤ 281474976710656 := growslice_fits (by omega) hsm
  have hb : ¬ (n * (i.bytes : Int) > 2 ^ 48) := by
    have e : ((n.toNat * i.bytes : Nat) : Int) = n * (i.bytes : Int) := by rw [Int.natCast_mul, Int.toNat_of_nonneg (by omega)]
    omega
  have hnk : ¬ n.toNat * i.size = 0 := by
    rw [hk]; intro e
    rcases Nat.mul_eq_zero.1 e with h | h <;> omega
  have hn : n.toNat ≠ 0 := by omega
  have hn0 : ¬ n < 0 := by omega
  have hne : ¬ n ≤ 0 := by omega
  have hk' : i.size ≠ 0 := by omega
  have h63' : ¬ (9223372036854775807 < (n.toNat : Int)) := by omega
  have h63'' : ¬ (9223372036854775807 < n) := by omega
  have h48' : ¬ (281474976710656 < Builtin.nextslicecap n.toNat 0 * i.bytes) := by omega
  have hb' : ¬ (281474976710656 < n * (i.bytes : Int)) := by simpa using hb
  simp [Builtin.append_, run_underlying ht, run_underlying hu, sizeOf, typeInfo, zeroValue, hi, hz, asInt, asIntOf, w1, hn, hn0, hne, hk', hb', h63', h63'', h48', Question.forced, run_firstCells_none, newRow, grownCap, IntKind.max, IntKind.signed, IntKind.bits]
  rw [if_neg (by omega), if_neg hnk]

theorem zeroCells_eq (z : Array Value) (n : Nat) : Builtin.zeroCells z n = (Array.range (n * z.size)).map (z[· % z.size]!) := rfl

theorem opAppendZ_sound (hm : Mem M W0 ι σ w) {ts : Array TypeId} {ty : TypeId} {vs vx : Value} {s x : XV} (hs : XRep w ι (Forb M ι σ) vs s) (hx : XRep w ι (Forb M ι σ) vx x) {r : XV × List VObj}
    (h : opAppendZ P σ ts s x = some r) :
    ∃ (ι' : List Nat) (w' : World) (v : Value), (Builtin.append_ ts ty #[vs, vx]).run P w = .ok v w' ∧ Mem M W0 ι' r.2 w' ∧ Ext M ι σ w ι' r.2 w' ∧ XRep w' ι' (Forb M ι' r.2) v r.1 := by
  unfold opAppendZ at h
  split at h
  case h_2 => cases h
  rename_i t u vk n hts hl
  have hts' : ts = #[t, u] := by cases ts; simp at hts; subst hts; rfl
  subst hts'
  have e1 := litOf_rep hx hl
  subst e1
  cases hs with
  | d hs =>
  cases hs
  split at h
  case h_2 => cases h
  rename_i e ik ht hu
  split at h
  case h_2 => cases h
  rename_i k z hk hz
  split at h
  case isFalse => cases h
  rename_i hc
  obtain ⟨i, hi, hke⟩ := info_of_size hk
  have hzi : i.zero = some z := by simpa [zeroT, hi] using hz
  have hzs : z.cells.size = k := by
    have h' := h
    unfold growTo at h'
    split at h'
    · rename_i hh; simpa [hz] using hh.2.2
    · cases h'
  obtain ⟨z', i', hi', hzi', c1, c2⟩ := grow_info h
  rw [hi] at hi'; cases hi'
  rw [hzi] at hzi'; cases hzi'
  obtain ⟨ι', g1, g2, g3⟩ := grow_sound hm (old := 0) h hk (vs := (Builtin.zeroCells z.cells n.toNat).toList) (by simp [zeroRow, zeroCells_eq, hzs]) (by simp [zeroRow]) (fun j v y hv hy => by
    obtain ⟨v', hv', rfl⟩ := range_map_get _ _ _ _ hy
    rw [zeroCells_eq, hzs, Array.getElem?_toList, hzs.symm] at hv
    rw [hzs.symm] at hv'
    rw [hv'] at hv; cases hv; exact .d (.lit _)) hi hzi
  rw [Array.toArray_toList] at g1 g2 g3
  exact ⟨ι', _, _, run_append_zeros ht hu hi hzi hke hc.2 n hc.1 c1 c2, g1, g2, g3⟩

end
end Go.Vm

