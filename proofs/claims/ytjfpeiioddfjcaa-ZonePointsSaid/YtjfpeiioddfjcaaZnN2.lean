import Derived.Test.YtjfpeiioddfjcaaZnL
import Derived.Test.YtjfpeiioddfjcaaZnJ0
/-
  Zones: slices of numbers of one own; what ZoneMoves asks.
-/
namespace Go.Proofs.Ytjfpeiioddfjcaa
open Go.Vm Go.Zn
theorem Try.agg49 : isAggT Try.prog 49 = some false := by kernel_rfl
theorem Try.size49 : sizeT Try.prog 49 = some 1 := by kernel_rfl
theorem Try.one49 : OneT Try.prog 49 (.int .u64 0) := ⟨by kernel_rfl, by kernel_rfl, rfl, of_decide_eq_true (by kernel_rfl)⟩
set_option maxRecDepth 10000 in
theorem clone39_own {σ : List VObj} {cs : List DV} {len : Nat} {cap : Option Nat} (hn : cs.length = len) (h1 : ((cs.take len).map XV.d).all oneX = true) (h0 : len ≠ 0) (hl : len ≤ 1073741824) :
    OwnCall Try.prog 39 σ [.d (.sl cs len cap)] (σ ++ [⟨[], 0⟩, ⟨(cs.take len).map .d, 0⟩]) (.osl (σ.length + 1) 0 len 1 len false) := by
  refine ownCall_K Try.func39 rfl (Nat.le_of_ble_eq_true rfl) fun M W0 => ?_
  refine KC.seq ?_
  refine KC.region ?_
  refine KT.step rfl rfl (K.assign rfl) ?_
  refine KT.nil ?_
  refine thenK_n ?_
  refine KC.seq ?_
  refine KC.seq ?_
  refine KC.region ?_
  refine KT.step rfl rfl (K.move rfl) ?_
  refine KT.step rfl rfl (K.eqNil rfl Try.underlying23) ?_
  refine KT.nil ?_
  refine thenK_n ?_
  refine KC.cond rfl (fun hc4 => ?_) (fun hc4 => ?_)
  · cases hc4
  · skip
    refine KC.skip ?_
    refine thenK_n ?_
    refine KC.seq ?_
    refine KC.region ?_
    refine KT.step rfl rfl (K.build0 Try.underlying23 Try.one3) ?_
    refine KT.step rfl rfl (K.move rfl) ?_
    refine KT.step rfl rfl (K.appAll rfl rfl (List.getElem?_concat_length ..) hn h1 h0 hl Try.underlying23 Try.one3) ?_
    refine KT.step rfl rfl (K.assign rfl) ?_
    refine KT.nil ?_
    refine thenK_n ?_
    refine KC.ret ?_
    refine ⟨.inl rfl, ?_, by simp⟩
    show some (XV.osl (σ ++ [(⟨[], 0⟩ : VObj)]).length 0 len 1 len false) = _
    rw [List.length_append]; rfl

theorem map2_deep {σ : List VObj} {k : Nat} {x dy : DV} {y : XV} (h : deepen σ (k + 1) y = some dy) : ([.d x, y] : List XV).mapM (deepen σ (k + 1)) = some [x, dy] := by
  rw [List.mapM_cons, List.mapM_cons, h]; rfl
theorem ownE_ex {σ : List VObj} {x : XV} {cells : List XV} (h : OwnE σ false x cells) : ∃ id, x = .osl id 0 cells.length 1 cells.length false ∧ σ[id]? = some ⟨cells, 0⟩ := by
  cases h with
  | sl h hn => subst hn; exact ⟨_, rfl, h⟩
def intsD (l : List Int) : DV := .sl (l.map DI) l.length none
theorem intsD_ints (l : List Int) : Ints (intsD l) l := .sl (by simp) fun i c x hc hx => by
  rw [List.getElem?_map, hx] at hc
  simp at hc; exact hc.symm
def cellsI (l : List Int) : List XV := l.map fun x => .d (DI x)
theorem cellsI_eq (l : List Int) : cellsI l = (l.map DI).map .d := by unfold cellsI; rw [List.map_map]; rfl
theorem cellsI_len (l : List Int) : (cellsI l).length = l.length := by simp [cellsI]
theorem cellsI_set {l : List Int} {i : Nat} {v : Int} : (cellsI l).set (0 + i) (.d (DI v)) = cellsI (l.set i v) := by
  unfold cellsI
  rw [Nat.zero_add, List.map_set]
theorem cellsI_get {l : List Int} {i : Nat} (h : i < l.length) : (cellsI l)[0 + i]? = some (.d (DI l[i])) := by
  unfold cellsI
  rw [Nat.zero_add, List.getElem?_map, List.getElem?_eq_getElem h]; rfl
/-- The clone of a slice of numbers, as an object. -/
theorem clone39_ints {σ : List VObj} {d : DV} {l : List Int} (hd : Ints d l) (h0 : l.length ≠ 0) (hl : l.length ≤ 1073741824) : OwnCall Try.prog 39 σ [.d d] (σ ++ [⟨[], 0⟩, ⟨cellsI l, 0⟩]) (.osl (σ.length + 1) 0 l.length 1 l.length false) := by
  cases hd with
  | nil => simp at h0
  | @sl cs _ cap hn h =>
    have e := ints_cells hn h
    subst e
    have := clone39_own (σ := σ) (cs := l.map DI) (len := l.length) (cap := cap) (by simp) (by
      rw [List.all_map, List.all_eq_true]
      intro x hx
      obtain ⟨y, _, rfl⟩ := List.mem_map.1 (List.mem_of_mem_take hx)
      rfl) h0 hl
    rw [List.take_of_length_le (by simp), ← cellsI_eq] at this
    exact this
theorem own_get {σ : List VObj} {a b : VObj} : (σ ++ [a, b])[σ.length + 1]? = some b := by
  rw [List.getElem?_append_right (by omega), show σ.length + 1 - σ.length = 1 by omega]; rfl
theorem own_set {σ : List VObj} {a b c : VObj} : (σ ++ [a, b]).set (σ.length + 1) c = σ ++ [a, c] := by
  rw [List.set_append_right _ _ (by omega), show σ.length + 1 - σ.length = 1 by omega]; rfl
theorem own_deep {σ : List VObj} {id : Nat} {l : List Int} {k : Nat} {ids : List Nat} (h : σ[id]? = some ⟨cellsI l, 0⟩) (hi : id ∈ ids) {n : Nat} (hn : n = l.length) : deepen (freezeIds σ ids) (k + 2) (.osl id 0 n 1 n false) = some (intsD l) := by
  subst hn
  have := deepen_cells (k := k) (ex := false) (R := l.length) (ds := l.map DI) (freezeIds_in hi h) (by rw [cellsI_eq]) (by simp)
  rw [this]; rfl
/-- All values raised, up to the greatest. -/
def raiP (p : List Int) (t : Int) (i : Nat) : List Int := (p.take i).map (fun x => min (x + t) 20000) ++ p.drop i
theorem raiP_zero {p : List Int} {t : Int} : raiP p t 0 = p := rfl
theorem raiP_len {p : List Int} {t : Int} {i : Nat} : (raiP p t i).length = p.length := by simp [raiP]; omega
theorem raiP_get {p : List Int} {t : Int} {i : Nat} (h : i < p.length) (h' : i < (raiP p t i).length) : (raiP p t i)[i] = p[i] := by
  have e : (raiP p t i)[i]? = some p[i] := by
    unfold raiP
    rw [List.getElem?_append_right (by simp; omega), List.length_map, List.length_take, Nat.min_eq_left (by omega), Nat.sub_self, List.getElem?_drop, Nat.add_zero, List.getElem?_eq_getElem h]
  exact (List.getElem?_eq_some_iff.1 e).2
theorem raiP_set {p : List Int} {t : Int} {i : Nat} (h : i < p.length) : (raiP p t i).set i (min (p[i] + t) 20000) = raiP p t (i + 1) := by
  unfold raiP
  rw [List.set_append_right _ _ (by simp; omega), List.take_succ_eq_append_getElem h, List.map_append, List.append_assoc]
  congr 1
  rw [show i - ((p.take i).map fun x => min (x + t) 20000).length = 0 by simp; omega, List.drop_eq_getElem_cons h]
  rfl
theorem raiP_end {p : List Int} {t : Int} {i : Nat} (h : p.length ≤ i) : raiP p t i = p.map fun x => min (x + t) 20000 := by
  unfold raiP
  rw [List.take_of_length_le h, List.drop_eq_nil_of_le h, List.append_nil]
/-- Values zeroed where the bit of the clock is set. -/
def zerP (p : List Int) (s : Nat) : Nat → List Int
  | 0 => p
  | i + 1 => if s.testBit (i + 1) then (zerP p s i).set i 0 else zerP p s i
theorem zerP_len {p : List Int} {s : Nat} : ∀ i, (zerP p s i).length = p.length
  | 0 => rfl
  | i + 1 => by unfold zerP; split <;> simp [zerP_len i]
theorem zerP_get {p : List Int} {s : Nat} : ∀ i k, k < p.length → (zerP p s i).getD k 0 = if k < i ∧ s.testBit (k + 1) then 0 else p.getD k 0
  | 0, k, hk => by rw [if_neg (by omega)]; rfl
  | i + 1, k, hk => by
    have ih := zerP_get (s := s) i k hk
    have hl := zerP_len (p := p) (s := s) i
    unfold zerP
    by_cases hb : s.testBit (i + 1) = true
    · rw [if_pos hb]
      by_cases e : k = i
      · subst e
        rw [if_pos ⟨by omega, hb⟩, List.getD_eq_getElem?_getD, List.getElem?_set, if_pos rfl, if_pos (by omega)]; rfl
      · have e' : ¬ i = k := fun h => e h.symm
        rw [List.getD_eq_getElem?_getD, List.getElem?_set, if_neg e', ← List.getD_eq_getElem?_getD, ih]
        by_cases h1 : k < i ∧ s.testBit (k + 1) = true
        · rw [if_pos h1, if_pos ⟨by omega, h1.2⟩]
        · rw [if_neg h1, if_neg (fun h => h1 ⟨by omega, h.2⟩)]
    · rw [if_neg hb, ih]
      by_cases h1 : k < i ∧ s.testBit (k + 1) = true
      · rw [if_pos h1, if_pos ⟨by omega, h1.2⟩]
      · rw [if_neg h1, if_neg (fun h => h1 ⟨by
          rcases Nat.lt_or_eq_of_le (Nat.le_of_lt_succ h.1) with h2 | h2
          · exact h2
          · subst h2; exact absurd h.2 hb, h.2⟩)]
theorem zerP_lim {p : List Int} {s : Nat} (h : ∀ x ∈ p, 0 ≤ x ∧ x ≤ 20000) {i : Nat} : ∀ x ∈ zerP p s i, 0 ≤ x ∧ x ≤ 20000 := fun x hx => by
  obtain ⟨k, hk, rfl⟩ := List.getElem_of_mem hx
  have hk' : k < p.length := by rw [zerP_len] at hk; exact hk
  have := zerP_get (p := p) (s := s) i k hk'
  rw [show (zerP p s i).getD k 0 = (zerP p s i)[k] by simp [hk]] at this
  rw [this]
  split
  · omega
  · rw [show p.getD k 0 = p[k] by simp [hk']]; exact h _ (List.getElem_mem hk')
theorem zerP_rho {p : List Int} {s n : Nat} (hn : p.length + 1 = n) {i : Nat} (hi : i < n) : pv (zerP p s p.length) i = pv p (rho s (n - 1) i) := by
  unfold rho
  cases i with
  | zero => rw [if_neg (by omega)]; rfl
  | succ k =>
    rw [pv_succ, zerP_get _ _ (by omega)]
    by_cases hb : s.testBit (k + 1) = true
    · rw [if_pos ⟨by omega, hb⟩, if_pos ⟨by omega, by omega, hb⟩]; rfl
    · rw [if_neg (fun h => hb h.2), if_neg (fun h => hb h.2.2)]; rfl
/-- What the law asks of a point, a guard and the zone. -/
theorem mv_and {z : List (List Int)} {p : List Int} {i j b : Int} (h : hasE z p = 0) (hg : guardB ((z.length : Int) - 1) 1000 i j b = true) :
    (anE z i j b = 0 → hasE (anZ z i j b) p = 0 → hasB (anZ z i j b) p = (hasB z p && decide (pv p i.toNat - pv p j.toNat ≤ gre b 4))) ∧ (anE z i j b = 5 → (hasB z p && decide (pv p i.toNat - pv p j.toNat ≤ gre b 4)) = false) := by
  obtain ⟨hv, hp⟩ := hasE_zero h
  obtain ⟨hall, hpl⟩ := pt_rows hp
  have hn := (validZ_rows hv).2.1
  have hpt := pv_pt (n := z.length) hall
  have l1 := guard_lt hg
  have e1 := (hasE_of hv hp).2
  have hin : ∀ c, In z.length (andM z i.toNat j.toNat b) c ↔ In z.length (zf z) c ∧ c i.toNat - c j.toNat ≤ gre b 4 := fun c => by
    constructor
    · intro hc
      constructor
      · intro x y hx hy
        have := hc x y hx hy
        unfold andM set2 at this
        split at this
        · rename_i hxy; rw [hxy.1, hxy.2] at this ⊢
          exact Int.le_trans this (gre_mono (by omega))
        · exact this
      · have := hc _ _ l1.1 l1.2.1
        unfold andM set2 at this
        rw [if_pos ⟨rfl, rfl⟩] at this
        exact Int.le_trans this (gre_mono (by omega))
    · intro ⟨h1, h2⟩ x y hx hy
      have := h1 x y hx hy
      unfold andM set2
      split
      · rename_i hxy; rw [hxy.1, hxy.2] at this ⊢
        rcases Int.le_total (zf z i.toNat j.toNat) b with hm | hm
        · rwa [Int.min_eq_left hm]
        · rwa [Int.min_eq_right hm]
      · exact this
  have key : (hasB z p && decide (pv p i.toNat - pv p j.toNat ≤ gre b 4)) = true ↔ In z.length (andM z i.toNat j.toNat b) (pv p) := by
    rw [e1, hin, Bool.and_eq_true, In_iff, decide_eq_true_eq]
  constructor
  · intro h0 h2
    obtain ⟨hv', hp'⟩ := hasE_zero h2
    obtain ⟨a1, a2, _, _⟩ := again hn (an_ok h0) (an_out h0) (an_gen h0) hv'
    have e2 := (hasE_of hv' hp').2
    rw [a1, a2] at e2
    have : hasB (anZ z i j b) p = true ↔ In z.length (andM z i.toNat j.toNat b) (pv p) := by
      rw [e2, In_iff]
      exact ⟨fun hc => hc.mono (tight_le_a hn (and_lim5 hg hv)), fun hc => hc.tight hpt⟩
    exact Bool.eq_iff_iff.2 (this.trans key.symm)
  · intro h5
    refine Bool.eq_false_iff.2 fun hk => ?_
    rw [anE_ok hg hv, (key.1 hk).nonempty hpt] at h5
    cases h5
theorem mv_zero {z : List (List Int)} {p : List Int} (h : hasB z p = true) : hasE z p = 0 ∧ tgE z = 0 ∧ In z.length (tightM z.length (zf z)) (pv p) := by
  have h0 : hasE z p = 0 := by
    refine Classical.byContradiction fun hn => ?_
    rw [hasB_two hn] at h; cases h
  obtain ⟨hv, hp⟩ := hasE_zero h0
  obtain ⟨hall, hpl⟩ := pt_rows hp
  rw [(hasE_of hv hp).2, In_iff] at h
  refine ⟨h0, ?_, h.tight (pv_pt hall)⟩
  rw [tgE_ok hv, h.nonempty (pv_pt hall)]; rfl
theorem mv_del {z : List (List Int)} {p q : List Int} {t : Int} (h : hasB z p = true) (ht : 0 ≤ t) (hm : ∀ x ∈ p, x + t ≤ 20000) (hq : q = p.map fun x => min (x + t) 20000) (hE : hasE (dlZ z) q = 0) : hasB (dlZ z) q = true := by
  obtain ⟨h0, h1, h2⟩ := mv_zero h
  obtain ⟨hv, hp⟩ := hasE_zero h0
  obtain ⟨hall, hpl⟩ := pt_rows hp
  obtain ⟨hv', hp'⟩ := hasE_zero hE
  obtain ⟨hall', _⟩ := pt_rows hp'
  have hd0 : dlE z = 0 := (dlE_eq z).trans h1
  have e : dlZ z = genM z.length z.length (delM z.length (tightM z.length (zf z))) := by unfold dlZ resZ; rw [if_pos hd0]
  obtain ⟨k1, k2, _, _⟩ := again (validZ_rows hv).2.1 (del_ok (tg_ok h1)) (dl_out hv) e hv'
  rw [(hasE_of hv' hp').2, k1, k2, In_iff]
  refine h2.del (pv_pt hall') ⟨t, ht, fun i hi1 hi2 => ?_⟩ pv_zero
  cases i with
  | zero => omega
  | succ k =>
    rw [pv_succ, pv_succ, hq]
    have hk : k < p.length := by omega
    rw [show (p.map fun x => min (x + t) 20000).getD k 0 = min (p[k] + t) 20000 by simp [hk], show p.getD k 0 = p[k] by simp [hk]]
    have := hm _ (List.getElem_mem hk)
    omega
theorem mv_res {z : List (List Int)} {p q : List Int} {s : Int} (h : hasB z p = true) (hr : rsE z s = 0) (hq : q = zerP p s.toNat p.length) (hE : hasE (rsZ z s) q = 0) : hasB (rsZ z s) q = true := by
  obtain ⟨h0, h1, h2⟩ := mv_zero h
  obtain ⟨hv, hp⟩ := hasE_zero h0
  obtain ⟨hall, hpl⟩ := pt_rows hp
  obtain ⟨hv', hp'⟩ := hasE_zero hE
  have e : rsZ z s = genM z.length z.length (resM z.length s.toNat (tightM z.length (zf z))) := by unfold rsZ resZ; rw [if_pos hr]
  obtain ⟨k1, k2, _, _⟩ := again (validZ_rows hv).2.1 (res_ok (tg_ok h1)) (rs_out hv) e hv'
  rw [(hasE_of hv' hp').2, k1, k2, In_iff]
  refine h2.res fun i hi => ?_
  rw [hq]
  exact zerP_rho (by omega) hi
end Go.Proofs.Ytjfpeiioddfjcaa

