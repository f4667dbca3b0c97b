import Derived.Test.YtnfnjnaheckdbaaFlTb
/-
  Dataflow graphs: when all firings begin.
-/
namespace Go.Proofs.Ytnfnjnaheckdbaa
open Go.Vm Go.Fl
theorem plainTry_59 : plainFn Try.prog 59 = true := by kernel_rfl

def stepS (L : List LN) (tm : List Int) (st : Sts) (a : Nat) : Sts := fun j => if j = a then st j ++ [earlF L tm st a] else st j
def runS (L : List LN) (tm : List Int) (l : List Nat) : Sts := l.foldl (stepS L tm) (fun _ => [])
def seqP : Nat → List Nat → List Nat
  | 0, _ => []
  | p + 1, s => seqP p s ++ s
theorem runS_snoc (L : List LN) (tm : List Int) (l : List Nat) (a : Nat) : runS L tm (l ++ [a]) = stepS L tm (runS L tm l) a := by
  unfold runS; rw [List.foldl_append]; rfl
theorem snoc_ind {α : Type} {Q : List α → Prop} (h0 : Q []) (h1 : ∀ l a, Q l → Q (l ++ [a])) (l : List α) : Q l := by
  rw [← List.reverse_reverse l]
  induction l.reverse with
  | nil => exact h0
  | cons a l ih => rw [List.reverse_cons]; exact h1 _ a ih
theorem runS_len (L : List LN) (tm : List Int) (l : List Nat) (j : Nat) : (runS L tm l j).length = l.count j := by
  refine snoc_ind (Q := fun l => (runS L tm l j).length = l.count j) rfl (fun l a ih => ?_) l
  rw [runS_snoc, List.count_append]
  unfold stepS
  by_cases e : j = a
  · subst e; rw [if_pos rfl, List.length_append, ih]; simp
  · rw [if_neg e, ih]; simp [Ne.symm e]
theorem runS_bd {L : List LN} {tm : List Int} (htm : ∀ v ∈ tm, 0 ≤ v ∧ v ≤ 100) (l : List Nat) : ∀ j, ∀ v ∈ runS L tm l j, 0 ≤ v ∧ v ≤ 100 * (l.length : Int) := by
  refine snoc_ind (Q := fun l => ∀ j, ∀ v ∈ runS L tm l j, 0 ≤ v ∧ v ≤ 100 * (l.length : Int)) (fun j v hv => by simp [runS] at hv) (fun l a ih => ?_) l
  intro j v hv
  rw [runS_snoc] at hv
  rw [List.length_append, List.length_singleton]
  unfold stepS at hv
  split at hv
  · rcases List.mem_append.1 hv with h | h
    · have := ih j v h; omega
    · simp at h
      subst h
      have := fold_bd (a := a) (B := 100 * (l.length : Int)) (by omega) ih htm L (last_bd (by omega) (ih a))
      unfold earlF
      omega
  · have := ih j v hv; omega
theorem count_seqP (p : Nat) (s : List Nat) (j : Nat) : (seqP p s).count j = p * s.count j := by
  induction p with
  | zero => simp [seqP]
  | succ p ih => simp only [seqP, List.count_append, ih, Nat.add_mul, Nat.one_mul]
theorem seqP_len (p : Nat) (s : List Nat) : (seqP p s).length = p * s.length := by
  induction p with
  | zero => simp [seqP]
  | succ p ih => simp only [seqP, List.length_append, ih, Nat.add_mul, Nat.one_mul]
theorem runL_count {L : List LN} {N : Nat} {q : Nat → Nat} : ∀ {s : List Nat} {X Y : Nat → Nat}, runL L N q (zs s) X = some Y → ∀ j, Y j = X j + s.count j
  | [], X, Y, h, j => by cases h; simp
  | a :: s, X, Y, h, j => by
    simp only [zs, List.map_cons, runL] at h
    split at h
    · have := runL_count (s := s) h j
      rw [this, Int.toNat_natCast]
      unfold bump
      rw [List.count_cons]
      by_cases e : j = a
      · subst e; simp; omega
      · rw [if_neg e]; simp [Ne.symm e]
    · cases h
/-- The load that a firing waits for has been put. -/
theorem put_there {l : LN} {N : Nat} {F T : Nat} (hl : OkL N l) (h : (l.k : Int) ≤ (l.s : Int) + (l.g : Int) * (F : Int) - (l.k : Int) * (T : Int)) (hp : 0 ≤ putZ l (((T + 1) * l.k : Nat) - 1)) : (putZ l (((T + 1) * l.k : Nat) - 1)).toNat < F := by
  have hg := hl.g1
  unfold putZ at hp ⊢
  rw [Int.fdiv_eq_ediv_of_nonneg _ (by omega)] at hp ⊢
  have e : (((T + 1) * l.k : Nat) : Int) = (l.k : Int) * (T : Int) + (l.k : Int) := by
    rw [Int.natCast_mul, Int.natCast_add, Int.add_mul, Int.mul_comm (T : Int)]; simp
  have hlt : (((T + 1) * l.k : Nat) : Int) - 1 - (l.s : Int) < (F : Int) * (l.g : Int) := by rw [e, Int.mul_comm (F : Int)]; omega
  have := Int.ediv_lt_of_lt_mul (show (0 : Int) < (l.g : Int) by omega) hlt
  omega
/-- Firings of a period after so many periods: what is waited for is there. -/
theorem put_ready {L : List LN} {N : Nat} {q X : Nat → Nat} {a p : Nat} (hr : RepG N L q) (hf : fireB L q X a = true) {l : LN} (hl : l ∈ L) (ht : l.t = a) :
    (l.k : Int) ≤ (l.s : Int) + (l.g : Int) * ((p * q l.f + X l.f : Nat) : Int) - (l.k : Int) * ((p * q a + X a : Nat) : Int) := by
  have h1 := canB_iff.1 (fireB_iff.1 hf).2 l hl ht
  have h2 := hr.rep.bal l hl
  rw [ht] at h2
  unfold loadZ at h1
  rw [ht] at h1
  have h3 : (l.g : Int) * (q l.f : Int) = (l.k : Int) * (q a : Int) := by rw [← Int.natCast_mul, ← Int.natCast_mul, h2]
  have e1 : (l.g : Int) * ((p * q l.f + X l.f : Nat) : Int) = (p : Int) * ((l.g : Int) * (q l.f : Int)) + (l.g : Int) * (X l.f : Int) := by
    rw [Int.natCast_add, Int.natCast_mul, Int.mul_add]; congr 1; rw [Int.mul_left_comm]
  have e2 : (l.k : Int) * ((p * q a + X a : Nat) : Int) = (p : Int) * ((l.k : Int) * (q a : Int)) + (l.k : Int) * (X a : Int) := by
    rw [Int.natCast_add, Int.natCast_mul, Int.mul_add]; congr 1; rw [Int.mul_left_comm]
  rw [e1, e2, h3]
  omega
def stD (N : Nat) (st : Sts) : DV := .sl ((List.range N).map fun j => lsD (st j)) N (some N)
theorem mapM_range {α β : Type} (f : α → Option β) (xs : Nat → α) (ys : Nat → β) : ∀ (N : Nat), (∀ j, j < N → f (xs j) = some (ys j)) → ((List.range N).map xs).mapM f = some ((List.range N).map ys)
  | 0, _ => rfl
  | N + 1, h => by
    rw [List.range_succ, List.map_append, List.map_append, List.mapM_append, mapM_range f xs ys N (fun j hj => h j (by omega))]
    simp [h N (by omega)]
theorem StI.deep {σ : List VObj} {id0 N : Nat} {xs : Nat → XV} {st : Sts} (h : StI σ id0 N xs st) : deepen (freezeAll σ) 5 (.osl id0 0 N 1 N true) = some (stD N st) := by
  have h1 : (freezeAll σ)[id0]? = some ⟨(List.range N).map xs, 1⟩ := by simp [freezeAll, h.arr]
  rw [deepen_osl h1 rfl (by simp)]
  rw [List.drop_zero, List.take_of_length_le (by simp)]
  rw [mapM_range _ xs (fun j => lsD (st j)) N (fun j hj => fin_own (ownK_own (h.own j hj)) fun e => h.nil j hj (by cases hs : st j with | nil => rfl | cons a l => rw [hs] at e; simp at e))]
  rfl
/-- One firing more. -/
theorem StI.step {σ σ1 σ2 : List VObj} {id0 N a : Nat} {xs : Nat → XV} {st : Sts} {x' : XV} {v : Int} {o : VObj} (h : StI σ id0 N xs st) (ha : a < N) (ho : OwnK 1 σ1 x' (intX (st a) ++ [.d (DI v)]))
    (hk : ∀ j, idX (xs a) ≠ some j → j < (σ ++ [o]).length → σ1[j]? = (σ ++ [o])[j]?) (hw : ∃ j, idX x' = some j ∧ (σ ++ [o]).length ≤ j) (h2 : σ2[id0]? = some ⟨((List.range N).map xs).set (0 + a) x', 0⟩) (hv : ∀ j, j ≠ id0 → σ2[j]? = σ1[j]?) :
    StI σ2 id0 N (fun j => if j = a then x' else xs j) (fun j => if j = a then st j ++ [v] else st j) := by
  obtain ⟨k', hk1, hk2⟩ := hw
  have hid0 := lt_of_some h.arr
  simp only [List.length_append, List.length_cons, List.length_nil] at hk2
  have es : ((List.range N).map xs).set (0 + a) x' = (List.range N).map fun j => if j = a then x' else xs j := by
    rw [Nat.zero_add]
    refine List.ext_getElem? fun k => ?_
    rw [List.getElem?_set]
    by_cases hkN : k < N
    · by_cases e : a = k
      · subst e; simp [hkN]
      · rw [if_neg e]; simp [hkN, Ne.symm e]
    · rw [if_neg (by omega), List.getElem?_eq_none (by simp; omega), List.getElem?_eq_none (by simp; omega)]
  rw [es] at h2
  refine ⟨h2, fun j hj => ?_, fun j hj hn => ?_, fun i j hi hj hij k hki => ?_, fun j hj => ?_⟩
  · try simp only
    by_cases e : j = a
    · subst e; rw [if_pos rfl, if_pos rfl]
      have e2 : intX (st j ++ [v]) = intX (st j) ++ [.d (DI v)] := by simp [intX]
      rw [e2]
      exact ho.keep fun k hk' => hv k (fun e => by subst e; rw [hk1] at hk'; cases hk'; omega)
    · rw [if_neg e, if_neg e]
      refine (h.own j hj).keep fun k hk' => ?_
      have hlt := (h.own j hj).lt hk'
      rw [hv k (fun e' => h.ne j hj (by rw [hk', e'])), hk k (h.sep j a hj ha e k hk') (by simp; omega), List.getElem?_append_left hlt]
  · try simp only at hn ⊢
    by_cases e : j = a
    · subst e; rw [if_pos rfl] at hn; simp at hn
    · rw [if_neg e] at hn ⊢; exact h.nil j hj hn
  · try simp only at hki ⊢
    by_cases e1 : i = a
    · subst e1
      rw [if_pos rfl] at hki
      rw [if_neg (Ne.symm hij)]
      intro hc
      have := (h.own j hj).lt hc
      rw [hk1] at hki; cases hki; omega
    · rw [if_neg e1] at hki
      by_cases e2 : j = a
      · subst e2
        rw [if_pos rfl, hk1]
        intro hc
        cases hc
        have := (h.own i hi).lt hki
        omega
      · rw [if_neg e2]; exact h.sep i j hi hj hij k hki
  · intro k hki
    try simp only at hki
    by_cases e : j = a
    · subst e; rw [if_pos rfl, hk1] at hki; cases hki; omega
    · rw [if_neg e] at hki; exact h.low j hj k hki
theorem runL_next {L : List LN} {N : Nat} {q X Y : Nat → Nat} {s : List Int} {i : Nat} (hi : i < s.length) (h : runL L N q (s.drop i) X = some Y) : ∃ a : Nat, s[i] = (a : Int) ∧ a < N ∧ fireB L q X a = true ∧ runL L N q (s.drop (i + 1)) (bump X a) = some Y := by
  rw [List.drop_eq_getElem_cons hi] at h
  simp only [runL] at h
  split at h
  · rename_i hc
    obtain ⟨a, ha⟩ := Int.eq_ofNat_of_zero_le hc.1
    rw [ha, Int.toNat_natCast] at h hc
    exact ⟨a, ha, by omega, hc.2.2, h⟩
  · cases h
theorem st0 {g : VObj} (N : Nat) : StI [g, ⟨List.replicate N (.d Dnil), 0⟩] 1 N (fun _ => .d Dnil) (fun _ => []) :=
  ⟨by simp [List.map_const'], fun _ _ => .nil, fun _ _ _ => rfl, (fun _ _ _ _ _ k hk => by cases hk), (fun _ _ k hk => by cases hk)⟩
set_option maxRecDepth 10000 in
theorem starts59 {d td : DV} {N : Nat} {L : List LN} {q : Nat → Nat} {s : List Nat} {tm : List Int} {pe : Int} (hd : Lks d (L.map LN.z)) (hr : RepG N L q) (hf : first0 L N q = some s) (htd : Ints td tm) (htl : tm.length = N) (htm : ∀ v ∈ tm, 0 ≤ v ∧ v ≤ 100) (hp1 : 1 ≤ pe) (hp2 : tot q * pe.toNat ≤ 400) :
    DeepCall Try.prog 59 [.agg [DI (N : Nat), d], lsD (zs s), td, DI pe] (stD N (runS L tm (seqP pe.toNat s))) := by
  have h1 := hr.n1
  have h6 := hr.n6
  have hsI := lsD_ints (zs s)
  have hzl : (zs s).length = s.length := List.length_map ..
  have hslen : s.length = tot q := greedy_len h6 hf
  have hsum := hr.sum
  obtain ⟨Y, hrun, hYq⟩ := greedy_sound _ _ _ hf
  have hpe : ((pe.toNat : Nat) : Int) = pe := by omega
  have hpe4 : pe.toNat ≤ 400 := by
    have : 1 ≤ tot q := Nat.le_trans (hr.rep.pos 0 (by omega)) (le_tot (by omega))
    exact Nat.le_trans (Nat.le_mul_of_pos_left _ this) hp2
  refine deepCall_K 5 Try.func59 rfl (Nat.le_of_ble_eq_true rfl) fun M W0 => ?_
  refine KC.seq ?_
  refine KC.region ?_
  refine KT.step rfl rfl (K.box rfl) ?_
  refine KT.step rfl rfl (K.assign rfl) ?_
  refine KT.nil ?_
  refine thenK_n ?_
  refine KC.seq ?_
  refine KC.region ?_
  refine KT.step rfl rfl (K.fieldAddrO rfl Try.fld31_0 Try.size3) ?_
  refine KT.step rfl rfl (K.loadO rfl rfl (by simp) rfl Try.agg3) ?_
  refine KT.step rfl rfl (K.make rfl rfl (Nat.le_refl _) (by omega) Try.underlying50 Try.one25) ?_
  refine KT.step rfl rfl (K.assign rfl) ?_
  refine KT.nil ?_
  refine thenK_n ?_
  refine KC.seq ?_
  refine KC.seq ?_
  refine KC.region ?_
  refine KT.step rfl rfl (K.move rfl) ?_
  refine KT.step rfl rfl (K.move rfl) ?_
  refine KT.nil ?_
  refine thenK_n ?_
  refine KC.block ?_
  refine KC.loop (fun p : List VObj × (Nat → XV) × Nat => p.1) (fun p => [(1, .d (lsD (zs s))), (2, .d td), (4, .optr 0 0), (9, .osl 1 0 N 1 N true), (16, .d (DI pe)), (17, .d (DI (p.2.2 : Nat)))]) (fun p : List VObj × (Nat → XV) × Nat => p.2.2 ≤ pe.toNat ∧ p.1[0]? = some ⟨[.d (DI (N : Nat)), .d d], 0⟩ ∧ StI p.1 1 N p.2.1 (runS L tm (seqP p.2.2 s))) (fun p => pe.toNat - p.2.2) (_, (fun _ => .d Dnil), 0) ⟨Nat.zero_le _, rfl, st0 N⟩ rfl (by simp [Go.Vm.look, extK, enterK]) ?_
  intro p hp
  obtain ⟨σ0, xs, pp⟩ := p
  obtain ⟨hpp0, y0, hS⟩ := hp
  simp only at hpp0 y0 hS ⊢
  refine KC.seq ?_
  refine KC.region ?_
  refine KT.step rfl rfl (K.lss rfl rfl) ?_
  refine KT.nil ?_
  refine thenK_n ?_
  refine KC.seq ?_
  refine KC.cond rfl (fun hc18 => ?_) (fun hc18 => ?_)
  · skip
    replace hc18 := of_decide_eq_true hc18
    have hpp : pp < pe.toNat := by omega
    refine KC.skip ?_
    refine thenK_n ?_
    refine KC.seq ?_
    refine KC.block ?_
    refine KC.seq ?_
    refine KC.region ?_
    refine KT.step rfl rfl (K.move rfl) ?_
    refine KT.step rfl rfl (K.len rfl hsI Try.underlying25) ?_
    rw [hzl]
    refine KT.step rfl rfl (K.move rfl) ?_
    refine KT.nil ?_
    refine thenK_n ?_
    refine KC.block ?_
    refine KC.loop (fun p : List VObj × (Nat → XV) × (Nat → Nat) × Nat => p.1) (fun p => [(1, .d (lsD (zs s))), (2, .d td), (4, .optr 0 0), (9, .osl 1 0 N 1 N true), (16, .d (DI pe)), (17, .d (DI (pp : Nat))), (19, .d (lsD (zs s))), (20, .d (DI (s.length : Nat))), (21, .d (DI (p.2.2.2 : Nat)))]) (fun p : List VObj × (Nat → XV) × (Nat → Nat) × Nat => p.2.2.2 ≤ s.length ∧ p.1[0]? = some ⟨[.d (DI (N : Nat)), .d d], 0⟩ ∧ StI p.1 1 N p.2.1 (runS L tm (seqP pp s ++ s.take p.2.2.2)) ∧ runL L N q (zs (s.take p.2.2.2)) (fun _ => 0) = some p.2.2.1 ∧ runL L N q (zs (s.drop p.2.2.2)) p.2.2.1 = some Y) (fun p => s.length - p.2.2.2) (σ0, xs, (fun _ => 0), 0) ⟨Nat.zero_le _, y0, by simpa using hS, rfl, hrun⟩ rfl (by simp [Go.Vm.look, extK]) ?_
    clear y0 hS
    intro p hp
    obtain ⟨σ0, xs, X, i⟩ := p
    obtain ⟨hi, y0, hS, hrun1, hrun2⟩ := hp
    simp only at hi y0 hS hrun1 hrun2 ⊢
    refine KC.seq ?_
    refine KC.region ?_
    refine KT.step rfl rfl (K.lss rfl rfl) ?_
    refine KT.nil ?_
    refine thenK_n ?_
    refine KC.seq ?_
    refine KC.cond rfl (fun hc22 => ?_) (fun hc22 => ?_)
    · skip
      replace hc22 := of_decide_eq_true hc22
      have hil : i < s.length := by omega
      have hil2 : i < (zs s).length := by omega
      have hdz : (zs s).drop i = zs (s.drop i) := by simp [zs]
      rw [← hdz] at hrun2
      obtain ⟨a, ha, haN, hfire, hnext⟩ := runL_next hil2 hrun2
      have hsi : s[i] = a := by
        have : ((s[i] : Nat) : Int) = (a : Int) := by rw [← ha]; simp [zs]
        omega
      have hXc : ∀ j, X j = (s.take i).count j := fun j => by rw [runL_count hrun1 j, Nat.zero_add]
      have hqc : ∀ j, j < N → q j = s.count j := fun j hj => by
        rw [← eqB_iff.1 hYq j (by omega), runL_count hrun j, Nat.zero_add]
      have hcnt : ∀ j, j < N → (runS L tm (seqP pp s ++ s.take i) j).length = pp * q j + X j := fun j hj => by
        rw [runS_len, List.count_append, count_seqP, hqc j hj, hXc j]
      have hsl : (seqP pp s ++ s.take i).length ≤ 400 := by
        rw [List.length_append, seqP_len, List.length_take, hslen, Nat.min_eq_left (by omega)]
        have h3 : (pp + 1) * tot q ≤ pe.toNat * tot q := Nat.mul_le_mul_right _ (by omega)
        rw [Nat.mul_comm pe.toNat] at h3
        rw [Nat.add_mul, Nat.one_mul] at h3
        omega
      have hbd := runS_bd (L := L) htm (seqP pp s ++ s.take i)
      have hl4 : (runS L tm (seqP pp s ++ s.take i) a).length ≤ 400 := by
        rw [runS_len]; exact Nat.le_trans List.count_le_length hsl
      have hearl := earliest88 hd hr.len hr.ok htd htl htm hS haN h6 (B := 100 * ((seqP pp s ++ s.take i).length : Int)) (by omega) hbd hl4 (fun l hl ht hp => by
        rw [hcnt a haN] at hp ⊢
        rw [hcnt l.f (hr.ok l hl).f]
        exact put_there (hr.ok l hl) (put_ready hr hfire hl ht) hp)
      refine KC.skip ?_
      refine thenK_n ?_
      refine KC.seq ?_
      refine KC.block ?_
      refine KC.seq ?_
      refine KC.region ?_
      refine KT.idxI rfl rfl rfl (by assumption) rfl (by omega) Try.underlying25 Try.size3 fun cs23 => ?_
      refine KT.step rfl rfl (K.load rfl Try.agg3) ?_
      refine KT.step rfl rfl (K.assign rfl) ?_
      refine KT.nil ?_
      refine thenK_n ?_
      refine KC.seq ?_
      refine KC.region ?_
      rw [ha]
      refine KT.step rfl rfl (K.loadOA ([DI (N : Nat), d]) rfl y0 (by decide) Try.agg31 Try.size31 rfl) ?_
      refine KT.step rfl rfl (K.move rfl) ?_
      refine KT.step rfl rfl (K.move rfl) ?_
      refine KT.step rfl rfl (K.move rfl) ?_
      refine KT.step rfl rfl (K.callO rfl plainTry_88 hearl) ?_
      have hS1 := hS.more (⟨[.d (DI (N : Nat)), .d d], 0⟩ :: L.map lkO)
      have y01 := get_left (B := ⟨[.d (DI (N : Nat)), .d d], 0⟩ :: L.map lkO) y0
      generalize σ0 ++ (⟨[.d (DI (N : Nat)), .d d], 0⟩ :: L.map lkO) = σ1 at hS1 y01 ⊢
      have g1 := lt_of_some hS1.arr
      refine KT.step rfl rfl (K.assign rfl) ?_
      refine KT.nil ?_
      refine thenK_n ?_
      refine KC.region ?_
      refine KT.step rfl rfl (K.move rfl) ?_
      refine KT.step rfl rfl (K.move rfl) ?_
      refine KT.step rfl rfl (K.move rfl) ?_
      refine KT.step rfl rfl (K.move rfl) ?_
      refine KT.step rfl rfl (K.idxO rfl rfl haN Try.underlying50 Try.size25) ?_
      refine KT.step rfl rfl (K.loadO rfl hS1.arr (by simp) (hS1.get haN) Try.agg25) ?_
      refine KT.step rfl rfl (K.move rfl) ?_
      refine KT.step rfl rfl (K.build1' (v := .d (DI (earlF L tm (runS L tm (seqP pp s ++ s.take i)) a))) rfl rfl Try.underlying25 Try.one3) ?_
      refine KT.appK (k := 1) rfl rfl rfl rfl ((hS1.own a haN).pushed _) (List.getElem?_concat_length ..) rfl rfl (by rw [intX_len]; omega) Try.underlying25 Try.size3 (of_decide_eq_true (by kernel_rfl)) (by kernel_rfl) (by omega) fun σ2 x2 ho2 k2 w2 => ?_
      have z0 := (k2 0 (fun h => by have := hS1.low a haN 0 h; omega) (by simp only [List.length_append, List.length_cons, List.length_nil]; omega)).trans ((List.getElem?_append_left (by omega)).trans y01)
      have za := (k2 1 (hS1.ne a haN) (by simp only [List.length_append, List.length_cons, List.length_nil]; omega)).trans ((List.getElem?_append_left (by omega)).trans hS1.arr)
      have ho2c := ho2.cells
      refine KT.step rfl rfl (K.idxO rfl rfl haN Try.underlying50 Try.size25) ?_
      refine KT.storeG rfl rfl rfl rfl za (by simp; omega) ho2c.1 ho2c.2 Try.size25 fun σ3 l3 u3 v3 => ?_
      replace z0 := (v3 0 (by omega)).trans z0
      have hS3 := hS1.step haN ho2 k2 w2 u3 v3
      refine KT.nil ?_
      refine blockK_n ?_
      refine thenK_n ?_
      refine KC.region ?_
      refine KT.step rfl rfl (K.add rfl rfl (wrap_id (by omega))) ?_
      refine KT.step rfl rfl (K.move rfl) ?_
      refine KT.nil ?_
      refine thenK_n ?_
      refine ⟨(σ3, fun j => if j = a then x2 else xs j, bump X a, i + 1), ⟨by simp only; omega, z0, ?_, ?_, ?_⟩, by simp only; omega, rfl, by simp [Go.Vm.look, extK]⟩
      · simp only
        rw [List.take_succ_eq_append_getElem hil, hsi, ← List.append_assoc, runS_snoc]
        exact hS3
      · simp only
        rw [List.take_succ_eq_append_getElem hil, hsi]
        have := runL_snoc (a := (a : Int)) hrun1 ⟨by omega, by omega, by rw [Int.toNat_natCast]; exact hfire⟩
        rw [Int.toNat_natCast] at this
        simpa [zs] using this
      · simp only
        rw [show zs (s.drop (i + 1)) = (zs s).drop (i + 1) by simp [zs]]
        exact hnext
    · skip
      replace hc22 := of_decide_eq_false hc22
      refine KC.exit ?_
      refine thenK_x ?_
      refine thenK_x ?_
      refine blockK_e ?_
      refine blockK_n ?_
      refine thenK_n ?_
      refine KC.region ?_
      refine KT.step rfl rfl (K.add rfl rfl (wrap_id (by omega))) ?_
      refine KT.step rfl rfl (K.move rfl) ?_
      refine KT.nil ?_
      refine thenK_n ?_
      refine ⟨(σ0, xs, pp + 1), ⟨by simp only; omega, y0, ?_⟩, by simp only; omega, rfl, by simp [Go.Vm.look, extK]⟩
      obtain rfl : i = s.length := by omega
      rw [List.take_length] at hS
      exact hS
  · skip
    replace hc18 := of_decide_eq_false hc18
    obtain rfl : pp = pe.toNat := by omega
    refine KC.exit ?_
    refine thenK_x ?_
    refine thenK_x ?_
    refine blockK_e ?_
    refine thenK_n ?_
    refine KC.seq ?_
    refine KC.region ?_
    refine KT.step rfl rfl (K.move rfl) ?_
    refine KT.step rfl rfl (K.assign rfl) ?_
    refine KT.nil ?_
    refine thenK_n ?_
    refine KC.ret ?_
    exact ⟨.inl rfl, _, rfl, hS.deep⟩
end Go.Proofs.Ytnfnjnaheckdbaa

