import Derived.Test.YtnfnjnaheckdbaaFlSk
import Derived.Test.YtnfnjnaheckdbaaFlTh
import Derived.Test.YtnfnjnaheckdbaaFlBa
/-
  MORE STOCK: the repetition vector is the same, there is a schedule, and nothing begins later.
-/
namespace Go.Proofs.Ytnfnjnaheckdbaa
open Go.Vm Go.Fl
theorem more_stepR {l l' : LN} (hf : l'.f = l.f) (ht : l'.t = l.t) (hg : l'.g = l.g) (hk : l'.k = l.k) (p : Rat6 × Bool) : stepR p l' = stepR p l := by
  unfold stepR; rw [hf, ht, hg, hk]
theorem more_foldR : ∀ {L L' : List LN}, MoreL L L' → ∀ p, L'.foldl stepR p = L.foldl stepR p
  | _, _, .nil, p => rfl
  | _, _, .cons hf ht hg hk _ _ h, p => by
    rw [List.foldl_cons, List.foldl_cons, more_stepR hf ht hg hk]
    exact more_foldR h _
theorem more_pass {L L' : List LN} (h : MoreL L L') (R : Rat6) : passR L' R = passR L R := more_foldR h _
theorem more_rates {L L' : List LN} (h : MoreL L L') : ∀ (n : Nat) (R : Rat6), ratesF L' n R = ratesF L n R
  | 0, _ => rfl
  | n + 1, R => by simp only [ratesF, more_pass h, more_rates h n]
theorem more_bal {R : Rat6} : ∀ {L L' : List LN}, MoreL L L' → balB L' R = balB L R
  | _, _, .nil => rfl
  | _, _, .cons hf ht hg hk _ _ h => by
    have ih := more_bal (R := R) h
    unfold balB at ih ⊢
    rw [List.all_cons, List.all_cons, ih, hf, ht, hg, hk]
theorem more_repF {L L' : List LN} (h : MoreL L L') (N : Nat) : ∀ i, repFold L' N i = repFold L N i
  | 0 => rfl
  | i + 1 => by
    simp only [repFold, more_repF h N i]
    congr 1
    funext q
    simp only [repStep, more_rates h, more_bal h]
theorem more_len : ∀ {L L' : List LN}, MoreL L L' → L'.length = L.length
  | _, _, .nil => rfl
  | _, _, .cons _ _ _ _ _ _ h => by rw [List.length_cons, List.length_cons, more_len h]
theorem RepG.more {N : Nat} {L L' : List LN} {q : Nat → Nat} (hr : RepG N L q) (hM : MoreL L L') (hv : validB (N : Int) (L'.map LN.z) = true) : RepG N L' q := by
  have e : repA (N : Int) (L'.map LN.z) = (q, 0) := by
    rw [repA_ok hv]
    have := hr.r
    rw [repA_ok hr.v] at this
    rw [← this]
    unfold repO
    rw [more_repF hM]
  obtain ⟨N', Ln', q', h1, h2, h3⟩ := repG_of (n := (N : Int)) (L := L'.map LN.z) (by rw [e])
  have e1 : N = N' := by omega
  subst e1
  have e2 : L' = Ln' := by rw [← toN_z L', h2, toN_z]
  subst e2
  have e3 := h3.r.symm.trans e
  cases (Prod.mk.inj e3).1
  exact h3
/-- The stock of one link is raised. -/
def upL (l : LN) : LN := ⟨l.f, l.t, l.g, l.k, min 20 (l.s + 1)⟩
theorem more_set {N : Nat} : ∀ {L : List LN} (m : Nat) (_ : m < L.length), (∀ l ∈ L, OkL N l) → MoreL L (L.set m (upL (L.getD m ⟨0, 0, 0, 0, 0⟩)))
  | [], m, h, _ => absurd h (Nat.not_lt_zero _)
  | l :: L, 0, _, hok => by
    have ho := hok l (.head _)
    refine .cons rfl rfl rfl rfl ?_ ho.g1 (more_refl fun x hx => hok x (.tail _ hx))
    have := ho.s
    show l.s ≤ min 20 (l.s + 1)
    omega
  | l :: L, m + 1, h, hok => .cons rfl rfl rfl rfl (Nat.le_refl _) (hok l (.head _)).g1 (more_set m (by simpa using h) fun x hx => hok x (.tail _ hx))
where
  more_refl {N : Nat} : ∀ {L : List LN}, (∀ l ∈ L, OkL N l) → MoreL L L
  | [], _ => .nil
  | l :: L, hok => .cons rfl rfl rfl rfl (Nat.le_refl _) (hok l (.head _)).g1 (more_refl fun x hx => hok x (.tail _ hx))
/-- An order that is put together from schedules is one in which all that is waited for has begun. -/
theorem seqP_split : ∀ (p : Nat) (s o1 o2 : List Nat) (a : Nat), seqP p s = o1 ++ a :: o2 → ∃ p' s1 s2, p' < p ∧ o1 = seqP p' s ++ s1 ∧ s = s1 ++ a :: s2
  | 0, s, o1, o2, a, h => by simp [seqP] at h
  | p + 1, s, o1, o2, a, h => by
    have h : seqP p s ++ s = o1 ++ a :: o2 := h
    rcases List.append_eq_append_iff.1 h with ⟨us, h1, h2⟩ | ⟨bs, h1, h2⟩
    · -- o1 reaches into the last period
      exact ⟨p, us, o2, by omega, h1, h2⟩
    · cases bs with
      | nil =>
        rw [List.nil_append] at h2
        exact ⟨p, [], o2, by omega, by rw [h1]; simp, by rw [List.nil_append]; exact h2.symm⟩
      | cons b bs =>
        rw [List.cons_append] at h2
        obtain ⟨rfl, h3⟩ := List.cons.inj h2
        obtain ⟨p', s1, s2, h4, h5, h6⟩ := seqP_split p s o1 bs a h1
        exact ⟨p', s1, s2, by omega, h5, h6⟩
theorem seqP_count (s : List Nat) (j : Nat) : ∀ p, (seqP p s).count j = p * s.count j
  | 0 => by simp [seqP]
  | p + 1 => by rw [seqP, List.count_append, seqP_count s j p, Nat.add_mul]; omega
theorem runL_at {L : List LN} {N : Nat} {q : Nat → Nat} {a : Nat} {s2 : List Nat} : ∀ {s1 : List Nat} {X Y : Nat → Nat}, runL L N q (zs (s1 ++ a :: s2)) X = some Y → ∃ Z, runL L N q (zs s1) X = some Z ∧ fireB L q Z a = true ∧ a < N
  | [], X, Y, h => by
    simp only [List.nil_append, zs, List.map_cons, runL] at h
    split at h
    · rename_i hc
      exact ⟨X, rfl, by simpa using hc.2.2, by have := hc.2.1; omega⟩
    · cases h
  | b :: s1, X, Y, h => by
    simp only [List.cons_append, zs, List.map_cons, runL] at h ⊢
    split at h
    · rename_i hc
      rw [if_pos hc]
      exact runL_at (s1 := s1) h
    · cases h
theorem okO_seq {N : Nat} {L : List LN} {q : Nat → Nat} {s : List Nat} (hr : RepG N L q) (hf : first0 L N q = some s) (pe : Nat) : OkO L (seqP pe s) := fun o1 a o2 e l hl ht hp => by
  obtain ⟨p', s1, s2, h1, h2, h3⟩ := seqP_split pe s o1 o2 a e
  obtain ⟨Y, hY, hq⟩ := greedy_sound _ _ _ hf
  have hc : ∀ j, j < 6 → s.count j = q j := fun j hj => by
    have := runL_count hY j
    have := eqB_iff.1 hq j hj
    omega
  rw [h3] at hY
  obtain ⟨X, hX, hfire, ha⟩ := runL_at hY
  have hx : ∀ j, X j = s1.count j := fun j => by have := runL_count hX j; omega
  have n6 := hr.n6
  have hok := hr.ok l hl
  have hlf := hok.f
  have hready := put_ready (p := p') hr hfire hl ht
  have e1 : o1.count a = p' * q a + X a := by rw [h2, List.count_append, seqP_count, hc a (by omega), hx]
  have e2 : o1.count l.f = p' * q l.f + X l.f := by rw [h2, List.count_append, seqP_count, hc l.f (by omega), hx]
  unfold lastArg at hp ⊢
  rw [e1] at hp ⊢
  rw [e2]
  exact put_there hok hready hp
/-- With more stock on a link. -/
theorem more_all {N : Nat} {L L' : List LN} {q : Nat → Nat} {s : List Nat} (hr : RepG N L q) (hf : first0 L N q = some s) (hM : MoreL L L') (hv : validB (N : Int) (L'.map LN.z) = true) :
    ∃ s', RepG N L' q ∧ first0 L' N q = some s' ∧ s'.length = s.length ∧ cmpL (zs s') (zs s) ≤ 0 ∧ ∀ (tm : List Int) (pe : Nat) (j : Nat), j < N → (runS L tm (seqP pe s) j).length = (runS L' tm (seqP pe s') j).length ∧ ∀ k, (runS L' tm (seqP pe s') j).getD k 0 ≤ (runS L tm (seqP pe s) j).getD k 0 := by
  have hr' := hr.more hM hv
  obtain ⟨Y, hY, hq⟩ := greedy_sound _ _ _ hf
  have hY' := run_more hM hY
  obtain ⟨s', hs'⟩ := greedy_ex hr.n6 hY' hq (tot q) (fun _ => 0) (by omega) fun i => Nat.zero_le _
  have hf' : first0 L' N q = some s' := hs'
  obtain ⟨Y', hY2, hq2⟩ := greedy_sound _ _ _ hf'
  have hcnt : ∀ j, j < 6 → s.count j = s'.count j := fun j hj => by
    have := runL_count hY j
    have := eqB_iff.1 hq j hj
    have := runL_count hY2 j
    have := eqB_iff.1 hq2 j hj
    omega
  refine ⟨s', hr', hf', by rw [greedy_len hr.n6 hf', greedy_len hr.n6 hf], ?_, fun tm pe j hj => ?_⟩
  · rcases greedy_first hr.n6 _ _ _ _ _ hf' hY' hq (fun i _ => Nat.zero_le _) with e | ⟨p, a, b, r, r', e1, e2, hab⟩
    · rw [e, cmpL_self]; exact Int.le_refl _
    · rw [e1, e2, cmpL_pre]
      simp only [cmpL]
      rw [if_pos hab]; decide
  · have n6 := hr.n6
    have c1 := runS_cnt (L := L) (tm := tm) hr hf pe hj
    have c2 := runS_cnt (L := L') (tm := tm) hr' hf' pe hj
    refine ⟨by rw [c1, c2], fun k => ?_⟩
    by_cases hk : k < q j * pe
    · have hall : ∀ i, (seqP pe s).count i ≤ (seqP pe s').count i := fun i => by
        rw [seqP_count, seqP_count]
        by_cases hi : i < 6
        · rw [hcnt i hi]; exact Nat.le_refl _
        · have h0 : s.count i = 0 := List.count_eq_zero.2 fun hm => by have := greedy_mem _ _ _ hf i hm; omega
          rw [h0]; simp
      refine runS_mst hM (okO_seq hr' hf' pe) _ (okO_seq hr hf pe) hall j k ?_
      rw [seqP_count]
      have h1 := runL_count hY j
      have h2 := eqB_iff.1 hq j (by omega)
      rw [show s.count j = q j by omega, Nat.mul_comm]; exact hk
    · rw [List.getD_eq_getElem?_getD, List.getD_eq_getElem?_getD, List.getElem?_eq_none (by omega), List.getElem?_eq_none (by omega)]
      exact Int.le_refl _
end Go.Proofs.Ytnfnjnaheckdbaa

