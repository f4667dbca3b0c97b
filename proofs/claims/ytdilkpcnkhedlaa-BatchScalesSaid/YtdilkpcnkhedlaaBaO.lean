import Derived.Test.YtdilkpcnkhedlaaBaL
/-
  Batch: what the longest ways are: the least times that keep the arcs (pure).
-/
namespace Go.Ba
open Go.Vm Go.Ht

theorem flV_sld {α : Type} {f : α → List DV} (l : List α) : SlD (flV f l) := by cases l with | nil => exact .nil | cons a l => exact .sl _ _ _
theorem mem_rowI {ops : List (Int × Int)} {m x : Int} : x ∈ rowI ops m ↔ 0 ≤ x ∧ x < ops.length ∧ (ops.getD x.toNat (0, 0)).1 = m := by
  unfold rowI
  simp only [List.mem_map, List.mem_filter, List.mem_range, decide_eq_true_eq]
  constructor
  · rintro ⟨i, ⟨h1, h2⟩, rfl⟩
    exact ⟨by omega, by omega, by simpa using h2⟩
  · rintro ⟨h1, h2, h3⟩
    exact ⟨x.toNat, ⟨by omega, h3⟩, by omega⟩
theorem mem_msO {M : Nat} {ops : List (Int × Int)} {l : List Int} : l ∈ msO M ops ↔ ∃ m : Nat, m < M ∧ l = rowI ops (m : Int) := by
  unfold msO
  simp only [List.mem_map, List.mem_range]
  exact ⟨fun ⟨m, h1, h2⟩ => ⟨m, h1, h2.symm⟩, fun ⟨m, h1, h2⟩ => ⟨m, h1, h2.symm⟩⟩
theorem ms_row {M : Nat} {ops : List (Int × Int)} {l : List Int} (h : l ∈ msO M ops) : l.length ≤ ops.length ∧ ∀ x ∈ l, 0 ≤ x ∧ x < ops.length := by
  obtain ⟨m, _, rfl⟩ := mem_msO.1 h
  exact ⟨rowI_len _ _, fun x hx => by have := mem_rowI.1 hx; omega⟩
theorem rowI_lt (ops : List (Int × Int)) (m : Int) : (rowI ops m).Pairwise (· < ·) := by
  unfold rowI
  rw [List.pairwise_map]
  exact (List.Pairwise.filter _ List.pairwise_lt_range).imp fun h => by omega
theorem mem_prsT {l : List Int} {k : Nat} {p : Int × Int} (hk : k ≤ l.length) : p ∈ prsT l k ↔ ∃ i j : Nat, ∃ (h1 : i < j) (h2 : j < k), p = (l[i]'(by omega), l[j]'(by omega)) := by
  unfold prsT
  simp only [List.mem_flatMap, List.mem_range, List.mem_map]
  constructor
  · rintro ⟨j, hj, x, hx, rfl⟩
    obtain ⟨i, hi, rfl⟩ := List.getElem_of_mem hx
    rw [List.length_take] at hi
    exact ⟨i, j, by omega, hj, by simp [show j < l.length by omega]⟩
  · rintro ⟨i, j, h1, h2, rfl⟩
    refine ⟨j, h2, l[i]'(by omega), ?_, by simp [show j < l.length by omega]⟩
    rw [List.mem_take_iff_getElem]
    exact ⟨i, by omega, rfl⟩
/-- The pairs of operations of one machine. -/
theorem mem_riv {M : Nat} {ops : List (Int × Int)} {p : Int × Int} : p ∈ rivO (msO M ops) ↔ ∃ m : Nat, m < M ∧ p.1 < p.2 ∧ p.1 ∈ rowI ops (m : Int) ∧ p.2 ∈ rowI ops (m : Int) := by
  unfold rivO
  rw [List.mem_flatMap]
  constructor
  · rintro ⟨l, hl, hp⟩
    obtain ⟨m, hm, rfl⟩ := mem_msO.1 hl
    obtain ⟨i, j, h1, h2, rfl⟩ := (mem_prsT (Nat.le_refl _)).1 hp
    exact ⟨m, hm, (List.pairwise_iff_getElem.1 (rowI_lt ops m)) i j (by omega) h2 h1, List.getElem_mem _, List.getElem_mem _⟩
  · rintro ⟨m, hm, hlt, h1, h2⟩
    refine ⟨_, mem_msO.2 ⟨m, hm, rfl⟩, (mem_prsT (Nat.le_refl _)).2 ?_⟩
    obtain ⟨i, hi, e1⟩ := List.getElem_of_mem h1
    obtain ⟨j, hj, e2⟩ := List.getElem_of_mem h2
    have hp := List.pairwise_iff_getElem.1 (rowI_lt ops m)
    refine ⟨i, j, ?_, hj, by rw [e1, e2]⟩
    rcases Nat.lt_trichotomy i j with h | h | h
    · exact h
    · subst h; omega
    · have := hp j i hj hi h; omega
theorem riv_in {M : Nat} {ops : List (Int × Int)} : ArcsIn ops.length (rivO (msO M ops)) := fun a ha => by
  obtain ⟨m, _, _, h1, h2⟩ := mem_riv.1 ha
  have := mem_rowI.1 h1
  have := mem_rowI.1 h2
  omega
theorem riv_up {M : Nat} {ops : List (Int × Int)} : ∀ p ∈ rivO (msO M ops), p.1 < p.2 := fun p hp => by
  obtain ⟨m, _, h, _⟩ := mem_riv.1 hp; exact h
theorem arcsO_up : ∀ (off : Nat) (J : List (List (Int × Int))), ∀ a ∈ arcsO off J, a.1 < a.2
  | _, [], a, h => by simp [arcsO] at h
  | off, j :: J, a, h => by
    rw [arcsO, List.mem_append] at h
    rcases h with h | h
    · simp only [arcsK, List.mem_map, List.mem_range] at h
      obtain ⟨t, ht, rfl⟩ := h
      simp only; omega
    · exact arcsO_up _ J a h

/-- Times that keep the arcs. -/
structure Sol (os ar : List (Int × Int)) (x : Int → Int) : Prop where
  nn : ∀ i : Int, 0 ≤ i → i < os.length → 0 ≤ x i
  arc : ∀ a ∈ ar, x a.1 + tm os a.1 ≤ x a.2
theorem Sol.sub {os ar br : List (Int × Int)} {x : Int → Int} (h : Sol os ar x) (hs : ∀ a ∈ br, a ∈ ar) : Sol os br x := ⟨h.nn, fun a ha => h.arc a (hs a ha)⟩

theorem gt_set {hs : List Int} {k i v : Int} (hk : 0 ≤ k) (hk2 : k < hs.length) (hi : 0 ≤ i) : gt (hs.set k.toNat v) i = if i = k then v else gt hs i := by
  unfold gt
  rw [List.getD_eq_getElem?_getD, List.getElem?_set, List.getD_eq_getElem?_getD]
  by_cases e : i = k
  · subst e
    rw [if_pos rfl, if_pos (by omega), if_pos rfl]; rfl
  · rw [if_neg (by omega), if_neg e]
theorem fold_flag {os : List (Int × Int)} : ∀ (ar : List (Int × Int)) (s : List Int × Bool), s.2 = false → (ar.foldl (rlx os) s).2 = false
  | [], _, h => h
  | a :: ar, s, h => by
    rw [List.foldl_cons]
    refine fold_flag ar _ ?_
    unfold rlx; split
    · rfl
    · exact h
theorem fold_true {os : List (Int × Int)} : ∀ (ar : List (Int × Int)) (hs : List Int), (ar.foldl (rlx os) (hs, true)).2 = true → (ar.foldl (rlx os) (hs, true)).1 = hs ∧ ∀ a ∈ ar, gt hs a.1 + tm os a.1 ≤ gt hs a.2
  | [], hs, _ => ⟨rfl, fun a ha => by simp at ha⟩
  | a :: ar, hs, h => by
    rw [List.foldl_cons] at h ⊢
    by_cases hlt : gt hs a.2 < gt hs a.1 + tm os a.1
    · rw [show rlx os (hs, true) a = (hs.set a.2.toNat (gt hs a.1 + tm os a.1), false) from if_pos hlt, fold_flag ar _ rfl] at h
      cases h
    · rw [show rlx os (hs, true) a = (hs, true) from if_neg hlt] at h ⊢
      obtain ⟨h1, h2⟩ := fold_true ar hs h
      refine ⟨h1, fun b hb => ?_⟩
      rcases List.mem_cons.1 hb with rfl | hb
      · omega
      · exact h2 b hb
theorem fold_still {os : List (Int × Int)} : ∀ (ar : List (Int × Int)) (hs : List Int), (∀ a ∈ ar, gt hs a.1 + tm os a.1 ≤ gt hs a.2) → ar.foldl (rlx os) (hs, true) = (hs, true)
  | [], _, _ => rfl
  | a :: ar, hs, h => by
    rw [List.foldl_cons, show rlx os (hs, true) a = (hs, true) from if_neg (by have := h a (by simp); simp only; omega)]
    exact fold_still ar hs fun b hb => h b (by simp [hb])
theorem hdsN_sol {os ar : List (Int × Int)} : ∀ (n : Nat) (hs r : List Int), hdsN os ar n hs = some r → ∀ a ∈ ar, gt r a.1 + tm os a.1 ≤ gt r a.2
  | 0, _, _, h => by cases h
  | n + 1, hs, r, h => by
    unfold hdsN at h
    split at h
    · rename_i hb
      obtain ⟨h1, h2⟩ := fold_true ar hs hb
      cases h
      rw [show (rnd os ar hs).1 = hs from h1]; exact h2
    · exact hdsN_sol n _ r h
theorem rlx_le {os : List (Int × Int)} {s : List Int × Bool} {a : Int × Int} {x : Int → Int} (hl : s.1.length = os.length) (ha : 0 ≤ a.1 ∧ a.1 < os.length ∧ 0 ≤ a.2 ∧ a.2 < os.length) (hx : x a.1 + tm os a.1 ≤ x a.2) (h : ∀ i : Int, 0 ≤ i → i < os.length → gt s.1 i ≤ x i) :
    ∀ i : Int, 0 ≤ i → i < os.length → gt (rlx os s a).1 i ≤ x i := by
  intro i h0 h1
  unfold rlx
  split
  · simp only
    rw [gt_set ha.2.2.1 (by omega) h0]
    split
    · rename_i e; subst e
      have := h a.1 ha.1 ha.2.1; omega
    · exact h i h0 h1
  · exact h i h0 h1
theorem fold_le {os : List (Int × Int)} {x : Int → Int} : ∀ (ar : List (Int × Int)) (s : List Int × Bool), s.1.length = os.length → ArcsIn os.length ar → (∀ a ∈ ar, x a.1 + tm os a.1 ≤ x a.2) → (∀ i : Int, 0 ≤ i → i < os.length → gt s.1 i ≤ x i) →
    ∀ i : Int, 0 ≤ i → i < os.length → gt (ar.foldl (rlx os) s).1 i ≤ x i
  | [], _, _, _, _, h => h
  | a :: ar, s, hl, hin, hx, h => by
    rw [List.foldl_cons]
    exact fold_le ar _ (by rw [rlx_len]; exact hl) (fun b hb => hin b (by simp [hb])) (fun b hb => hx b (by simp [hb])) (rlx_le hl (hin a (by simp)) (hx a (by simp)) h)
theorem hdsN_le {os ar : List (Int × Int)} {x : Int → Int} (hin : ArcsIn os.length ar) (hx : ∀ a ∈ ar, x a.1 + tm os a.1 ≤ x a.2) : ∀ (n : Nat) (hs r : List Int), hs.length = os.length → (∀ i : Int, 0 ≤ i → i < os.length → gt hs i ≤ x i) → hdsN os ar n hs = some r → ∀ i : Int, 0 ≤ i → i < os.length → gt r i ≤ x i
  | 0, _, _, _, _, h => by cases h
  | n + 1, hs, r, hl, hle, h => by
    have h1 := fold_le ar (hs, true) hl hin hx hle
    unfold hdsN at h
    split at h
    · cases h; exact h1
    · exact hdsN_le hin hx n _ r ((fold_len _ _).trans hl) h1 h
theorem gt_rep (n : Nat) (i : Int) : gt (List.replicate n 0) i = 0 := by
  unfold gt
  rw [List.getD_eq_getElem?_getD, List.getElem?_replicate]
  split <;> rfl
theorem bd_nn {hs : List Int} {B : Int} (h : Bd B hs) (i : Int) : 0 ≤ gt hs i := by
  unfold gt
  rw [List.getD_eq_getElem?_getD]
  by_cases h2 : i.toNat < hs.length
  · rw [List.getElem?_eq_getElem h2]; exact (h _ (List.getElem_mem h2)).1
  · rw [List.getElem?_eq_none (by omega)]; exact Int.le_refl _
/-- The times are a solution, and the least one. -/
theorem hds_sol {os ar : List (Int × Int)} {hs : List Int} (hT : Times os) (hin : ArcsIn os.length ar) (h : hds os ar = some hs) : Sol os ar (gt hs) :=
  ⟨fun i _ _ => bd_nn (hdsN_bd hT hin _ _ _ 0 (by omega) (bd_zero _) h) i, hdsN_sol _ _ _ h⟩
theorem hds_least {os ar : List (Int × Int)} {hs : List Int} {x : Int → Int} (hin : ArcsIn os.length ar) (h : hds os ar = some hs) (hx : Sol os ar x) (i : Int) (h0 : 0 ≤ i) (h1 : i < os.length) : gt hs i ≤ x i :=
  hdsN_le hin hx.arc _ _ _ (by simp) (fun i h0 h1 => by rw [gt_rep]; exact hx.nn i h0 h1) h i h0 h1

/-- A round settles one rank more. -/
theorem fold_rank {os : List (Int × Int)} {r : Int → Nat} {k : Nat} {hs : List Int} : ∀ (ar done : List (Int × Int)) (s : List Int × Bool), s.1.length = os.length → ArcsIn os.length ar → ArcsIn os.length done → (∀ a ∈ ar, r a.1 < r a.2) → (∀ a ∈ done, r a.1 < r a.2) →
    (∀ a ∈ ar, r a.2 ≤ k → gt hs a.1 + tm os a.1 ≤ gt hs a.2) → (∀ i : Int, 0 ≤ i → i < os.length → r i ≤ k → gt s.1 i = gt hs i) → (∀ a ∈ done, r a.2 ≤ k + 1 → gt s.1 a.1 + tm os a.1 ≤ gt s.1 a.2) →
    ∀ a ∈ done ++ ar, r a.2 ≤ k + 1 → gt (ar.foldl (rlx os) s).1 a.1 + tm os a.1 ≤ gt (ar.foldl (rlx os) s).1 a.2
  | [], done, s, _, _, _, _, _, _, _, h, a, ha, hr => h a (by simpa using ha) hr
  | b :: ar, done, s, hl, hin, hid, hra, hrd, hk, hfix, hdone, a, ha, hr => by
    rw [List.foldl_cons]
    have hb := hin b (by simp)
    have hrb := hra b (by simp)
    refine fold_rank ar (done ++ [b]) (rlx os s b) (by rw [rlx_len]; exact hl) (fun c hc => hin c (by simp [hc])) (fun c hc => ?_) (fun c hc => hra c (by simp [hc])) (fun c hc => ?_) (fun c hc => hk c (by simp [hc])) (fun i h0 h1 h2 => ?_) (fun c hc h2 => ?_) a (by simpa using ha) hr
    · rcases List.mem_append.1 hc with hc | hc
      · exact hid c hc
      · simp at hc; subst hc; exact hb
    · rcases List.mem_append.1 hc with hc | hc
      · exact hrd c hc
      · simp at hc; subst hc; exact hrb
    · rw [← hfix i h0 h1 h2]
      unfold rlx
      split
      · rename_i hlt
        simp only
        rw [gt_set hb.2.2.1 (by omega) h0]
        split
        · rename_i e; subst e
          exfalso
          have e1 := hfix b.1 hb.1 hb.2.1 (by omega)
          have e2 := hfix b.2 h0 h1 h2
          have := hk b (by simp) h2
          rw [e1, e2] at hlt; omega
        · rfl
      · rfl
    · have key : ∀ c : Int × Int, 0 ≤ c.1 → 0 ≤ c.2 → c.1 < os.length → r c.1 < r c.2 → r c.2 ≤ k + 1 → (gt s.1 c.1 + tm os c.1 ≤ gt s.1 c.2 ∨ c = b) → gt (rlx os s b).1 c.1 + tm os c.1 ≤ gt (rlx os s b).1 c.2 := by
        intro c h0 h0' h1 h3 h4 h5
        unfold rlx
        split
        · rename_i hlt
          simp only
          rw [gt_set hb.2.2.1 (by omega) h0, gt_set hb.2.2.1 (by omega) h0']
          have hne : c.1 ≠ b.2 := fun e => by
            have e1 := hfix b.1 hb.1 hb.2.1 (by rw [e] at h3; omega)
            have e2 := hfix b.2 hb.2.2.1 hb.2.2.2 (by rw [e] at h3; omega)
            have := hk b (by simp) (by rw [e] at h3; omega)
            rw [e1, e2] at hlt; omega
          rw [if_neg hne]
          rcases h5 with h5 | rfl
          · split
            · rename_i e; rw [e] at h5; omega
            · exact h5
          · rw [if_pos rfl]; omega
        · rename_i hge
          rcases h5 with h5 | rfl
          · exact h5
          · omega
      rcases List.mem_append.1 hc with hc | hc
      · have := hid c hc
        exact key c this.1 this.2.2.1 this.2.1 (hrd c hc) h2 (.inl (hdone c hc h2))
      · simp at hc; subst hc
        exact key c hb.1 hb.2.2.1 hb.2.1 hrb h2 (.inr rfl)
theorem hdsN_some {os ar : List (Int × Int)} {r : Int → Nat} {n : Nat} (hin : ArcsIn os.length ar) (hr : ∀ a ∈ ar, r a.1 < r a.2) (hn : ∀ a ∈ ar, r a.2 < n) : ∀ (m k : Nat) (hs : List Int), hs.length = os.length → (∀ a ∈ ar, r a.2 ≤ k → gt hs a.1 + tm os a.1 ≤ gt hs a.2) → n ≤ k + m → 0 < m → ∃ q, hdsN os ar m hs = some q
  | 0, _, _, _, _, _, h => by omega
  | m + 1, k, hs, hl, hk, hnk, _ => by
    unfold hdsN
    by_cases hb : (rnd os ar hs).2 = true
    · rw [if_pos hb]; exact ⟨_, rfl⟩
    · rw [if_neg hb]
      have hm : 0 < m := by
        rcases Nat.eq_zero_or_pos m with h | h
        · exfalso
          subst h
          refine hb ?_
          unfold rnd
          rw [fold_still ar hs fun a ha => hk a ha (by have := hn a ha; omega)]
        · exact h
      refine hdsN_some hin hr hn m (k + 1) (rnd os ar hs).1 ((fold_len _ _).trans hl) (fun a ha h2 => ?_) (by omega) hm
      exact fold_rank (k := k) (hs := hs) ar [] (hs, true) hl hin (fun c hc => by simp at hc) hr (fun c hc => by simp at hc) hk (fun _ _ _ _ => rfl) (fun c hc => by simp at hc) a (by simpa using ha) h2
/-- How many have a lower potential. -/
def rankF (n : Nat) (φ : Int → Int) (i : Int) : Nat := ((List.range n).filter fun j => decide (φ (j : Nat) < φ i)).length
theorem rank_lt {n : Nat} {φ : Int → Int} {i j : Int} (hi : 0 ≤ i) (hi2 : i < n) (h : φ i < φ j) : rankF n φ i < rankF n φ j := by
  unfold rankF
  rw [← List.countP_eq_length_filter, ← List.countP_eq_length_filter]
  have h1 : i.toNat ∈ List.range n := List.mem_range.2 (by omega)
  have key : ∀ l : List Nat, i.toNat ∈ l → l.countP (fun k => decide (φ (k : Nat) < φ i)) < l.countP (fun k => decide (φ (k : Nat) < φ j)) := by
    intro l
    induction l with
    | nil => simp
    | cons a l ih =>
      intro hm
      have hle : l.countP (fun k => decide (φ (k : Nat) < φ i)) ≤ l.countP (fun k => decide (φ (k : Nat) < φ j)) := List.countP_mono_left fun k _ hk => by
        simp only [decide_eq_true_eq] at hk ⊢; omega
      rw [List.countP_cons, List.countP_cons]
      by_cases e : i.toNat = a
      · subst e
        have e2 : ((i.toNat : Nat) : Int) = i := by omega
        rw [e2, if_neg (by simp), if_pos (by simpa using h)]; omega
      · have hml : i.toNat ∈ l := by
          rcases List.mem_cons.1 hm with h | h
          · exact absurd h e
          · exact h
        have := ih hml
        split
        · rename_i hs
          rw [if_pos (by simp only [decide_eq_true_eq] at hs ⊢; omega)]; omega
        · split <;> omega
  exact key _ h1
theorem rank_n {n : Nat} {φ : Int → Int} {i : Int} (hi : 0 ≤ i) (hi2 : i < n) : rankF n φ i < n := by
  unfold rankF
  rw [← List.countP_eq_length_filter]
  have key : ∀ l : List Nat, i.toNat ∈ l → l.countP (fun k => decide (φ (k : Nat) < φ i)) < l.length := by
    intro l
    induction l with
    | nil => simp
    | cons a l ih =>
      intro hm
      rw [List.countP_cons, List.length_cons]
      have hle := List.countP_le_length (l := l) (p := fun k => decide (φ (k : Nat) < φ i))
      by_cases e : i.toNat = a
      · subst e
        have e2 : ((i.toNat : Nat) : Int) = i := by omega
        rw [e2, if_neg (by simp)]; omega
      · have hml : i.toNat ∈ l := by
          rcases List.mem_cons.1 hm with h | h
          · exact absurd h e
          · exact h
        have := ih hml
        split <;> omega
  have := key (List.range n) (List.mem_range.2 (by omega))
  simpa using this
/-- Where a potential rises along all arcs there are such times. -/
theorem hds_some {os ar : List (Int × Int)} (φ : Int → Int) (h1 : 1 ≤ os.length) (hin : ArcsIn os.length ar) (hφ : ∀ a ∈ ar, φ a.1 < φ a.2) : ∃ hs, hds os ar = some hs :=
  hdsN_some (r := rankF os.length φ) (n := os.length) hin (fun a ha => rank_lt (hin a ha).1 (hin a ha).2.1 (hφ a ha)) (fun a ha => rank_n (hin a ha).2.2.1 (hin a ha).2.2.2) os.length 0 _ (by simp)
    (fun a ha h => absurd (rank_lt (n := os.length) (hin a ha).1 (hin a ha).2.1 (hφ a ha)) (by omega)) (by omega) h1
theorem hds_of_sol {os ar : List (Int × Int)} {x : Int → Int} (hT : Times os) (h1 : 1 ≤ os.length) (hin : ArcsIn os.length ar) (hx : Sol os ar x) : ∃ hs, hds os ar = some hs :=
  hds_some x h1 hin fun a ha => by
    have := hx.arc a ha
    have := tm_bd hT (hin a ha).1 (hin a ha).2.1
    omega
/-- The span. -/
theorem spanT_le {os : List (Int × Int)} {hs : List Int} {C : Int} : ∀ k, spanT os hs k ≤ C ↔ 0 ≤ C ∧ ∀ i : Nat, i < k → gt hs (i : Nat) + tm os (i : Nat) ≤ C
  | 0 => by simp [spanT]
  | k + 1 => by
    rw [spanT_succ]
    have ih := spanT_le (os := os) (hs := hs) (C := C) k
    constructor
    · intro h
      obtain ⟨h1, h2⟩ := ih.1 (by omega)
      refine ⟨h1, fun i hi => ?_⟩
      by_cases e : i = k
      · subst e; omega
      · exact h2 i (by omega)
    · rintro ⟨h1, h2⟩
      have h3 := ih.2 ⟨h1, fun i hi => h2 i (by omega)⟩
      have := h2 k (by omega)
      omega
theorem span_le {os : List (Int × Int)} {hs : List Int} {C : Int} : spanO os hs ≤ C ↔ 0 ≤ C ∧ ∀ i : Int, 0 ≤ i → i < os.length → gt hs i + tm os i ≤ C := by
  rw [spanO, spanT_le]
  exact ⟨fun ⟨h1, h2⟩ => ⟨h1, fun i h0 h3 => by have := h2 i.toNat (by omega); rwa [show ((i.toNat : Nat) : Int) = i by omega] at this⟩, fun ⟨h1, h2⟩ => ⟨h1, fun i hi => h2 i (by omega) (by omega)⟩⟩
theorem span_nn (os : List (Int × Int)) (hs : List Int) : 0 ≤ spanO os hs := (span_le.1 (Int.le_refl _)).1
theorem span_ge {os : List (Int × Int)} {hs : List Int} {i : Int} (h0 : 0 ≤ i) (h1 : i < os.length) : gt hs i + tm os i ≤ spanO os hs := (span_le.1 (Int.le_refl _)).2 i h0 h1

/-- A schedule: arcs are kept, pairs are done one after the other, all is done at time C. -/
structure Sched (os ar ps : List (Int × Int)) (x : Int → Int) (C : Int) : Prop where
  sol : Sol os ar x
  pr : ∀ p ∈ ps, x p.1 + tm os p.1 ≤ x p.2 ∨ x p.2 + tm os p.2 ≤ x p.1
  le : ∀ i : Int, 0 ≤ i → i < os.length → x i + tm os i ≤ C
theorem sh_sched {os : List (Int × Int)} (hT : Times os) : ∀ (ps ar : List (Int × Int)) (hs : List Int), ArcsIn os.length ar → ArcsIn os.length ps → shO os ar ps = some hs → Sched os ar ps (gt hs) (spanO os hs)
  | [], ar, hs, hin, _, h => ⟨hds_sol hT hin h, fun p hp => by simp at hp, fun i h0 h1 => span_ge h0 h1⟩
  | p :: ps, ar, hs, hin, hps, h => by
    unfold shO at h
    split at h
    · cases h
    · have hp := hps p (by simp)
      have hps2 : ArcsIn os.length ps := fun a ha => hps a (by simp [ha])
      rcases pick_or h with h | h
      · have ih := sh_sched hT ps _ hs (arcs_snoc hin hp) hps2 h
        refine ⟨ih.sol.sub fun a ha => by simp [ha], fun q hq => ?_, ih.le⟩
        rcases List.mem_cons.1 hq with rfl | hq
        · exact .inl (ih.sol.arc q (by simp))
        · exact ih.pr q hq
      · have ih := sh_sched hT ps _ hs (arcs_snoc (p := (p.2, p.1)) hin ⟨hp.2.2.1, hp.2.2.2, hp.1, hp.2.1⟩) hps2 h
        refine ⟨ih.sol.sub fun a ha => by simp [ha], fun q hq => ?_, ih.le⟩
        rcases List.mem_cons.1 hq with rfl | hq
        · exact .inr (ih.sol.arc (q.2, q.1) (by simp))
        · exact ih.pr q hq
theorem pick_le {os : List (Int × Int)} {x y : Option (List Int)} {C : Int} (h : (∃ r, x = some r ∧ spanO os r ≤ C) ∨ ∃ r, y = some r ∧ spanO os r ≤ C) : ∃ r, pickO os x y = some r ∧ spanO os r ≤ C := by
  rcases h with ⟨r, rfl, hr⟩ | ⟨r, rfl, hr⟩
  · cases y with
    | none => exact ⟨r, rfl, hr⟩
    | some q =>
      unfold pickO
      simp only
      split
      · exact ⟨q, rfl, by omega⟩
      · exact ⟨r, rfl, hr⟩
  · cases x with
    | none => exact ⟨r, rfl, hr⟩
    | some q =>
      unfold pickO
      simp only
      split
      · exact ⟨r, rfl, hr⟩
      · exact ⟨q, rfl, by omega⟩
/-- No schedule ends earlier than the shortest one that is found. -/
theorem sh_least {os : List (Int × Int)} (hT : Times os) (h1 : 1 ≤ os.length) {x : Int → Int} {C : Int} : ∀ (ps ar : List (Int × Int)), ArcsIn os.length ar → ArcsIn os.length ps → Sched os ar ps x C → ∃ hs, shO os ar ps = some hs ∧ spanO os hs ≤ C
  | [], ar, hin, _, h => by
    obtain ⟨hs, hh⟩ := hds_of_sol hT h1 hin h.sol
    refine ⟨hs, hh, span_le.2 ⟨?_, fun i h0 h2 => ?_⟩⟩
    · have := h.le 0 (by omega) (by omega)
      have := h.sol.nn 0 (by omega) (by omega)
      have := tm_bd hT (i := 0) (by omega) (by omega)
      omega
    · have := hds_least hin hh h.sol i h0 h2
      have := h.le i h0 h2
      omega
  | p :: ps, ar, hin, hps, h => by
    obtain ⟨hs, hh⟩ := hds_of_sol hT h1 hin h.sol
    have hp := hps p (by simp)
    have hps2 : ArcsIn os.length ps := fun a ha => hps a (by simp [ha])
    unfold shO
    rw [hh]
    simp only
    refine pick_le ?_
    rcases h.pr p (by simp) with e | e
    · exact .inl (sh_least hT h1 ps _ (arcs_snoc hin hp) hps2 ⟨⟨h.sol.nn, fun a ha => by
        rcases List.mem_append.1 ha with ha | ha
        · exact h.sol.arc a ha
        · simp at ha; subst ha; exact e⟩, fun q hq => h.pr q (by simp [hq]), h.le⟩)
    · exact .inr (sh_least hT h1 ps _ (arcs_snoc (p := (p.2, p.1)) hin ⟨hp.2.2.1, hp.2.2.2, hp.1, hp.2.1⟩) hps2 ⟨⟨h.sol.nn, fun a ha => by
        rcases List.mem_append.1 ha with ha | ha
        · exact h.sol.arc a ha
        · simp at ha; subst ha; exact e⟩, fun q hq => h.pr q (by simp [hq]), h.le⟩)
/-- Where arcs and pairs rise there is an order. -/
theorem sh_some {os : List (Int × Int)} (h1 : 1 ≤ os.length) : ∀ (ps ar : List (Int × Int)), ArcsIn os.length ar → ArcsIn os.length ps → (∀ a ∈ ar, a.1 < a.2) → (∀ p ∈ ps, p.1 < p.2) → ∃ hs, shO os ar ps = some hs
  | [], ar, hin, _, ha, _ => hds_some id h1 hin ha
  | p :: ps, ar, hin, hps, ha, hp => by
    obtain ⟨hs, hh⟩ := hds_some (os := os) id h1 hin ha
    obtain ⟨r, hr⟩ := sh_some h1 ps (ar ++ [p]) (arcs_snoc hin (hps p (by simp))) (fun a h => hps a (by simp [h])) (fun a h => by
      rcases List.mem_append.1 h with h | h
      · exact ha a h
      · simp at h; subst h; exact hp a (by simp)) (fun a h => hp a (by simp [h]))
    unfold shO
    rw [hh]
    simp only
    rw [hr]
    cases shO os (ar ++ [(p.2, p.1)]) ps with
    | none => exact ⟨_, rfl⟩
    | some q =>
      unfold pickO
      simp only
      split <;> exact ⟨_, rfl⟩
theorem jobB_len {M : Int} {j : List (Int × Int)} (h : ¬ (1 ≤ j.length ∧ j.length ≤ 4)) : jobB M j = false := by
  rw [← Bool.not_eq_true, jobB_iff]
  exact fun k => h ⟨k.1, k.2.1⟩
theorem flat_le4 {M : Int} : ∀ {J : List (List (Int × Int))}, (∀ j ∈ J, jobB M j = true) → J.flatten.length ≤ 4 * J.length
  | [], _ => by simp
  | j :: J, h => by
    have h1 := flat_le4 (J := J) fun i hi => h i (by simp [hi])
    have h2 := (jobB_iff.1 (h j (by simp))).2.1
    rw [List.flatten_cons, List.length_append, List.length_cons]; omega
theorem ops_pos {M : Int} {J : List (List (Int × Int))} (h : ShopOk M J) : 1 ≤ J.flatten.length := by
  obtain ⟨j, J', rfl⟩ : ∃ j J', J = j :: J' := by
    cases J with
    | nil => have := h.j1; simp at this
    | cons j J' => exact ⟨j, J', rfl⟩
  have := (h.jb j (by simp)).1
  rw [List.flatten_cons, List.length_append]; omega
/-- The times of the shortest order of a shop. -/
theorem shop_some {M : Int} {J : List (List (Int × Int))} (h : ShopOk M J) : ∃ hs, shO J.flatten (arcsO 0 J) (rivO (msO M.toNat J.flatten)) = some hs :=
  sh_some (ops_pos h) _ _ arcs_in riv_in (arcsO_up 0 J) riv_up
end Go.Ba

