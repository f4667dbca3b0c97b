import Derived.Test.YtmfbakipfobaeaaHtU
/-
  HEAT: the surplus as a difference; what a temperature proves; the least hot utility is the greatest of it.
-/
namespace Go.Ht
open Go.Vm
def cl (gap : Int) (s : Sm) (x : Int) : Int := max (lo gap s) (min x (up gap s))
def g1 (gap : Int) (x : Int) (s : Sm) : Int := if hot s then s.r * cl gap s x else - (s.r * cl gap s x)
def GG (gap : Int) (l : List Sm) (x : Int) : Int := (l.map (g1 gap x)).sum

theorem ht_cl {gap : Int} {s : Sm} {u d : Int} (hok : s.ok = true) (h : d ≤ u) : ht gap s u d = s.r * cl gap s u - s.r * cl gap s d := by
  have := up_lo (gap := gap) hok
  unfold ht
  rw [← Int.mul_sub]
  congr 1
  unfold cl; omega
theorem hs_g1 {gap : Int} {s : Sm} {u d : Int} (hok : s.ok = true) (h : d ≤ u) : hs gap u d s = g1 gap u s - g1 gap d s := by
  unfold hs g1
  rw [ht_cl hok h]
  split <;> omega
theorem sum_sub (f g h : Sm → Int) : ∀ l : List Sm, (∀ s ∈ l, f s = g s - h s) → (l.map f).sum = (l.map g).sum - (l.map h).sum
  | [], _ => rfl
  | s :: l, hl => by
    simp only [List.map_cons, List.sum_cons]
    rw [sum_sub f g h l fun x hx => hl x (List.mem_cons_of_mem _ hx), hl s (by simp)]; omega
theorem surp_G {gap : Int} {l : List Sm} {u d : Int} (hok : ∀ s ∈ l, s.ok = true) (h : d ≤ u) : surp gap l u d = GG gap l u - GG gap l d :=
  sum_sub _ _ _ l fun s hs' => hs_g1 (hok s hs') h

theorem G_high {gap : Int} {l : List Sm} {x y : Int} (hx : ∀ s ∈ l, up gap s ≤ x) (hy : ∀ s ∈ l, up gap s ≤ y) : GG gap l x = GG gap l y := by
  unfold GG
  congr 1
  refine List.map_congr_left fun s hs => ?_
  have h1 := hx s hs; have h2 := hy s hs
  have : cl gap s x = cl gap s y := by unfold cl; omega
  unfold g1; rw [this]
theorem G_low {gap : Int} {l : List Sm} {x y : Int} (hx : ∀ s ∈ l, x ≤ lo gap s) (hy : ∀ s ∈ l, y ≤ lo gap s) : GG gap l x = GG gap l y := by
  unfold GG
  congr 1
  refine List.map_congr_left fun s hs => ?_
  have h1 := hx s hs; have h2 := hy s hs
  have : cl gap s x = cl gap s y := by unfold cl; omega
  unfold g1; rw [this]

/-- Where no stream begins or ends, the surplus is linear. -/
theorem G_lin {gap : Int} {u d : Int} (hdu : d ≤ u) : ∀ {l : List Sm}, (∀ s ∈ l, s.ok = true) → (∀ s ∈ l, (up gap s ≤ d ∨ u ≤ up gap s) ∧ (lo gap s ≤ d ∨ u ≤ lo gap s)) → ∃ B : Int, ∀ x, d ≤ x → x ≤ u → GG gap l x = GG gap l d + B * (x - d)
  | [], _, _ => ⟨0, fun x _ _ => by simp [GG]⟩
  | s :: l, hok, h => by
    obtain ⟨B, hB⟩ := G_lin hdu (l := l) (fun s hs => hok s (List.mem_cons_of_mem _ hs)) fun s hs => h s (List.mem_cons_of_mem _ hs)
    have h1 := h s (by simp)
    have h2 := up_lo (gap := gap) (hok s (by simp))
    have hc : ∃ c : Int, ∀ x, d ≤ x → x ≤ u → cl gap s x = cl gap s d + c * (x - d) := by
      by_cases e : u ≤ up gap s ∧ lo gap s ≤ d
      · exact ⟨1, fun x hx hx' => by unfold cl; omega⟩
      · exact ⟨0, fun x hx hx' => by unfold cl; omega⟩
    obtain ⟨c, hc⟩ := hc
    refine ⟨(if hot s then s.r * c else - (s.r * c)) + B, fun x hx hx' => ?_⟩
    have e1 := hB x hx hx'
    have e2 : s.r * cl gap s x = s.r * cl gap s d + s.r * c * (x - d) := by rw [hc x hx hx', Int.mul_add, Int.mul_assoc]
    unfold GG at e1 ⊢
    simp only [List.map_cons, List.sum_cons]
    rw [e1, Int.add_mul]
    unfold g1
    rw [e2]
    split
    · omega
    · rw [Int.neg_mul]; omega

theorem G_le {gap : Int} {u d x : Int} {l : List Sm} (hok : ∀ s ∈ l, s.ok = true) (h : ∀ s ∈ l, (up gap s ≤ d ∨ u ≤ up gap s) ∧ (lo gap s ≤ d ∨ u ≤ lo gap s)) (h1 : d ≤ x) (h2 : x ≤ u) : GG gap l x ≤ GG gap l u ∨ GG gap l x ≤ GG gap l d := by
  obtain ⟨B, hB⟩ := G_lin (by omega) hok h
  have e1 := hB x h1 h2
  have e2 := hB u (by omega) (by omega)
  by_cases hb : 0 ≤ B
  · left
    have : B * (x - d) ≤ B * (u - d) := Int.mul_le_mul_of_nonneg_left (by omega) hb
    omega
  · right
    have : B * (x - d) ≤ 0 := Int.mul_nonpos_of_nonpos_of_nonneg (by omega) (by omega)
    omega

/-- A temperature lies above all members of a falling list, below all, or between neighbours. -/
theorem falling_at : ∀ {ls : List Int}, ls.Pairwise (· > ·) → ∀ (t : Int), (∀ x ∈ ls, x ≤ t) ∨ (∀ x ∈ ls, t ≤ x) ∨ ∃ k, ∃ (hk : k + 1 < ls.length), ls[k + 1] ≤ t ∧ t ≤ ls[k] ∧ ∀ x ∈ ls, x ≤ ls[k + 1] ∨ ls[k] ≤ x
  | [], _, t => .inl fun x hx => by simp at hx
  | a :: ls, h, t => by
    rw [List.pairwise_cons] at h
    obtain ⟨h1, h2⟩ := h
    by_cases ha : a ≤ t
    · left
      intro x hx
      rcases List.mem_cons.1 hx with rfl | hx
      · exact ha
      · have := h1 x hx; omega
    · rcases falling_at h2 t with h3 | h3 | ⟨k, hk, h3, h4, h5⟩
      · cases ls with
        | nil => exact .inr (.inl fun x hx => by simp at hx; omega)
        | cons b ls =>
          refine .inr (.inr ⟨0, by simp, h3 b (by simp), by simp; omega, fun x hx => ?_⟩)
          rcases List.mem_cons.1 hx with rfl | hx
          · right; exact Int.le_refl _
          · left
            rcases List.mem_cons.1 hx with rfl | hx
            · exact Int.le_refl _
            · have := (List.pairwise_cons.1 h2).1 x hx
              show x ≤ b; omega
      · refine .inr (.inl fun x hx => ?_)
        rcases List.mem_cons.1 hx with rfl | hx
        · omega
        · exact h3 x hx
      · refine .inr (.inr ⟨k + 1, by simp; omega, by simpa using h3, by simpa using h4, fun x hx => ?_⟩)
        rcases List.mem_cons.1 hx with rfl | hx
        · right
          have := h1 ls[k] (List.getElem_mem _)
          simp only [List.getElem_cons_succ]; omega
        · simpa using h5 x hx

theorem falling_get {ls : List Int} (h : ls.Pairwise (· > ·)) {i j : Nat} (hij : i ≤ j) (hj : j < ls.length) : ls[j] ≤ ls[i]'(by omega) := by
  rcases Nat.lt_or_eq_of_le hij with h1 | h1
  · have := List.pairwise_iff_getElem.1 h i j (by omega) hj h1; omega
  · subst h1; exact Int.le_refl _

/-- The cascade by what the surplus is a difference of. -/
theorem cat_G {gap : Int} {l : List Sm} (hok : okH l gap = true) (h : Int) : ∀ (k : Nat) (hk : k < (lvls gap l).length), cat (surp gap l) h (prs (lvls gap l)) k = h + GG gap l ((lvls gap l)[0]'(by omega)) - GG gap l (lvls gap l)[k]
  | 0, hk => by simp [cat]
  | k + 1, hk => by
    have hpl := prs_length (lvls gap l)
    have hk' : k < (prs (lvls gap l)).length := by omega
    rw [cat_succ hk', prs_get hk, cat_G hok h k (by omega)]
    rw [surp_G (okH_iff.1 hok).2.2.2.2 (falling_get (lvls_falling gap l) (show k ≤ k + 1 by omega) hk)]
    omega

theorem lv_top {gap : Int} {l : List Sm} (hok : okH l gap = true) : GG gap l ((lvls gap l)[0]'(by have := lvls_two hok; omega)) = GG gap l 200 := by
  have h := okH_iff.1 hok
  refine G_high (fun s hs => ?_) fun s hs => (ends_in (h.2.2.2.2 s hs) h.2.2.1 h.2.2.2.1).2.2
  obtain ⟨i, hi, he⟩ := List.getElem_of_mem (lvls_mem.2 ⟨s, hs, .inl rfl⟩ : up gap s ∈ lvls gap l)
  rw [← he]
  exact falling_get (lvls_falling gap l) (Nat.zero_le _) hi
theorem lv_low {gap : Int} {l : List Sm} (hok : okH l gap = true) : GG gap l ((lvls gap l)[(lvls gap l).length - 1]'(by have := lvls_two hok; omega)) = GG gap l (-20) := by
  have h := okH_iff.1 hok
  refine G_low (fun s hs => ?_) fun s hs => (ends_in (h.2.2.2.2 s hs) h.2.2.1 h.2.2.2.1).1
  obtain ⟨i, hi, he⟩ := List.getElem_of_mem (lvls_mem.2 ⟨s, hs, .inr rfl⟩ : lo gap s ∈ lvls gap l)
  rw [← he]
  exact falling_get (lvls_falling gap l) (by omega) (by omega)

/-- What a temperature proves is at most the least hot utility .. -/
theorem hotU_ge {gap : Int} {l : List Sm} (hok : okH l gap = true) (t : Int) (ht : t ≤ 200) : - surp gap l 200 t ≤ hotU gap l := by
  have h := okH_iff.1 hok
  have n2 := lvls_two hok
  have hb := hotU_bd hok
  have hall := h.2.2.2.2
  have hpl := prs_length (lvls gap l)
  have key : ∀ k (hk : k < (lvls gap l).length), GG gap l (lvls gap l)[k] - GG gap l 200 ≤ hotU gap l := fun k hk => by
    have hm : cat (surp gap l) 0 (prs (lvls gap l)) k ∈ casc gap l 0 := by
      rw [← casc_get (by rw [casc_length]; omega)]; exact List.getElem_mem _
    have := minI_le hm
    rw [cat_G hok 0 k hk, lv_top hok] at this
    unfold hotU; omega
  rw [surp_G hall ht]
  rcases falling_at (lvls_falling gap l) t with h3 | h3 | ⟨k, hk, h3, h4, h5⟩
  · have : GG gap l t = GG gap l 200 := G_high (fun s hs => h3 _ (lvls_mem.2 ⟨s, hs, .inl rfl⟩)) fun s hs => (ends_in (hall s hs) h.2.2.1 h.2.2.2.1).2.2
    omega
  · have e1 : GG gap l t = GG gap l (-20) := G_low (fun s hs => h3 _ (lvls_mem.2 ⟨s, hs, .inr rfl⟩)) fun s hs => (ends_in (hall s hs) h.2.2.1 h.2.2.2.1).1
    have := key ((lvls gap l).length - 1) (by omega)
    rw [lv_low hok] at this
    omega
  · have h6 := G_le (x := t) hall (fun s hs => ⟨h5 _ (lvls_mem.2 ⟨s, hs, .inl rfl⟩), h5 _ (lvls_mem.2 ⟨s, hs, .inr rfl⟩)⟩) h3 h4
    have k1 := key k (by omega)
    have k2 := key (k + 1) hk
    omega

/-- .. and some level proves it. -/
theorem hotU_at {gap : Int} {l : List Sm} (hok : okH l gap = true) : ∃ t ∈ lvls gap l, - surp gap l 200 t = hotU gap l := by
  have h := okH_iff.1 hok
  have hpl := prs_length (lvls gap l)
  have n2 := lvls_two hok
  have hne : casc gap l 0 ≠ [] := fun e => by have := casc_length gap l 0; rw [e] at this; simp at this
  obtain ⟨k, hk, he⟩ := casc_mem (minI_mem hne)
  refine ⟨(lvls gap l)[k]'(by omega), List.getElem_mem _, ?_⟩
  have hin := lvls_in hok _ (List.getElem_mem (show k < (lvls gap l).length by omega))
  rw [surp_G h.2.2.2.2 hin.2]
  rw [cat_G hok 0 k (by omega), lv_top hok] at he
  unfold hotU; omega

theorem coldU_eq {gap : Int} {l : List Sm} (hok : okH l gap = true) : coldU gap l = hotU gap l + surp gap l 200 (-20) := by
  have h := okH_iff.1 hok
  have hpl := prs_length (lvls gap l)
  have n2 := lvls_two hok
  unfold coldU
  rw [hpl, cat_G hok _ _ (by omega), lv_top hok, lv_low hok, surp_G h.2.2.2.2 (by decide)]
  omega
theorem coldU_nn {gap : Int} {l : List Sm} (hok : okH l gap = true) : 0 ≤ coldU gap l := by
  have := hotU_ge hok (-20) (by decide)
  rw [coldU_eq hok]; omega

/-- Systems with the same surplus need the same. -/
theorem hotU_congr {gap gap' : Int} {l l' : List Sm} (hok : okH l gap = true) (hok' : okH l' gap' = true) (h : ∀ t, -20 ≤ t → t ≤ 200 → surp gap l 200 t = surp gap' l' 200 t) : hotU gap l = hotU gap' l' ∧ coldU gap l = coldU gap' l' := by
  have e : hotU gap l = hotU gap' l' := by
    obtain ⟨t, ht, h1⟩ := hotU_at hok
    obtain ⟨t', ht', h1'⟩ := hotU_at hok'
    have b := lvls_in hok t ht
    have b' := lvls_in hok' t' ht'
    have q1 := hotU_ge hok t' b'.2
    have q2 := hotU_ge hok' t b.2
    have e1 := h t b.1 b.2
    have e2 := h t' b'.1 b'.2
    omega
  refine ⟨e, ?_⟩
  rw [coldU_eq hok, coldU_eq hok', e, h _ (by decide) (by decide)]

/-- The heat of all streams. -/
def hsum (l : List Sm) : Int := (l.map fun s => s.r * (s.b - s.a)).sum
theorem hs_all {gap : Int} {s : Sm} (hok : s.ok = true) (h0 : 0 ≤ gap) (h1 : gap ≤ 20) : hs gap 200 (-20) s = - (s.r * (s.b - s.a)) := by
  have he := ends_in hok h0 h1
  have e : ht gap s 200 (-20) = s.r * (up gap s - lo gap s) := by
    unfold ht; congr 1; omega
  unfold hs
  rw [e]
  unfold up lo
  by_cases hh : hot s = true
  · rw [if_pos hh, if_pos hh, if_pos hh, ← Int.mul_neg]; congr 1; omega
  · rw [if_neg hh, if_neg hh, if_neg hh]
theorem sum_neg (f : Sm → Int) : ∀ l : List Sm, (l.map fun s => - f s).sum = - (l.map f).sum
  | [] => rfl
  | s :: l => by simp only [List.map_cons, List.sum_cons]; rw [sum_neg f l]; omega
theorem surp_all {gap : Int} {l : List Sm} (hok : okH l gap = true) : surp gap l 200 (-20) = - hsum l := by
  have h := okH_iff.1 hok
  unfold surp hsum
  rw [← sum_neg]
  congr 1
  exact List.map_congr_left fun s hs => hs_all (h.2.2.2.2 s hs) h.2.2.1 h.2.2.2.1
theorem balance {gap : Int} {l : List Sm} (hok : okH l gap = true) : hotU gap l - coldU gap l = hsum l := by
  rw [coldU_eq hok, surp_all hok]; omega
theorem hsum_snoc {l : List Sm} {k : Nat} (hk : k < l.length) : hsum (l.take (k + 1)) = hsum (l.take k) + l[k].r * (l[k].b - l[k].a) := by
  unfold hsum
  rw [List.take_succ_eq_append_getElem hk, List.map_append, List.sum_append]; simp
theorem hsum_bd {l : List Sm} (h : ∀ s ∈ l, s.ok = true) (hl : l.length ≤ 8) : -32000 ≤ hsum l ∧ hsum l ≤ 32000 := by
  have := sum_bd (l := l.map fun s => s.r * (s.b - s.a)) (B := 4000) (fun x hx => by
    obtain ⟨s, hs', rfl⟩ := List.mem_map.1 hx
    obtain ⟨a1, a2, a3, a4, a5, a6, a7⟩ := Sm.ok_iff.1 (h s hs')
    have k1 : s.r * (s.b - s.a) ≤ s.r * 200 := Int.mul_le_mul_of_nonneg_left (by omega) (by omega)
    have k2 : s.r * (s.b - s.a) ≥ s.r * (-200) := Int.mul_le_mul_of_nonneg_left (by omega) (by omega)
    omega)
  simp only [List.length_map] at this
  unfold hsum
  constructor <;> omega
theorem hsum1_bd {s : Sm} (h : s.ok = true) : -4000 ≤ s.r * (s.b - s.a) ∧ s.r * (s.b - s.a) ≤ 4000 := by
  obtain ⟨a1, a2, a3, a4, a5, a6, a7⟩ := Sm.ok_iff.1 h
  have k1 : s.r * (s.b - s.a) ≤ s.r * 200 := Int.mul_le_mul_of_nonneg_left (by omega) (by omega)
  have k2 : s.r * (s.b - s.a) ≥ s.r * (-200) := Int.mul_le_mul_of_nonneg_left (by omega) (by omega)
  omega

/-! ### A greater gap -/
theorem hs_gap {gap gap' : Int} {s : Sm} (hok : s.ok = true) (h : gap ≤ gap') (h0 : 0 ≤ gap) (t : Int) : hs gap' 200 t s ≤ hs gap 200 t s := by
  obtain ⟨a1, a2, a3, a4, a5, a6, a7⟩ := Sm.ok_iff.1 hok
  unfold hs ht up lo
  by_cases hh : hot s = true
  · simp only [hh, if_true]
    unfold hot at hh
    simp only [decide_eq_true_eq] at hh
    exact Int.mul_le_mul_of_nonneg_left (by omega) (by omega)
  · simp [hh]
theorem sum_le (f g : Sm → Int) : ∀ l : List Sm, (∀ s ∈ l, f s ≤ g s) → (l.map f).sum ≤ (l.map g).sum
  | [], _ => Int.le_refl _
  | s :: l, h => by
    simp only [List.map_cons, List.sum_cons]
    have := sum_le f g l fun x hx => h x (List.mem_cons_of_mem _ hx)
    have := h s (by simp); omega
theorem hotU_gap {gap gap' : Int} {l : List Sm} (hok : okH l gap = true) (hok' : okH l gap' = true) (h : gap ≤ gap') : hotU gap l ≤ hotU gap' l := by
  have hi := okH_iff.1 hok
  obtain ⟨t, ht, h1⟩ := hotU_at hok
  have b := lvls_in hok t ht
  have := hotU_ge hok' t b.2
  have : surp gap' l 200 t ≤ surp gap l 200 t := sum_le _ _ l fun s hs => hs_gap (hi.2.2.2.2 s hs) h hi.2.2.1 t
  omega
end Go.Ht

