import Derived.Test.YtjfpeiioddfjcaaZnG0
import Derived.Test.YtjfpeiioddfjcaaFlV
/-
  Zones: what Delay, Reset and And make, done again.
-/
namespace Go.Proofs.Ytjfpeiioddfjcaa
open Go.Vm Go.Zn

def dlZ (z : List (List Int)) : List (List Int) := resZ (dlE z) z.length (delM z.length (tightM z.length (zf z)))
def rsZ (z : List (List Int)) (s : Int) : List (List Int) := resZ (rsE z s) z.length (resM z.length s.toNat (tightM z.length (zf z)))
def anZ (z : List (List Int)) (i j b : Int) : List (List Int) := resZ (anE z i j b) z.length (tightM z.length (andM z i.toNat j.toNat b))
theorem dlZ_le {z : List (List Int)} (h : z.length ≤ 6) : (dlZ z).length ≤ 6 := resZ_le _ h _
theorem rsZ_le {z : List (List Int)} {s : Int} (h : z.length ≤ 6) : (rsZ z s).length ≤ 6 := resZ_le _ h _
theorem anZ_le {z : List (List Int)} {i j b : Int} (h : z.length ≤ 6) : (anZ z i j b).length ≤ 6 := resZ_le _ h _
theorem dlE_eq (z : List (List Int)) : dlE z = tgE z := by
  rw [tgE_eq]
  unfold dlE opE
  split
  · rename_i hv
    have : (List.range 2).any (fun j => emptyB z.length (dlA z (j + 1))) = emptyB z.length (tightM z.length (zf z)) := by
      show (emptyB z.length (tightM z.length (zf z)) || (emptyB z.length (delM z.length (tightM z.length (zf z))) || false)) = _
      cases he : emptyB z.length (tightM z.length (zf z)) with
      | true => rfl
      | false =>
        have h0 : tgE z = 0 := by rw [tgE_ok hv, he]; rfl
        rw [tight_nonempty (del_ok (tg_ok h0))]; rfl
    rw [this]
  · rfl
theorem rsE_eq (z : List (List Int)) (s : Int) : rsE z s = if setB z.length s then tgE z else 2 := by
  rw [tgE_eq]
  unfold rsE opE
  split
  · split
    · rename_i hv
      have : (List.range 2).any (fun j => emptyB z.length (rsA z s.toNat (j + 1))) = emptyB z.length (tightM z.length (zf z)) := by
        show (emptyB z.length (tightM z.length (zf z)) || (emptyB z.length (resM z.length s.toNat (tightM z.length (zf z))) || false)) = _
        cases he : emptyB z.length (tightM z.length (zf z)) with
        | true => rfl
        | false =>
          have h0 : tgE z = 0 := by rw [tgE_ok hv, he]; rfl
          rw [tight_nonempty (res_ok (tg_ok h0))]; rfl
      rw [this]
    · rfl
  · rfl
theorem dl_out {z : List (List Int)} (h : validZ z = true) : ∀ x y, z.length ≤ x ∨ z.length ≤ y → delM z.length (tightM z.length (zf z)) x y = 0 := fun x y ho => by
  rw [del_out ho (by have := (validZ_rows h).1; omega)]; exact tg_out h x y ho
theorem rs_out {z : List (List Int)} {s : Nat} (h : validZ z = true) : ∀ x y, z.length ≤ x ∨ z.length ≤ y → resM z.length s (tightM z.length (zf z)) x y = 0 := fun _ _ ho =>
  res_out (tg_out h) ho (by have := (validZ_rows h).1; omega)
/-- A closed result is tight when it is read again. -/
theorem again {n : Nat} {F : Nat → Nat → Int} {Z : List (List Int)} (hn : n ≤ 4) (h : TightOk n F) (ho : ∀ x y, n ≤ x ∨ n ≤ y → F x y = 0) (hZ : Z = genM n n F) (hv : validZ Z = true) : Z.length = n ∧ zf Z = F ∧ tightM Z.length (zf Z) = F ∧ tgE Z = 0 := by
  have hv2 := hv
  rw [hZ] at hv2
  obtain ⟨s1, s2, _⟩ := valid_self hn h ho hv2
  have hl : Z.length = n := by rw [hZ, genM_length]
  have e2 : zf Z = F := by rw [hZ, s2]
  have e3 : tightM Z.length (zf Z) = F := by rw [hl, e2, s1]
  refine ⟨hl, e2, e3, ?_⟩
  rw [tgE_ok hv, e3, hl, tight_nonempty h]; rfl
theorem dl_dl {z : List (List Int)} (h : dlE z = 0) : (dlE (dlZ z) = 0 → dlZ (dlZ z) = dlZ z) ∧ (dlE (dlZ z) ≠ 0 → validZ (dlZ z) = false) := by
  have h0 : tgE z = 0 := (dlE_eq z).symm.trans h
  have hv := (tgE_zero h0).1
  have hn := (validZ_rows hv).2.1
  have e : dlZ z = genM z.length z.length (delM z.length (tightM z.length (zf z))) := by unfold dlZ resZ; rw [if_pos h]
  have key : validZ (dlZ z) = true → dlE (dlZ z) = 0 ∧ dlZ (dlZ z) = dlZ z := fun hv' => by
    obtain ⟨k1, k2, k3, k4⟩ := again hn (del_ok (tg_ok h0)) (dl_out hv) e hv'
    have k5 : dlE (dlZ z) = 0 := (dlE_eq _).trans k4
    refine ⟨k5, ?_⟩
    show resZ (dlE (dlZ z)) (dlZ z).length (delM (dlZ z).length (tightM (dlZ z).length (zf (dlZ z)))) = dlZ z
    rw [k5, k3, k1, del_del, e]; rfl
  exact ⟨fun h1 => (key (tgE_zero ((dlE_eq _).symm.trans h1)).1).2, fun h1 => Bool.eq_false_iff.2 fun hv' => h1 (key hv').1⟩
theorem rs_rs {z : List (List Int)} {s : Int} (h : rsE z s = 0) : (rsE (rsZ z s) s = 0 → rsZ (rsZ z s) s = rsZ z s) ∧ (rsE (rsZ z s) s ≠ 0 → validZ (rsZ z s) = false) := by
  have hs : setB z.length s = true ∧ tgE z = 0 := by
    rw [rsE_eq] at h
    split at h
    · rename_i hs; exact ⟨hs, h⟩
    · cases h
  have h0 := hs.2
  have hv := (tgE_zero h0).1
  have hn := (validZ_rows hv).2.1
  have e : rsZ z s = genM z.length z.length (resM z.length s.toNat (tightM z.length (zf z))) := by unfold rsZ resZ; rw [if_pos h]
  have key : validZ (rsZ z s) = true → rsE (rsZ z s) s = 0 ∧ rsZ (rsZ z s) s = rsZ z s := fun hv' => by
    obtain ⟨k1, k2, k3, k4⟩ := again hn (res_ok (tg_ok h0)) (rs_out hv) e hv'
    have k5 : rsE (rsZ z s) s = 0 := by rw [rsE_eq, k1, if_pos hs.1]; exact k4
    refine ⟨k5, ?_⟩
    show resZ (rsE (rsZ z s) s) (rsZ z s).length (resM (rsZ z s).length s.toNat (tightM (rsZ z s).length (zf (rsZ z s)))) = rsZ z s
    rw [k5, k3, k1, e]
    exact genM_eq' fun i hi j hj => res_res hi hj
  refine ⟨fun h1 => ?_, fun h1 => Bool.eq_false_iff.2 fun hv' => h1 (key hv').1⟩
  have : tgE (rsZ z s) = 0 := by
    rw [rsE_eq] at h1
    split at h1
    · exact h1
    · cases h1
  exact (key (tgE_zero this).1).2
theorem guardB_iff {cl most i j b : Int} : guardB cl most i j b = true ↔ ((0 ≤ i ∧ i ≤ cl) ∧ 0 ≤ j ∧ j ≤ cl) ∧ bndB most b = true := by
  unfold guardB
  simp only [Bool.and_eq_true, decide_eq_true_eq]
/-- What And of a valid zone is. -/
theorem anE_zero {z : List (List Int)} {i j b : Int} (h : anE z i j b = 0) : guardB ((z.length : Int) - 1) 1000 i j b = true ∧ validZ z = true ∧ emptyB z.length (tightM z.length (andM z i.toNat j.toNat b)) = false := by
  unfold anE opE at h
  split at h
  · rename_i hg
    split at h
    · rename_i hv
      split at h
      · cases h
      · rename_i he
        refine ⟨hg, hv, ?_⟩
        have : emptyB z.length (tightM z.length (andM z i.toNat j.toNat b)) = (List.range 1).any (fun q => emptyB z.length (anA z i.toNat j.toNat b (q + 1))) := (Bool.or_false _).symm
        rw [this]
        exact Bool.eq_false_iff.2 he
    · cases h
  · cases h
theorem anE_ok {z : List (List Int)} {i j b : Int} (hg : guardB ((z.length : Int) - 1) 1000 i j b = true) (hv : validZ z = true) : anE z i j b = if emptyB z.length (tightM z.length (andM z i.toNat j.toNat b)) then 5 else 0 := by
  unfold anE opE
  rw [if_pos hg, if_pos hv]
  have : (List.range 1).any (fun q => emptyB z.length (anA z i.toNat j.toNat b (q + 1))) = emptyB z.length (tightM z.length (andM z i.toNat j.toNat b)) := Bool.or_false _
  rw [this]
theorem anE_two {z : List (List Int)} {i j b : Int} (hg : guardB ((z.length : Int) - 1) 1000 i j b = true) (hv : validZ z = true) : anE z i j b ≠ 2 := by
  rw [anE_ok hg hv]; split <;> decide
theorem guard_lt {n : Nat} {i j b : Int} (hg : guardB ((n : Int) - 1) 1000 i j b = true) : i.toNat < n ∧ j.toNat < n ∧ bndB 1000 b = true := by
  obtain ⟨⟨⟨h1, h2⟩, h3, h4⟩, h5⟩ := guardB_iff.1 hg
  exact ⟨by omega, by omega, h5⟩
theorem le_and {n : Nat} {z : List (List Int)} {c : Nat → Nat → Int} {i j : Nat} {b : Int} (hi : i < n) (hj : j < n) : LeM n c (andM z i j b) ↔ LeM n c (zf z) ∧ c i j ≤ b := by
  constructor
  · intro h
    refine ⟨fun x y hx hy => ?_, ?_⟩
    · have := h x y hx hy
      unfold andM set2 at this
      split at this
      · rename_i hc; rw [hc.1, hc.2] at this ⊢; omega
      · exact this
    · have := h i j hi hj
      unfold andM set2 at this
      rw [if_pos ⟨rfl, rfl⟩] at this; omega
  · intro ⟨h1, h2⟩ x y hx hy
    unfold andM set2
    split
    · rename_i hc
      have := h1 x y hx hy
      rw [hc.1, hc.2] at this ⊢; omega
    · exact h1 x y hx hy
theorem and_lim5 {z : List (List Int)} {i j b : Int} (hg : guardB ((z.length : Int) - 1) 1000 i j b = true) (hv : validZ z = true) : ZgM 5000 (Go.Zn.flo z.length (andM z i.toNat j.toNat b)) := Go.Zn.lim5 (andM_lim hv (guard_lt hg).2.2)
theorem an_ok {z : List (List Int)} {i j b : Int} (h : anE z i j b = 0) : TightOk z.length (tightM z.length (andM z i.toNat j.toNat b)) :=
  tight_ok' (validZ_rows (anE_zero h).2.1).2.1 (and_lim5 (anE_zero h).1 (anE_zero h).2.1) (anE_zero h).2.2
theorem an_out {z : List (List Int)} {i j b : Int} (h : anE z i j b = 0) : ∀ x y, z.length ≤ x ∨ z.length ≤ y → tightM z.length (andM z i.toNat j.toNat b) x y = 0 := fun x y ho => by
  rw [tight_out ho]
  have := guard_lt (anE_zero h).1
  unfold andM set2
  rw [if_neg (by omega)]
  exact zf_out (anE_zero h).2.1 ho
theorem an_gen {z : List (List Int)} {i j b : Int} (h : anE z i j b = 0) : anZ z i j b = genM z.length z.length (tightM z.length (andM z i.toNat j.toNat b)) := by unfold anZ resZ; rw [if_pos h]
/-- A guard after a guard. -/
theorem an_an {z : List (List Int)} {i j b i' j' b' : Int} (h : anE z i j b = 0) (h' : anE z i' j' b' = 0) (hv : validZ (anZ z i j b) = true) (hv' : validZ (anZ z i' j' b') = true) :
    anE (anZ z i j b) i' j' b' = anE (anZ z i' j' b') i j b ∧ anZ (anZ z i j b) i' j' b' = anZ (anZ z i' j' b') i j b := by
  obtain ⟨g1, v1, e1⟩ := anE_zero h
  obtain ⟨g2, _, e2⟩ := anE_zero h'
  have hn := (validZ_rows v1).2.1
  obtain ⟨a1, a2, _, _⟩ := again hn (an_ok h) (an_out h) (an_gen h) hv
  obtain ⟨b1, b2, _, _⟩ := again hn (an_ok h') (an_out h') (an_gen h') hv'
  have l1 := guard_lt g1
  have l2 := guard_lt g2
  have m1 : ZgM 5000 (Go.Zn.flo z.length (andM (anZ z i j b) i'.toNat j'.toNat b')) := Go.Zn.lim5 (andM_lim hv l2.2.2)
  have m2 : ZgM 5000 (Go.Zn.flo z.length (andM (anZ z i' j' b') i.toNat j.toNat b)) := Go.Zn.lim5 (andM_lim hv' l1.2.2)
  have low : ∀ c, TightOk z.length c → (LeM z.length c (andM (anZ z i j b) i'.toNat j'.toNat b') ↔ LeM z.length c (andM (anZ z i' j' b') i.toNat j.toNat b)) := fun c hc => by
    rw [le_and l2.1 l2.2.1, le_and l1.1 l1.2.1, a2, b2]
    constructor
    · intro ⟨k1, k2⟩
      have k3 := (le_and l1.1 l1.2.1).1 (k1.trans (tight_le_a hn (and_lim5 g1 v1)))
      exact ⟨tight_greatest hn (and_lim5 g2 v1) hc ((le_and l2.1 l2.2.1).2 ⟨k3.1, k2⟩), k3.2⟩
    · intro ⟨k1, k2⟩
      have k3 := (le_and l2.1 l2.2.1).1 (k1.trans (tight_le_a hn (and_lim5 g2 v1)))
      exact ⟨tight_greatest hn (and_lim5 g1 v1) hc ((le_and l1.1 l1.2.1).2 ⟨k3.1, k2⟩), k3.2⟩
  obtain ⟨q1, q2⟩ := tight_same hn m1 m2 low
  have g2' : guardB (((anZ z i j b).length : Int) - 1) 1000 i' j' b' = true := by rw [a1]; exact g2
  have g1' : guardB (((anZ z i' j' b').length : Int) - 1) 1000 i j b = true := by rw [b1]; exact g1
  have hE : anE (anZ z i j b) i' j' b' = anE (anZ z i' j' b') i j b := by
    rw [anE_ok g2' hv, anE_ok g1' hv', a1, b1, q1]
  refine ⟨hE, ?_⟩
  show resZ (anE (anZ z i j b) i' j' b') _ _ = resZ (anE (anZ z i' j' b') i j b) _ _
  rw [← hE, a1, b1]
  unfold resZ
  split
  · rename_i h0
    rw [anE_ok g2' hv, a1] at h0
    split at h0
    · cases h0
    · rename_i hne
      exact genM_eq' fun x hx y hy => q2 (Bool.eq_false_iff.2 hne) x y hx hy
  · rfl
/-- A guard twice. -/
theorem an_twice {z : List (List Int)} {i j b : Int} (h : anE z i j b = 0) (hv : validZ (anZ z i j b) = true) : anE (anZ z i j b) i j b = 0 ∧ anZ (anZ z i j b) i j b = anZ z i j b := by
  obtain ⟨g1, v1, e1⟩ := anE_zero h
  have hn := (validZ_rows v1).2.1
  obtain ⟨a1, a2, a3, _⟩ := again hn (an_ok h) (an_out h) (an_gen h) hv
  have l1 := guard_lt g1
  have hb : tightM z.length (andM z i.toNat j.toNat b) i.toNat j.toNat ≤ b := ((le_and l1.1 l1.2.1).1 (tight_le_a hn (and_lim5 g1 v1))).2
  have e : andM (anZ z i j b) i.toNat j.toNat b = zf (anZ z i j b) := by
    funext x y
    unfold andM set2
    split
    · rename_i hc
      rw [hc.1, hc.2, a2]; omega
    · rfl
  have g1' : guardB (((anZ z i j b).length : Int) - 1) 1000 i j b = true := by rw [a1]; exact g1
  have e0 : anE (anZ z i j b) i j b = 0 := by
    rw [anE_ok g1' hv, e, a3, a1, tight_nonempty (an_ok h)]; rfl
  refine ⟨e0, ?_⟩
  show resZ (anE (anZ z i j b) i j b) _ _ = _
  rw [e0, e, a3, a1, an_gen h]; rfl
set_option maxRecDepth 10000 in
theorem Clock49 {d : DV} {z : List (List Int)} {i j b : Int} (hd : Mat d z) (hl : z.length ≤ 9223372036854775807) (hr : ∀ r ∈ z, r.length ≤ 9223372036854775807) : DeepCall Try.prog 49 [d, .agg [DI i, DI j, DI b]] (DB (guardB ((z.length : Int) - 1) 1000 i j b)) := by
  refine deepCall_K 5 Try.func49 rfl (Nat.le_of_ble_eq_true rfl) fun M W0 => ?_
  refine KC.seq ?_
  refine KC.region ?_
  refine KT.step rfl rfl (K.box rfl) ?_
  refine KT.step rfl rfl (K.assign rfl) ?_
  refine KT.nil ?_
  refine thenK_n ?_
  refine KC.seq ?_
  refine KC.region ?_
  refine KT.step rfl rfl (K.fieldAddrO rfl Try.fld36_0 Try.size3) ?_
  refine KT.step rfl rfl (K.loadO rfl rfl (by simp) rfl Try.agg3) ?_
  refine KT.step rfl rfl (K.geq rfl rfl) ?_
  refine KT.step rfl rfl (K.move rfl) ?_
  refine KT.bcase (fun hb8 => ?_) (fun hb8 => ?_)
  · skip
    replace hb8 := of_decide_eq_true hb8
    refine KT.step rfl rfl (K.fieldAddrO rfl Try.fld36_0 Try.size3) ?_
    refine KT.step rfl rfl (K.loadO rfl rfl (by simp) rfl Try.agg3) ?_
    refine KT.step rfl rfl (K.move rfl) ?_
    refine KT.step rfl rfl (K.len rfl hd Try.underlying22) ?_
    refine KT.step rfl rfl (K.lss rfl rfl) ?_
    refine KT.step rfl rfl (K.pick rfl (fun _ => rfl) (fun h => by cases h)) ?_
    refine KT.step rfl rfl (K.move rfl) ?_
    refine KT.bcase (fun hb15 => ?_) (fun hb15 => ?_)
    · skip
      replace hb15 := of_decide_eq_true hb15
      refine KT.step rfl rfl (K.fieldAddrO rfl Try.fld36_1 Try.size3) ?_
      refine KT.step rfl rfl (K.loadO rfl rfl (by simp) rfl Try.agg3) ?_
      refine KT.step rfl rfl (K.geq rfl rfl) ?_
      refine KT.step rfl rfl (K.pick rfl (fun _ => rfl) (fun h => by cases h)) ?_
      refine KT.step rfl rfl (K.move rfl) ?_
      refine KT.bcase (fun hb20 => ?_) (fun hb20 => ?_)
      · skip
        replace hb20 := of_decide_eq_true hb20
        refine KT.step rfl rfl (K.fieldAddrO rfl Try.fld36_1 Try.size3) ?_
        refine KT.step rfl rfl (K.loadO rfl rfl (by simp) rfl Try.agg3) ?_
        refine KT.step rfl rfl (K.move rfl) ?_
        refine KT.step rfl rfl (K.len rfl hd Try.underlying22) ?_
        refine KT.step rfl rfl (K.lss rfl rfl) ?_
        refine KT.step rfl rfl (K.pick rfl (fun _ => rfl) (fun h => by cases h)) ?_
        refine KT.step rfl rfl (K.move rfl) ?_
        refine KT.bcase (fun hb27 => ?_) (fun hb27 => ?_)
        · skip
          replace hb27 := of_decide_eq_true hb27
          refine KT.step rfl rfl (K.fieldAddrO rfl Try.fld36_2 Try.size3) ?_
          refine KT.step rfl rfl (K.loadO rfl rfl (by simp) rfl Try.agg3) ?_
          refine KT.step rfl rfl (K.call2 rfl rfl plainTry_76 (bound76 _ _ (by omega))) ?_
          refine KT.step rfl rfl (K.pick rfl (fun _ => rfl) (fun h => by cases h)) ?_
          refine KT.step rfl rfl (K.assign rfl) ?_
          refine KT.nil ?_
          refine thenK_n ?_
          refine KC.ret ?_
          exact ⟨.inl rfl, _, rfl, fin_b (by unfold guardB; rw [decide_eq_true hb8, decide_eq_true (show i ≤ (z.length : Int) - 1 by omega), decide_eq_true hb20, decide_eq_true (show j ≤ (z.length : Int) - 1 by omega)]; rfl)⟩
        · skip
          replace hb27 := of_decide_eq_false hb27
          refine KT.skip rfl rfl ?_
          refine KT.skip rfl rfl ?_
          refine KT.skip rfl rfl ?_
          refine KT.step rfl rfl (K.pick rfl (fun h => by cases h) (fun _ => rfl)) ?_
          refine KT.step rfl rfl (K.assign rfl) ?_
          refine KT.nil ?_
          refine thenK_n ?_
          refine KC.ret ?_
          exact ⟨.inl rfl, _, rfl, fin_b (by unfold guardB; rw [decide_eq_true hb8, decide_eq_true (show i ≤ (z.length : Int) - 1 by omega), decide_eq_true hb20, decide_eq_false (show ¬ j ≤ (z.length : Int) - 1 by omega)]; rfl)⟩
      · skip
        replace hb20 := of_decide_eq_false hb20
        refine KT.skip rfl rfl ?_
        refine KT.skip rfl rfl ?_
        refine KT.skip rfl rfl ?_
        refine KT.skip rfl rfl ?_
        refine KT.skip rfl rfl ?_
        refine KT.step rfl rfl (K.pick rfl (fun h => by cases h) (fun _ => rfl)) ?_
        refine KT.step rfl rfl (K.move rfl) ?_
        refine KT.skip rfl rfl ?_
        refine KT.skip rfl rfl ?_
        refine KT.skip rfl rfl ?_
        refine KT.step rfl rfl (K.pick rfl (fun h => by cases h) (fun _ => rfl)) ?_
        refine KT.step rfl rfl (K.assign rfl) ?_
        refine KT.nil ?_
        refine thenK_n ?_
        refine KC.ret ?_
        exact ⟨.inl rfl, _, rfl, fin_b (by unfold guardB; rw [decide_eq_true hb8, decide_eq_true (show i ≤ (z.length : Int) - 1 by omega), decide_eq_false hb20]; rfl)⟩
    · skip
      replace hb15 := of_decide_eq_false hb15
      refine KT.skip rfl rfl ?_
      refine KT.skip rfl rfl ?_
      refine KT.skip rfl rfl ?_
      refine KT.step rfl rfl (K.pick rfl (fun h => by cases h) (fun _ => rfl)) ?_
      refine KT.step rfl rfl (K.move rfl) ?_
      refine KT.skip rfl rfl ?_
      refine KT.skip rfl rfl ?_
      refine KT.skip rfl rfl ?_
      refine KT.skip rfl rfl ?_
      refine KT.skip rfl rfl ?_
      refine KT.step rfl rfl (K.pick rfl (fun h => by cases h) (fun _ => rfl)) ?_
      refine KT.step rfl rfl (K.move rfl) ?_
      refine KT.skip rfl rfl ?_
      refine KT.skip rfl rfl ?_
      refine KT.skip rfl rfl ?_
      refine KT.step rfl rfl (K.pick rfl (fun h => by cases h) (fun _ => rfl)) ?_
      refine KT.step rfl rfl (K.assign rfl) ?_
      refine KT.nil ?_
      refine thenK_n ?_
      refine KC.ret ?_
      exact ⟨.inl rfl, _, rfl, fin_b (by unfold guardB; rw [decide_eq_true hb8, decide_eq_false (show ¬ i ≤ (z.length : Int) - 1 by omega)]; rfl)⟩
  · skip
    replace hb8 := of_decide_eq_false hb8
    refine KT.skip rfl rfl ?_
    refine KT.skip rfl rfl ?_
    refine KT.skip rfl rfl ?_
    refine KT.skip rfl rfl ?_
    refine KT.skip rfl rfl ?_
    refine KT.step rfl rfl (K.pick rfl (fun h => by cases h) (fun _ => rfl)) ?_
    refine KT.step rfl rfl (K.move rfl) ?_
    refine KT.skip rfl rfl ?_
    refine KT.skip rfl rfl ?_
    refine KT.skip rfl rfl ?_
    refine KT.step rfl rfl (K.pick rfl (fun h => by cases h) (fun _ => rfl)) ?_
    refine KT.step rfl rfl (K.move rfl) ?_
    refine KT.skip rfl rfl ?_
    refine KT.skip rfl rfl ?_
    refine KT.skip rfl rfl ?_
    refine KT.skip rfl rfl ?_
    refine KT.skip rfl rfl ?_
    refine KT.step rfl rfl (K.pick rfl (fun h => by cases h) (fun _ => rfl)) ?_
    refine KT.step rfl rfl (K.move rfl) ?_
    refine KT.skip rfl rfl ?_
    refine KT.skip rfl rfl ?_
    refine KT.skip rfl rfl ?_
    refine KT.step rfl rfl (K.pick rfl (fun h => by cases h) (fun _ => rfl)) ?_
    refine KT.step rfl rfl (K.assign rfl) ?_
    refine KT.nil ?_
    refine thenK_n ?_
    refine KC.ret ?_
    exact ⟨.inl rfl, _, rfl, fin_b (by unfold guardB; rw [decide_eq_false hb8]; rfl)⟩
end Go.Proofs.Ytjfpeiioddfjcaa

