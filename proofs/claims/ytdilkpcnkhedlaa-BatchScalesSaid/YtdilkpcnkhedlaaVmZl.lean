import Derived.Test.YtdilkpcnkhedlaaVmKe
import Derived.Test.YtdilkpcnkhedlaaBaQ
/-
  APPENDS OF SLICES THAT ARE READ to own slices, exact or grown; a slice from somewhere on.
-/
namespace Go.Vm
open Go.RowKit Go.Ht

/-- A slice of one-cell elements, nil or not. -/
def SlC (d : DV) (cs : List DV) : Prop := (d = Dnil ∧ cs = []) ∨ ∃ cap, d = .sl cs cs.length cap
theorem slc_ints {d : DV} {l : List Int} (h : Ints d l) : SlC d (ints l) := by
  rcases litOf_vec h with ⟨rfl, rfl⟩ | ⟨cs, cap, rfl, hn, hr⟩
  · exact .inl ⟨rfl, rfl⟩
  · have e : cs = ints l := by
      apply List.ext_getElem
      · simp [ints, hn]
      · intro i h1 h2
        have := hr i cs[i] l[i] (List.getElem?_eq_getElem h1) (List.getElem?_eq_getElem (by omega))
        rw [this]; simp [ints]
    subst e
    refine .inr ⟨cap, ?_⟩
    simp [ints]
theorem ints_one (l : List Int) : ((ints l).map XV.d).all oneX = true := by
  rw [List.all_eq_true]
  intro x hx
  obtain ⟨d, hd, rfl⟩ := List.mem_map.1 hx
  obtain ⟨z, _, rfl⟩ := List.mem_map.1 hd
  rfl
section
variable {P : Program} {n : Nat} {ops : Array Oper} {l : List Oper} {σ : List VObj} {kn : Kn} {dst : Option Tmp} {ty : TypeId} {pos : String} {af : Array Edge} {g : Option (Nat × Bool)}
  {R : List Nat → List VObj → Kn → Prop}
theorem KT.appC {t e : TypeId} {x y : Operand} {id m : Nat} {ex : Bool} {cells : List XV} {d : DV} {cs : List DV} (hg : guardK ops kn ⟨dst, .call ⟨.builtin .append, #[x, y], #[t, t]⟩, ty, pos, af, g⟩ = some true) (hd : dstOk n dst = true)
    (hx : evK kn x = some (.osl id 0 m 1 m ex)) (hy : evK kn y = some (.d d)) (hid : σ[id]? = some ⟨cells, 0⟩) (hm : cells.length = m) (hsc : SlC d cs) (h1 : (cs.map XV.d).all oneX = true) (hlen : cells.length + cs.length ≤ 1000000)
    (ht : P.underlying t = some (.slice e)) (hs : sizeT P e = some 1) (hb : bytesT P e ≤ 65536) (hz : (zeroT P e).map (·.cells.size) = some 1)
    (h : ∀ σ' id', σ'[id']? = some ⟨cells ++ cs.map .d, 0⟩ → (∀ j, j ≠ id → j < σ.length → σ'[j]? = σ[j]?) → ((id' = id ∧ σ' = σ) ∨ σ.length ≤ id') → KT P n ops l σ' (extK dst (.osl id' 0 (m + cs.length) 1 (m + cs.length) (ex && cs.isEmpty)) kn) (fun fls τ k => R (2 :: fls) τ k)) :
    KT P n ops (⟨dst, .call ⟨.builtin .append, #[x, y], #[t, t]⟩, ty, pos, af, g⟩ :: l) σ kn R := by
  subst hm
  cases cs with
  | nil =>
    have hh := h σ id (by simpa using hid) (fun _ _ _ => rfl) (.inl ⟨rfl, rfl⟩)
    refine KT.step hg hd (x := .osl id 0 cells.length 1 cells.length ex) (σ' := σ) (fl := 2) (ev_op fun env he => ?_) (by simpa using hh)
    have e1 := evK_evalX he hx
    have e2 := evK_evalX he hy
    unfold evalOp
    rw [litOp_none (x := x) (by simp [Op.operands, Call.operands]) (by rw [e1]; rfl)]
    have hsrc : srcCells σ 1 (.d d) = some ([], 0, 0) := by
      rcases hsc with ⟨rfl, _⟩ | ⟨cap, rfl⟩
      · rfl
      · simp [srcCells]
    simp [e1, e2, opAppend, ht, hs, hsrc]
  | cons c cs =>
    obtain ⟨cap, rfl⟩ : ∃ cap, d = .sl (c :: cs) (c :: cs).length cap := by
      rcases hsc with ⟨_, h⟩ | h
      · cases h
      · exact h
    have hsrc : srcCells σ 1 (.d (.sl (c :: cs) (c :: cs).length cap)) = some ((c :: cs).map .d, (c :: cs).length, 0) := by
      unfold srcCells
      simp only
      rw [if_pos (by omega), List.take_of_length_le (by omega)]
    have hq0 : ¬ (c :: cs).length = 0 := by simp
    have hq : 0 < (c :: cs).length := by simp
    have hemp : (ex && (c :: cs).isEmpty) = false := by simp
    rw [hemp] at h
    generalize hN : (c :: cs).length = q at *
    have hvl : ((c :: cs).map XV.d).length = q := by rw [List.length_map]; exact hN
    generalize (c :: cs).map XV.d = vs at *
    have h3 : cells.length + q ≤ 1073741824 := by omega
    have h4 : ¬ cells.length + q ≤ cells.length := by omega
    cases ex with
    | true =>
      refine KT.step hg hd (x := .osl σ.length 0 (cells.length + q) 1 (cells.length + q) false) (σ' := σ ++ [⟨cells ++ vs, 0⟩]) (fl := 2) (ev_op fun env he => ?_)
        (h _ _ (by simp) (fun j _ hlt => List.getElem?_append_left hlt) (.inr (Nat.le_refl _)))
      have e1 := evK_evalX he hx
      have e2 := evK_evalX he hy
      unfold evalOp
      rw [litOp_none (x := x) (by simp [Op.operands, Call.operands]) (by rw [e1]; rfl)]
      simp only [e1, e2, opAppend, ht, hs, hsrc, h1, if_true, hid]
      simp [growTo, hb, hz, hq0, h3, h4]
    | false =>
      refine KT.step hg hd (x := .osl σ.length 0 (cells.length + q) 1 (cells.length + q) false) (σ' := (σ.set id ⟨cells, 2⟩) ++ [⟨cells ++ vs, 0⟩]) (fl := 2) (ev_op fun env he => ?_)
        (h _ _ (by rw [List.getElem?_append_right (by simp)]; simp) (fun j hj hlt => by
          rw [List.getElem?_append_left (by simpa using hlt), List.getElem?_set_ne (fun e => hj e.symm)]) (.inr (Nat.le_refl _)))
      have e1 := evK_evalX he hx
      have e2 := evK_evalX he hy
      unfold evalOp
      rw [litOp_none (x := x) (by simp [Op.operands, Call.operands]) (by rw [e1]; rfl)]
      simp only [e1, e2, opAppend, ht, hs, hsrc, h1, if_true, hid]
      simp [hb, hz, hq0, h3, h4]
/-- s[m:] of whole numbers. -/
theorem KT.fromI {x h' : Operand} {t e : TypeId} {d : DV} {ks : List Int} {m : Nat} (hg : guardK ops kn ⟨dst, .slice t x (some h') none none, ty, pos, af, g⟩ = some true) (hd' : dstOk n dst = true)
    (hx : evK kn x = some (.d d)) (hd : Ints d ks) (hh : evK kn h' = some (.d (DI (m : Nat)))) (hm : m ≤ ks.length) (hne : ks ≠ []) (ht : P.underlying t = some (.slice e)) (hs : sizeT P e = some 1)
    (hk : ∀ r, Ints r (ks.drop m) → KT P n ops l σ (extK dst (.d r) kn) (fun fls τ k => R (0 :: fls) τ k)) : KT P n ops (⟨dst, .slice t x (some h') none none, ty, pos, af, g⟩ :: l) σ kn R := by
  rcases slc_ints hd with ⟨_, h2⟩ | ⟨cap, rfl⟩
  · exact absurd (by simpa [ints] using h2) hne
  · have hl : (ints ks).length = ks.length := by simp [ints]
    refine KT.step hg hd' (x := .d (.sl (ints (ks.drop m)) (ks.drop m).length (cap.map (· - m)))) (σ' := σ) (fl := 0) (ev_op fun env he => ?_) (hk _ ints_ok)
    have e1 := evK_evalX he hx
    have e2 := evK_evalX he hh
    unfold evalOp
    rw [litOp_none (x := x) (by simp [Op.operands]) (by rw [e1]; rfl)]
    have e3 : ((ints ks).drop m).take (ks.length - m) = ints (ks.drop m) := by
      rw [List.take_of_length_le (by simp [ints])]; simp [ints]
    rw [hl] at e1
    simp [e1, e2, opSlice, ht, hs, boundOf, litOf, DI, hl, hm, e3]
end
end Go.Vm

