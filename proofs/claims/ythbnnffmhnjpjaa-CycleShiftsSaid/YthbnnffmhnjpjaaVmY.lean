import Derived.Test.YthbnnffmhnjpjaaBigB
/-
  VALUES WITHOUT ADDRESSES, 25: the end of a slice; own slices that are only read from here on; stores told by what is there afterwards; sequences of results.
-/
namespace Go.Vm
open Go.RowKit

section
variable {P : Program} {M : Nat → Prop} {W0 : World} {n : Nat} {ops : Array Oper} {l : List Oper} {σ : List VObj} {kn : Kn} {dst : Option Tmp} {ty : TypeId} {pos : String} {af : Array Edge} {g : Option (Nat × Bool)} {R : List Nat → List VObj → Kn → Prop}

/-- From here on some objects are only read: what stands for a part of them is a deep value. -/
theorem KC.ghost {c : Code} {T : Exit → List VObj → Kn → Prop} (ids : List Nat) (m : Nat) {t : Nat} {x : XV} {d : DV} (hl : look kn t = some x) (hd : deepen (freezeIds σ ids) m x = some d)
    (h : KC P M W0 n c (freezeIds σ ids) (extK (some t) (.d d) kn) T) : KC P M W0 n c σ kn T := by
  intro env he ι a w hF Q hQ
  obtain ⟨f1, f2⟩ := freezeIds_tamed hF.mem ids
  refine h (putE env (some t) (.d d)) (he.ext (some t) (.d d)) ι a w ⟨f1, fun s => ?_, hF.size, hF.defers⟩ Q fun e ι' s' a' w' hT hFr hE => hQ e ι' s' a' w' hT hFr (f2.trans hE)
  have hs := (hF.env s).ext f2
  simp only [putE, upd]
  split
  · rename_i e
    subst e
    have he' : env s = x := he s x hl
    simp only [he'] at hs
    exact .d (deepen_sound f1 m _ x d hs hd)
  · exact hs

def dropV (m : Nat) (d : DV) : DV :=
  match d with
  | .sl cs len cap => .sl ((cs.drop m).take (len - m)) (len - m) (cap.map (· - m))
  | x => x
theorem dropV_vec {α : Type} {Q : DV → α → Prop} {d : DV} {xs : List α} (h : Vec Q d xs) {m : Nat} (hm : m ≤ xs.length) : Vec Q (dropV m d) (xs.drop m) := by
  cases h with
  | nil => simp; exact .nil
  | @sl cs _ cap hn h =>
    have hlen : (xs.drop m).length = xs.length - m := by simp
    have e : (cs.drop m).take (xs.length - m) = cs.drop m := List.take_of_length_le (by simp; omega)
    have : Vec Q (.sl ((cs.drop m).take (xs.length - m)) (xs.drop m).length (cap.map (· - m))) (xs.drop m) := .sl (by rw [e]; simp [hn]) fun i c x hc hx => by
      rw [e, List.getElem?_drop] at hc
      rw [List.getElem?_drop] at hx
      exact h _ c x hc hx
    rw [hlen] at this
    exact this
theorem K.dropV {α : Type} {Q : DV → α → Prop} {x h : Operand} {t e : TypeId} {d : DV} {xs : List α} {m : Nat} (hx : evK kn x = some (.d d)) (hv : Vec Q d xs) (hh : evK kn h = some (.d (DI (m : Int)))) (hm : m ≤ xs.length) (h0 : 0 < xs.length)
    (ht : P.underlying t = some (.slice e)) (hs : sizeT P e = some 1) : KEv P ⟨dst, .slice t x (some h) none none, ty, pos, af, g⟩ σ kn (.d (dropV m d)) σ 0 := by
  cases hv with
  | nil => simp at h0
  | @sl cs _ cap hn hq =>
    refine ev_op fun env he => ?_
    have e1 := evK_evalX he hx
    have e2 := evK_evalX he hh
    unfold evalOp
    rw [litOp_none (x := x) (by simp [Op.operands]) (by rw [e1]; rfl)]
    have h3 : xs.length ≤ cs.length := by omega
    simp [e1, e2, opSlice, litOf, ht, hs, boundOf, hm, h3, Go.Vm.dropV]

/-- A store of so many cells, told by what is there afterwards. -/
theorem KT.storeH {x y : Operand} {t : TypeId} {id off : Nat} {cells : List XV} {v : XV} {cs : List XV} (hg : guardK ops kn ⟨dst, .store t x y, ty, pos, af, g⟩ = some true) (hd : dstOk n dst = true) (hx : evK kn x = some (.optr id off)) (hy : evK kn y = some v)
    (ho : σ[id]? = some ⟨cells, 0⟩) (hc : cellsX v = cs) (hof : off + cs.length ≤ cells.length) (h1 : cs.all oneX = true) (hs : sizeT P t = some cs.length)
    (h : ∀ σ', σ'.length = σ.length → σ'[id]? = some ⟨splice cells off cs, 0⟩ → (∀ j, j ≠ id → σ'[j]? = σ[j]?) → KT P n ops l σ' (extK dst undefX kn) (fun fls τ k => R (2 :: fls) τ k)) :
    KT P n ops (⟨dst, .store t x y, ty, pos, af, g⟩ :: l) σ kn R := by
  subst hc
  refine KT.step hg hd (K.storeN hx hy ho hof h1 hs) (h _ (by simp) ?_ fun j hj => ?_)
  · rw [List.getElem?_set, if_pos rfl, if_pos (List.getElem?_eq_some_iff.1 ho).1]
  · rw [List.getElem?_set, if_neg (fun e => hj e.symm)]
end

/-- A sequence of results, each of which comes of the one before. -/
theorem seq_ex {S : Nat → DV → DV → Prop} {I : Nat → DV → Prop} (L : Nat) (d0 : DV) (h0 : I 0 d0) (hs : ∀ q d, q < L → I q d → ∃ d', S q d d' ∧ I (q + 1) d') :
    ∃ f : Nat → DV, f 0 = d0 ∧ (∀ q, q < L → S q (f q) (f (q + 1))) ∧ ∀ q, q ≤ L → I q (f q) := by
  have key : ∀ k, k ≤ L → ∃ f : Nat → DV, f 0 = d0 ∧ (∀ q, q < k → S q (f q) (f (q + 1))) ∧ ∀ q, q ≤ k → I q (f q) := by
    intro k
    induction k with
    | zero =>
      intro _
      refine ⟨fun _ => d0, rfl, fun q h => by omega, fun q h => ?_⟩
      obtain rfl : q = 0 := by omega
      exact h0
    | succ k ih =>
      intro hk
      obtain ⟨f, f0, f1, f2⟩ := ih (by omega)
      obtain ⟨d', s1, s2⟩ := hs k (f k) (by omega) (f2 k (Nat.le_refl _))
      refine ⟨fun q => if q ≤ k then f q else d', by simp [f0], fun q hq => ?_, fun q hq => ?_⟩
      · by_cases e : q = k
        · subst e
          simp only [Nat.le_refl, if_true, show ¬ q + 1 ≤ q by omega, if_false]
          exact s1
        · simp only [show q ≤ k by omega, show q + 1 ≤ k by omega, if_true]; exact f1 q (by omega)
      · by_cases e : q ≤ k
        · simp only [e, if_true]; exact f2 q e
        · obtain rfl : q = k + 1 := by omega
          simp only [e, if_false]; exact s2
  exact key L (Nat.le_refl _)
end Go.Vm

