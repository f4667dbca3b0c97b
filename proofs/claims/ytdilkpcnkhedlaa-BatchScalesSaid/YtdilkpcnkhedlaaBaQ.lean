import Derived.Test.YtdilkpcnkhedlaaBaO
import Derived.Test.YtdilkpcnkhedlaaVmKe
/-
  Batch: append of a slice of pairs that is read; rows of pairs that are told as values.
-/
namespace Go.Vm
open Go.RowKit Go.Ba Go.Ht
section
variable {P : Program} {n : Nat} {ops : Array Oper} {l : List Oper} {σ : List VObj} {kn : Kn} {dst : Option Tmp} {ty : TypeId} {pos : String} {af : Array Edge} {g : Option (Nat × Bool)}
  {R : List Nat → List VObj → Kn → Prop}
theorem flat_one (ks : List (Int × Int)) : ((ks.flatMap c2).map XV.d).all oneX = true := by
  rw [List.all_eq_true]
  intro x hx
  obtain ⟨d, hd, rfl⟩ := List.mem_map.1 hx
  obtain ⟨o, _, ho⟩ := List.mem_flatMap.1 hd
  simp only [c2, List.mem_cons, List.not_mem_nil, or_false] at ho
  rcases ho with rfl | rfl <;> rfl
theorem KT.appFl {t e : TypeId} {x y : Operand} {sx : XV} {cells : List XV} {d : DV} {ks : List (Int × Int)} (hg : guardK ops kn ⟨dst, .call ⟨.builtin .append, #[x, y], #[t, t]⟩, ty, pos, af, g⟩ = some true) (hd : dstOk n dst = true)
    (hx : evK kn x = some sx) (hy : evK kn y = some (.d d)) (hp : PrD d ks) (hown : OwnK 2 σ sx cells) (hq : 0 < ks.length) (hq2 : ks.length ≤ 1000) (hlen : cells.length < 1073740000)
    (ht : P.underlying t = some (.slice e)) (hs : sizeT P e = some 2) (hb : bytesT P e ≤ 65536) (hz : (zeroT P e).map (·.cells.size) = some 2)
    (h : ∀ σ' x', OwnK 2 σ' x' (cells ++ (ks.flatMap c2).map .d) → (∀ j, idX sx ≠ some j → j < σ.length → σ'[j]? = σ[j]?) → (∃ j, idX x' = some j ∧ σ.length ≤ j) → KT P n ops l σ' (extK dst x' kn) (fun fls τ k => R (2 :: fls) τ k)) :
    KT P n ops (⟨dst, .call ⟨.builtin .append, #[x, y], #[t, t]⟩, ty, pos, af, g⟩ :: l) σ kn R := by
  cases hp with
  | nil => simp at hq
  | @sl _ cap =>
  have hl : (ks.flatMap c2).length = ks.length * 2 := flat_len c2_len ks
  have h1v := flat_one ks
  have hsrc : srcCells σ 2 (.d (.sl (ks.flatMap c2) ks.length cap)) = some ((ks.flatMap c2).map .d, ks.length, 0) := by
    unfold srcCells
    simp only
    rw [if_pos (by omega), List.take_of_length_le (by omega)]
  have hq0 : ¬ ks.length = 0 := by omega
  have hvl : ((ks.flatMap c2).map XV.d).length = ks.length * 2 := by rw [List.length_map]; exact hl
  generalize (ks.flatMap c2).map XV.d = vs at hsrc h1v hvl h
  cases hown with
  | nil =>
    refine KT.step hg hd (x := .osl σ.length 0 ks.length 2 ks.length false) (σ' := σ ++ [⟨vs, 0⟩]) (fl := 2) (ev_op fun env he => ?_) (h _ _ (.sl (by simp) hvl) (fun j _ hj => by rw [List.getElem?_append_left hj]) ⟨_, rfl, Nat.le_refl _⟩)
    have e1 := evK_evalX he hx
    have e2 := evK_evalX he hy
    unfold evalOp
    rw [litOp_none (x := y) (by simp [Op.operands, Call.operands]) (by rw [e2]; rfl)]
    have hq3 : ks.length ≤ 1073741824 := by omega
    simp only [e1, e2, opAppend, ht, hs, hsrc, h1v, if_true]
    simp [growTo, hb, hz, hq0, hq3]
  | @sl oid m cells ho hn =>
    have hm : m < 1073740000 := by omega
    refine KT.step hg hd (x := .osl σ.length 0 (m + ks.length) 2 (m + ks.length) false) (σ' := (σ.set oid ⟨cells, 2⟩) ++ [⟨cells ++ vs, 0⟩]) (fl := 2) (ev_op fun env he => ?_)
      (h _ _ (.sl (by rw [List.getElem?_append_right (by simp)]; simp) (by simp [hn, hvl, Nat.add_mul])) (fun j hj hlt => by
        rw [List.getElem?_append_left (by simpa using hlt), List.getElem?_set]
        rw [if_neg (fun e => hj (by rw [e]; rfl))]) ⟨_, rfl, Nat.le_refl _⟩)
    have e1 := evK_evalX he hx
    have e2 := evK_evalX he hy
    unfold evalOp
    rw [litOp_none (x := x) (by simp [Op.operands, Call.operands]) (by rw [e1]; rfl)]
    have h3 : m + ks.length ≤ 1073741824 := by omega
    have h4 : ¬ m + ks.length ≤ m := by omega
    simp only [e1, e2, opAppend, ht, hs, hsrc, h1v, if_true]
    simp [ho, hb, hz, h3, h4, hn, hq0]
theorem KT.takeP {x h : Operand} {t e : TypeId} {ks : List (Int × Int)} {d : DV} {m : Nat} (hg : guardK ops kn ⟨dst, .slice t x none (some h) none, ty, pos, af, g⟩ = some true) (hd' : dstOk n dst = true)
    (hx : evK kn x = some (.d d)) (hd : PrD d ks) (hh : evK kn h = some (.d (DI (m : Nat)))) (hm : m < ks.length) (ht : P.underlying t = some (.slice e)) (hs : sizeT P e = some 2)
    (hk : ∀ r, PrD r (ks.take m) → KT P n ops l σ (extK dst (.d r) kn) (fun fls τ k => R (0 :: fls) τ k)) : KT P n ops (⟨dst, .slice t x none (some h) none, ty, pos, af, g⟩ :: l) σ kn R := by
  cases hd with
  | nil => simp at hm
  | @sl _ cap =>
    have hl : (ks.flatMap c2).length = ks.length * 2 := flat_len c2_len ks
    have hfl : (ks.flatMap c2).take (m * 2) = (ks.take m).flatMap c2 := by
      have e1 : ks.flatMap c2 = (ks.take m).flatMap c2 ++ (ks.drop m).flatMap c2 := by rw [← List.flatMap_append, List.take_append_drop]
      rw [e1, List.take_append_of_le_length (by rw [flat_len c2_len, List.length_take]; omega), List.take_of_length_le (by rw [flat_len c2_len, List.length_take]; omega)]
    refine KT.step hg hd' (x := .d (.sl ((ks.take m).flatMap c2) (ks.take m).length (cap.map (· - 0)))) (σ' := σ) (fl := 0) (ev_op fun env he => ?_) (hk _ .sl)
    have e1 := evK_evalX he hx
    have e2 := evK_evalX he hh
    unfold evalOp
    rw [litOp_none (x := x) (by simp [Op.operands]) (by rw [e1]; rfl)]
    have h1 : m * 2 ≤ (ks.flatMap c2).length := by omega
    have h2 : (ks.take m).length = m := by rw [List.length_take]; omega
    generalize (ks.flatMap c2) = cs at h1 hfl e1
    rw [← hfl, h2]
    simp [e1, e2, opSlice, ht, hs, boundOf, litOf, DI, h1, show m ≤ ks.length by omega]
end
/-- A row of variables of k cells that has been appended is told as a value. -/
theorem KC.tellK {P : Program} {M : Nat → Prop} {W0 : World} {n : Nat} {σ : List VObj} {kn : Kn} {c : Code} {T : Exit → List VObj → Kn → Prop} {x : XV} {cells : List XV} {r L w : Nat} {ex : Bool} {ds : List DV}
    (ho : OwnK 1 σ x (cells ++ [.osl r 0 L w L ex])) (hr : σ[r]? = some ⟨ds.map .d, 0⟩) (hl : ds.length = L * w) (hne : idX x ≠ some r)
    (h : ∀ σ2, OwnK 1 σ2 x (cells ++ [.d (.sl ds L (if ex then some L else none))]) → σ2.length = σ.length → (∀ j, j ≠ r → idX x ≠ some j → σ2[j]? = σ[j]?) → KC P M W0 n c σ2 kn T) : KC P M W0 n c σ kn T := by
  generalize hc : cells ++ [.osl r 0 L w L ex] = l at ho
  cases ho with
  | nil => simp at hc
  | @sl id m _ ho hn =>
    subst hc
    have hid : id ≠ r := fun e => hne (by rw [← e]; rfl)
    have e1 : (freezeIds σ [r])[id]? = some ⟨cells ++ [.osl r 0 L w L ex], 0⟩ := by rw [freezeIds_not (by simpa using hid)]; exact ho
    have e2 : (freezeIds σ [r])[r]? = some ⟨ds.map .d, 1⟩ := freezeIds_in (by simp) hr
    have hdd : deepen (freezeIds σ [r]) 5 (.osl r 0 L w L ex) = some (.sl ds L (if ex then some L else none)) := by
      rw [deepen_osl e2 rfl (by rw [List.length_map]; omega), List.drop_zero, List.take_of_length_le (by rw [List.length_map]; omega), mapM_deep]; rfl
    refine KC.ghostC [r] 5 (id := id) (i := cells.length) (ob := ⟨cells ++ [.osl r 0 L w L ex], 0⟩) (x := .osl r 0 L w L ex) (d := .sl ds L (if ex then some L else none)) e1 (by simp) (by simp) hdd (h _ ?_ (by simp [freezeIds]) fun j h1 h2 => ?_)
    · have hlt := (List.getElem?_eq_some_iff.1 e1).1
      have e3 : (cells ++ [XV.osl r 0 L w L ex]).set cells.length (XV.d (.sl ds L (if ex then some L else none))) = cells ++ [XV.d (.sl ds L (if ex then some L else none))] := by simp
      rw [e3]
      exact .sl (List.getElem?_set_self hlt) (by simpa using hn)
    · rw [List.getElem?_set_ne (fun e => h2 (by rw [← e]; rfl)), freezeIds_not (by simpa using h1)]
theorem KC.tellP {P : Program} {M : Nat → Prop} {W0 : World} {n : Nat} {σ : List VObj} {kn : Kn} {c : Code} {T : Exit → List VObj → Kn → Prop} {x y : XV} {cells : List XV} {l : List (Int × Int)}
    (ho : OwnK 1 σ x (cells ++ [y])) (hy : OwnK 2 σ y ((l.flatMap c2).map .d)) (hn : l = [] → y = .d Dnil) (hne : ∀ r, idX y = some r → idX x ≠ some r)
    (h : ∀ σ2, OwnK 1 σ2 x (cells ++ [.d (flV c2 l)]) → σ2.length = σ.length → (∀ j, idX y ≠ some j → idX x ≠ some j → σ2[j]? = σ[j]?) → KC P M W0 n c σ2 kn T) : KC P M W0 n c σ kn T := by
  cases l with
  | nil =>
    rw [hn rfl] at ho
    exact h σ ho rfl fun _ _ _ => rfl
  | cons a l =>
    generalize hc : ((a :: l).flatMap c2).map XV.d = cs at hy
    have hcl := congrArg List.length hc
    rw [List.length_map, flat_len c2_len] at hcl
    cases hy with
    | nil => simp at hcl
    | @sl id m cs h1 h2 =>
      subst hc
      have hm : m = (a :: l).length := by
        rw [List.length_map, flat_len c2_len] at h2
        exact (Nat.mul_right_cancel (show 0 < 2 by decide) h2).symm
      subst hm
      exact KC.tellK ho h1 (flat_len c2_len _) (hne id rfl) fun σ2 q1 q2 q3 => h σ2 q1 q2 fun j j1 j2 => q3 j (fun e => j1 (by rw [e]; rfl)) j2
end Go.Vm

