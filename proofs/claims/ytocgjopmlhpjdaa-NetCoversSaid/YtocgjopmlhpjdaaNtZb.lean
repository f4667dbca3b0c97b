import Derived.Test.YtocgjopmlhpjdaaNtZa
import Derived.Test.YtocgjopmlhpjdaaVmKi
/-
  Nets: rules for the way of the coverability tree; the tree as a function.
-/
namespace Go.Proofs.Ytocgjopmlhpjdaa
open Go.Vm Go.RowKit Go.Nt
theorem Stk.is {σ : List VObj} {x : XV} {way : List (List Int)} (h : Stk σ x way) (hne : way ≠ []) : ∃ id lo rest, x = .osl id 0 way.length 6 lo false ∧ σ[id]? = some ⟨(flatW way).map .d ++ rest, 0⟩ ∧ way.length * 6 + rest.length = lo * 6 := by
  cases h with
  | nil => exact absurd rfl hne
  | sl h hl => exact ⟨_, _, _, rfl, h, hl⟩
theorem Stk.cells {σ : List VObj} {x : XV} {way : List (List Int)} (h : Stk σ x way) : cellsX x = [x] ∧ oneX x = true := by cases h <;> exact ⟨rfl, rfl⟩
theorem flatW_snoc1 (way : List (List Int)) (m : List Int) : (flatW (way ++ [m])).map XV.d = (flatW way).map .d ++ (w6 (tk m)).map .d := by unfold flatW; rw [List.flatMap_append, List.map_append]; simp
section
variable {σ : List VObj} {kn : Kn} {dst : Option Tmp} {ty : TypeId} {pos : String} {af : Array Edge} {g : Option (Nat × Bool)}
theorem K.appStk {x y : Operand} {sx : XV} {way : List (List Int)} {m : List Int} {id : Nat} (hx : evK kn x = some sx) (hy : evK kn y = some (.osl id 0 1 6 1 true)) (hs : Stk σ sx way) (hid : σ[id]? = some ⟨(w6 (tk m)).map .d, 0⟩) (hne : idX sx ≠ some id) (hl : way.length ≤ 100000) :
    ∃ σ' x', KEv Try.prog ⟨dst, .call ⟨.builtin .append, #[x, y], #[62, 62]⟩, ty, pos, af, g⟩ σ kn x' σ' 2 ∧ Stk σ' x' (way ++ [m]) ∧ (∀ j, idX sx ≠ some j → j < σ.length → σ'[j]? = σ[j]?) ∧ (idX x' = idX sx ∨ ∃ j, idX x' = some j ∧ σ.length ≤ j) ∧ σ.length ≤ σ'.length := by
  have key : OwnK 6 σ sx ((flatW way).map .d) → ∃ σ' x', KEv Try.prog ⟨dst, .call ⟨.builtin .append, #[x, y], #[62, 62]⟩, ty, pos, af, g⟩ σ kn x' σ' 2 ∧ Stk σ' x' (way ++ [m]) ∧ (∀ j, idX sx ≠ some j → j < σ.length → σ'[j]? = σ[j]?) ∧ (idX x' = idX sx ∨ ∃ j, idX x' = some j ∧ σ.length ≤ j) ∧ σ.length ≤ σ'.length := fun ho => by
    obtain ⟨σ', x', a1, a2, a3, j, a4, a5⟩ := K.appE (P := Try.prog) (dst := dst) (ty := ty) (pos := pos) (af := af) (g := g) hx hy ho hid (by simp [w6]) (w6_one _) (by rw [List.length_map, flatW_len]; omega) Try.underlying62 Try.size64 bytes64 cells64 (by decide)
    have hlt := a2.lt a4
    refine ⟨σ', x', a1, ?_, a3, .inr ⟨j, a4, a5⟩, by omega⟩
    rw [← flatW_snoc1] at a2
    obtain ⟨i2, rfl, h2⟩ := own_done a2 (by rw [flatW_len]; simp)
    have := Stk.sl (σ := σ') (id := i2) (lo := (way ++ [m]).length) (rest := []) (way := way ++ [m]) (by rw [List.append_nil]; exact h2) (by simp)
    exact this
  cases hs with
  | nil => exact key .nil
  | @sl wid lo rest _ h hlo =>
    by_cases hr : rest.length = 0
    · obtain rfl : rest = [] := List.length_eq_zero_iff.1 hr
      obtain rfl : lo = way.length := by simp at hlo; omega
      exact key (.sl (by rw [List.append_nil] at h; exact h) (by rw [List.length_map, flatW_len]))
    · have h1 : way.length + 1 ≤ lo := by omega
      obtain ⟨vs, hvs⟩ : ∃ vs, vs = (w6 (tk m)).map XV.d := ⟨_, rfl⟩
      have hv6 : vs.length = 6 := by rw [hvs]; simp [w6]
      have hv1 : vs.all oneX = true := by rw [hvs]; exact w6_one _
      rw [← hvs] at hid
      have hsrc : srcCells σ 6 (.osl id 0 1 6 1 true) = some (vs, 1, 1) := by
        simp [srcCells, hid, hv6]
        rw [List.take_of_length_le (by omega)]
      have hlen : ((flatW way).map XV.d ++ rest).length = lo * 6 := by rw [List.length_append, List.length_map, flatW_len]; exact hlo
      refine ⟨σ.set wid ⟨splice ((flatW way).map .d ++ rest) (0 + way.length * 6) ((w6 (tk m)).map .d), 0⟩, .osl wid 0 (way.length + 1) 6 lo false, ev_op fun env he => ?_, ?_, fun j hj hlt => ?_, .inl rfl, by simp⟩
      · have e1 := evK_evalX he hx
        have e2 := evK_evalX he hy
        unfold evalOp
        rw [litOp_none (x := x) (by simp [Op.operands, Call.operands]) (by rw [e1]; rfl)]
        have h3 : 0 + (way.length + 1) * 6 ≤ ((flatW way).map XV.d ++ rest).length := by rw [hlen]; omega
        rw [hlen] at h3
        have h5 : way.length * 6 + 6 ≤ (flatW way).length + rest.length := by rw [flatW_len]; omega
        simp [e1, e2, opAppend, Try.underlying62, Try.size64, hsrc, hv1, h, h1, hvs]
        rw [if_pos (fun z hz => by have := w6_one (tk m); rw [List.all_map, List.all_eq_true] at this; exact this z hz), if_pos (by rw [flatW_len]; omega)]
      · have hl2 := obj_lt h
        have := Stk.sl (σ := σ.set wid ⟨splice ((flatW way).map .d ++ rest) (0 + way.length * 6) ((w6 (tk m)).map .d), 0⟩) (id := wid) (lo := lo) (rest := rest.drop 6) (way := way ++ [m]) (by
          rw [List.getElem?_set, if_pos rfl, if_pos hl2, flatW_snoc1]
          congr 2
          unfold splice
          rw [Nat.zero_add, List.take_left' (by rw [List.length_map, flatW_len]), ← List.drop_drop, List.drop_left' (by rw [List.length_map, flatW_len]), List.append_assoc]
          simp [w6]) (by rw [List.length_drop, List.length_append]; simp; omega)
        rw [List.length_append] at this
        exact this
      · rw [List.getElem?_set, if_neg (fun e => hj (by subst e; rfl))]
theorem KTZ.appStk {n : Nat} {ops : Array Oper} {Z : Nat → Prop} {l : List Oper} {R : List Nat → List Nat → List VObj → Kn → Prop} {x y : Operand} {sx : XV} {way : List (List Int)} {m : List Int} {id : Nat} (hg : guardK ops kn ⟨dst, .call ⟨.builtin .append, #[x, y], #[62, 62]⟩, ty, pos, af, g⟩ = some true) (hd : dstOk n dst = true) (hz : ∀ j, idX sx = some j → Z j)
    (hx : evK kn x = some sx) (hy : evK kn y = some (.osl id 0 1 6 1 true)) (hs : Stk σ sx way) (hid : σ[id]? = some ⟨(w6 (tk m)).map .d, 0⟩) (hne : idX sx ≠ some id) (hl : way.length ≤ 100000)
    (h : ∀ σ' x', Stk σ' x' (way ++ [m]) → (∀ j, idX sx ≠ some j → j < σ.length → σ'[j]? = σ[j]?) → (idX x' = idX sx ∨ ∃ j, idX x' = some j ∧ σ.length ≤ j) → σ.length ≤ σ'.length → KTZ Try.prog n ops Z l σ' (extK dst x' kn) (fun fls gs τ k => R (2 :: fls) (2 :: gs) τ k)) :
    KTZ Try.prog n ops Z (⟨dst, .call ⟨.builtin .append, #[x, y], #[62, 62]⟩, ty, pos, af, g⟩ :: l) σ kn R := by
  obtain ⟨σ', x', a1, a2, a3, a4, a5⟩ := K.appStk (dst := dst) (ty := ty) (pos := pos) (af := af) (g := g) hx hy hs hid hne hl
  refine KTZ.write hg hd (fun i ob hi ho => ?_) a1 (h σ' x' a2 a3 a4 a5)
  have hlt : i < σ.length := obj_lt ho
  exact ⟨ob, (a3 i (fun e => hi (hz i e)) hlt).trans ho, rfl, Iff.rfl⟩
theorem K.popStk {x h : Operand} {id len lo m : Nat} (hx : evK kn x = some (.osl id 0 len 6 lo false)) (hh : evK kn h = some (.d (DI (m : Int)))) (hm : m ≤ lo) :
    KEv Try.prog ⟨dst, .slice 62 x none (some h) none, ty, pos, af, g⟩ σ kn (.osl id 0 m 6 lo false) σ 0 := ev_op fun env he => by
  have e1 := evK_evalX he hx
  have e2 := evK_evalX he hh
  unfold evalOp
  rw [litOp_none (x := x) (by simp [Op.operands]) (by rw [e1]; rfl)]
  simp [e1, e2, opSlice, Try.underlying62, Try.size64, boundOf, litOf, hm]
end
/-- The tree below a node, its nodes in order; none if there are more than 2000. -/
def growP (nx : List Int → Nat → Option (List Int)) (T : Nat) : Nat → List (List Int) → List (List Int) → List Int → Option (List (List Int))
  | 0, _, _, _ => none
  | f + 1, way, nodes, m => if nodes.length = 2000 then none else if way.any (eqQ m) then some (nodes ++ [m]) else
      (enL nx m T).foldlM (fun ns p => growP nx T f (way ++ [m]) ns (raiseL (way ++ [m]) p.2)) (nodes ++ [m])
/-- The tree in memory. -/
structure TreM (n : Nat) (pre post : List (List Int)) (s : List Int) (cid : Nat) (σ : List VObj) (xn xw : XV) (nodes way : List (List Int)) : Prop where
  c : σ[cid]? = some ⟨treeC n pre post s xn xw, 0⟩
  on : OwnK 6 σ xn ((flatW nodes).map .d)
  nn : nodes = [] → xn = .d Dnil
  ow : Stk σ xw way
  ap : ∀ j, idX xn = some j → idX xw ≠ some j
  cn : idX xn ≠ some cid
  cw : idX xw ≠ some cid
/-- It does not lie in the tree. -/
def OffT (cid : Nat) (xn xw : XV) (e : Nat) : Prop := e ≠ cid ∧ idX xn ≠ some e ∧ idX xw ≠ some e
theorem TreM.keep {n : Nat} {pre post : List (List Int)} {s : List Int} {cid : Nat} {σ σ' : List VObj} {xn xw : XV} {nodes way : List (List Int)} (h : TreM n pre post s cid σ xn xw nodes way) (hk : ∀ j, j < σ.length → σ'[j]? = σ[j]?) : TreM n pre post s cid σ' xn xw nodes way :=
  ⟨(hk _ (obj_lt h.c)).trans h.c, h.on.keep fun j hj => hk j (h.on.lt hj), h.nn, h.ow.keep fun j hj => hk j (h.ow.lt hj), h.ap, h.cn, h.cw⟩
theorem TreM.off_new {n : Nat} {pre post : List (List Int)} {s : List Int} {cid : Nat} {σ : List VObj} {xn xw : XV} {nodes way : List (List Int)} (h : TreM n pre post s cid σ xn xw nodes way) {e : Nat} (he : σ.length ≤ e) : OffT cid xn xw e :=
  ⟨fun h2 => by have := obj_lt h.c; omega, fun h2 => by have := h.on.lt h2; omega, fun h2 => by have := h.ow.lt h2; omega⟩
/-- What grow does. -/
def GrowQ (n : Nat) (pre post : List (List Int)) (s : List Int) (cid : Nat) (f : Nat) (xn xw : XV) (nodes way : List (List Int)) (m : List Int) (σ σ' : List VObj) (x : XV) : Prop :=
  σ.length ≤ σ'.length ∧ (∀ e, e < σ.length → OffT cid xn xw e → σ'[e]? = σ[e]?) ∧
  match growP (nxN pre post) pre.length f way nodes m with
  | none => x = .d (DB false)
  | some nodes' => x = .d (DB true) ∧ ∃ xn' xw', TreM n pre post s cid σ' xn' xw' nodes' way ∧ nodes.length < nodes'.length ∧ nodes'.length ≤ 2000 ∧ ∀ e, e < σ.length → OffT cid xn xw e → OffT cid xn' xw' e
/-- Numbers in the tree: without bound, or at most so many. -/
def BdT (d : Nat) (m : List Int) : Prop := ∀ x ∈ m, x = 1099511627776 ∨ (0 ≤ x ∧ x ≤ 5 + 3 * (d : Int))
theorem bdT_bnd {d : Nat} {m : List Int} (h : BdT d m) (hd : d ≤ 100000) : Bnd m := fun x hx => by rcases h x hx with h | h <;> omega
theorem bdT_tk {d : Nat} {m : List Int} (h : BdT d m) (p : Nat) : tk m p = 1099511627776 ∨ (0 ≤ tk m p ∧ tk m p ≤ 5 + 3 * (d : Int)) := by
  by_cases hp : p < m.length
  · rw [tk_get hp]; exact h _ (List.getElem_mem hp)
  · rw [tk_zero (by omega)]; omega
theorem bdT_of {d : Nat} {m : List Int} (h : ∀ p, p < m.length → tk m p = 1099511627776 ∨ (0 ≤ tk m p ∧ tk m p ≤ 5 + 3 * (d : Int))) : BdT d m := fun x hx => by
  obtain ⟨p, hp, rfl⟩ := List.getElem_of_mem hx
  rw [← tk_get hp]; exact h p hp
theorem bdT_raise1 {d : Nat} {b m : List Int} (hl : b.length = m.length) (h : BdT d m) : BdT d (raise1 b m)   := bdT_of fun p _ => by
  cases hw : withinB b m with
  | false => rw [raise1_no hw]; exact bdT_tk h p
  | true =>
    rw [raise1_tk hl hw]
    unfold raiseW
    split
    · exact .inl rfl
    · exact bdT_tk h p
theorem bdT_raiseL {d : Nat} : ∀ {way : List (List Int)} {m : List Int}, (∀ b ∈ way, b.length = m.length) → BdT d m → BdT d (raiseL way m)
  | [], _, _, h => h
  | b :: way, m, hl, h => bdT_raiseL (way := way) (m := raise1 b m) (fun c hc => by rw [raise1_len]; exact hl c (List.mem_cons_of_mem _ hc)) (bdT_raise1 (hl b List.mem_cons_self) h)
theorem bdT_fire {pre post : List (List Int)} {n d : Nat} {m m' : List Int} {t : Nat} (_ : NetOk pre post n) (hp3 : ∀ r ∈ pre, ∀ x ∈ r, 0 ≤ x ∧ x ≤ 3) (hq3 : ∀ r ∈ post, ∀ x ∈ r, 0 ≤ x ∧ x ≤ 3) (hd : d ≤ 100000) (h : BdT d m) (he : nxN pre post m t = some m') (hpl : (pre.getD t []).length = m.length) : BdT (d + 1) m' := by
  unfold nxN at he
  split at he
  · rename_i hw
    cases he
    refine bdT_of fun p hp => ?_
    have hp2 : p < m.length := by simpa using hp
    rw [tk_get hp, List.getElem_map, List.getElem_range]
    have h1 := (within_iff hpl).1 hw p
    have hb1 : 0 ≤ tk (pre.getD t []) p ∧ tk (pre.getD t []) p ≤ 3 := tk_bd (by decide) (fun x hx => by
      by_cases ht : t < pre.length
      · rw [getD_at ht] at hx; exact hp3 _ (List.getElem_mem ht) x hx
      · rw [List.getD_eq_getElem?_getD, List.getElem?_eq_none (by omega)] at hx; cases hx) p
    have hb2 : 0 ≤ tk (post.getD t []) p ∧ tk (post.getD t []) p ≤ 3 := tk_bd (by decide) (fun x hx => by
      by_cases ht : t < post.length
      · rw [getD_at ht] at hx; exact hq3 _ (List.getElem_mem ht) x hx
      · rw [List.getD_eq_getElem?_getD, List.getElem?_eq_none (by omega)] at hx; cases hx) p
    have h3 := bdT_tk h p
    unfold fireW
    split
    · rcases h3 with h3 | h3
      · contradiction
      · right; omega
    · rename_i h4; left; exact Classical.not_not.1 h4
  · cases he
theorem nxN_len {pre post : List (List Int)} {m m' : List Int} {t : Nat} (he : nxN pre post m t = some m') : m'.length = m.length := by
  unfold nxN at he
  split at he
  · cases he; simp
  · cases he
end Go.Proofs.Ytocgjopmlhpjdaa

