import Derived.Test.YtocgjopmlhpjdaaNtZi
import Derived.Test.YtocgjopmlhpjdaaNtSd
/-
  Nets: the reference: tree, what the walk needs.
-/
namespace Go.Proofs.Ytocgjopmlhpjdaa
open Go.Vm Go.RowKit Go.Nt Go.Ht
theorem K.cutD {σ : List VObj} {kn : Kn} {dst : Option Tmp} {ty : TypeId} {pos : String} {af : Array Edge} {g : Option (Nat × Bool)} {P : Program} {x h : Operand} {t e : TypeId} {cs : List DV} {len m : Nat} {cap : Option Nat} (hx : evK kn x = some (.d (.sl cs len cap))) (hh : evK kn h = some (.d (DI (m : Nat)))) (hn : cs.length = len) (hm : m ≤ len)
    (ht : P.underlying t = some (.slice e)) (hs : sizeT P e = some 1) : KEv P ⟨dst, .slice t x none (some h) none, ty, pos, af, g⟩ σ kn (.d (.sl (cs.take m) m cap)) σ 0 := ev_op fun env he => by
  have e1 := evK_evalX he hx
  have e2 := evK_evalX he hh
  unfold evalOp
  rw [litOp_none (x := x) (by simp [Op.operands]) (by rw [e1]; rfl)]
  subst hn
  simp [e1, e2, opSlice, ht, hs, boundOf, litOf, DI, hm]
theorem drop_one {α : Type} {cs : List α} {i : Nat} (h : i < cs.length) : cs.drop (i * 1) = cs[i] :: cs.drop (i + 1) := by rw [Nat.mul_one]; exact List.drop_eq_getElem_cons h
theorem fold_en {nx : List Int → Nat → Option (List Int)} {m : List Int} {t : Nat} {β : Type} {g : β → Nat × List Int → Option β} {a : β} : (enL nx m (t + 1)).foldlM g a = ((enL nx m t).foldlM g a).bind fun b => match nx m t with | none => some b | some m' => g b (t, m') := by
  rw [enL_succ, List.foldlM_append]
  cases (enL nx m t).foldlM g a with
  | none => rfl
  | some b =>
    cases nx m t with
    | none => rfl
    | some m' => simp
theorem fold_en_none {nx : List Int → Nat → Option (List Int)} {m : List Int} {t : Nat} {β : Type} {g : β → Nat × List Int → Option β} {a : β} (h : (enL nx m t).foldlM g a = none) : ∀ d, (enL nx m (t + d)).foldlM g a = none
  | 0 => h
  | d + 1 => by rw [← Nat.add_assoc, fold_en, fold_en_none h d]; rfl
/-- What the counter holds afterwards, and what is returned. -/
def k55 (o : Option (List (List Int))) : Int := match o with | none => 2001 | some r => (r.length : Nat)
def l55 (dm : DV) (c : Nat) (r : List (List Int)) : List DV := dm :: (r.drop (c + 1)).map numV
def r55 (dm : DV) (c : Nat) (o : Option (List (List Int))) : DV := match o with | none => Dnil | some r => .sl (l55 dm c r) (l55 dm c r).length (if (r.drop (c + 1)).isEmpty then some 1 else none)
theorem one_numV (m : List Int) : oneX (.d (numV m)) = true := by cases m <;> rfl
theorem l55_one (m : List Int) (c : Nat) (r : List (List Int)) : ((l55 (numV m) c r).map XV.d).all oneX = true := by
  unfold l55
  rw [List.all_map, List.all_eq_true]
  intro d hd
  rcases List.mem_cons.1 hd with rfl | h
  · exact one_numV m
  · obtain ⟨x, _, rfl⟩ := List.mem_map.1 h; exact one_numV x
theorem raise1_same {b m : List Int} (h : b = m) : raise1 b m = m := by
  subst h
  unfold raise1
  split
  · refine List.ext_getElem (by simp) fun i h1 h2 => ?_
    simp [raiseW, tk_get h2]
  · rfl
theorem app_tail {σ1 σ2 : List VObj} (hl : σ1.length ≤ σ2.length) (h : ∀ j, j < σ1.length → σ2[j]? = σ1[j]?) : ∃ τ, σ2 = σ1 ++ τ := by
  refine ⟨σ2.drop σ1.length, List.ext_getElem? fun j => ?_⟩
  by_cases hj : j < σ1.length
  · rw [List.getElem?_append_left hj, h j hj]
  · rw [List.getElem?_append_right (by omega), List.getElem?_drop]
    congr 1; omega
theorem raise1_halfN {b m : List Int} (hw : withinB b m = true) (hl : b.length = m.length) : (halfN m.length (raiseW (tk b) (tk m)) (tk m) m.length) = ((raise1 b m).map DI).map .d := by
  unfold raise1
  rw [if_pos hw, halfN_full]; simp only [List.map_map]; rfl
theorem halfN_start (F : Nat → Int) (m : List Int) : (m.map DI).map XV.d = halfN m.length F (tk m) 0 := by
  have := halfN_zero F m
  rwa [List.take_of_length_le (by simp)] at this
theorem nx_yes {pre post : List (List Int)} {m m9 : List Int} {t : Nat} (hn : nxN pre post m t = some m9) (ht : t < pre.length) (ht2 : t < post.length) : withinB pre[t] m = true ∧ halfN m.length (fireW (tk post[t]) (tk pre[t]) (tk m)) (tk m) m.length = (m9.map DI).map .d := by
  unfold nxN at hn
  rw [getD_at ht, getD_at ht2] at hn
  split at hn
  · rename_i hw
    cases hn
    refine ⟨hw, ?_⟩
    rw [halfN_full]; simp only [List.map_map]; rfl
  · cases hn
theorem nx_no {pre post : List (List Int)} {m : List Int} {t : Nat} (hn : nxN pre post m t = none) (ht : t < pre.length) : withinB pre[t] m = false := (nxN_none ht).1 hn
end Go.Proofs.Ytocgjopmlhpjdaa

