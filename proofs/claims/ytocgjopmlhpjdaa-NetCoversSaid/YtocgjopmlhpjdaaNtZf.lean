import Derived.Test.YtocgjopmlhpjdaaNtZe
/-
  Nets: DeleteFunc of markings.
-/
namespace Go.Proofs.Ytocgjopmlhpjdaa
open Go.Vm Go.RowKit Go.Nt Go.Ht
theorem K.fromStk {σ : List VObj} {kn : Kn} {dst : Option Tmp} {ty : TypeId} {pos : String} {af : Array Edge} {g : Option (Nat × Bool)} {x h : Operand} {id len lo m : Nat} (hx : evK kn x = some (.osl id 0 len 6 lo false)) (hh : evK kn h = some (.d (DI (m : Int)))) (hm : m < len) (hl : len ≤ lo) :
    KEv Try.prog ⟨dst, .slice 62 x (some h) none none, ty, pos, af, g⟩ σ kn (.osl id (m * 6) (len - m) 6 (lo - m) false) σ 0 := ev_op fun env he => by
  have e1 := evK_evalX he hx
  have e2 := evK_evalX he hh
  unfold evalOp
  rw [litOp_none (x := x) (by simp [Op.operands]) (by rw [e1]; rfl)]
  simp [e1, e2, opSlice, Try.underlying62, Try.size64, boundOf, litOf, DI]
  rw [if_pos (by omega)]
def z6 : Value := .agg #[.int .i64 0, .int .i64 0, .int .i64 0, .int .i64 0, .int .i64 0, .int .i64 0]
theorem z6_one (n : Nat) : (zeroRow z6 n).all oneX = true := by
  unfold zeroRow
  rw [List.all_map, List.all_eq_true]
  intro i _
  have h : i % 6 < 6 := Nat.mod_lt _ (by decide)
  show oneX (.d (.lit (z6.cells[i % 6]!))) = true
  generalize i % 6 = r at h
  match r, h with
  | 0, _ => rfl
  | 1, _ => rfl
  | 2, _ => rfl
  | 3, _ => rfl
  | 4, _ => rfl
  | 5, _ => rfl
theorem KT.appStk {n : Nat} {ops : Array Oper} {l : List Oper} {σ : List VObj} {kn : Kn} {dst : Option Tmp} {ty : TypeId} {pos : String} {af : Array Edge} {g : Option (Nat × Bool)} {R : List Nat → List VObj → Kn → Prop} {x y : Operand} {sx : XV} {way : List (List Int)} {m : List Int} {id : Nat} (hg : guardK ops kn ⟨dst, .call ⟨.builtin .append, #[x, y], #[62, 62]⟩, ty, pos, af, g⟩ = some true) (hd : dstOk n dst = true)
    (hx : evK kn x = some sx) (hy : evK kn y = some (.osl id 0 1 6 1 true)) (hs : Stk σ sx way) (hid : σ[id]? = some ⟨(w6 (tk m)).map .d, 0⟩) (hne : idX sx ≠ some id) (hl : way.length ≤ 100000)
    (h : ∀ σ' x', Stk σ' x' (way ++ [m]) → (∀ j, idX sx ≠ some j → j < σ.length → σ'[j]? = σ[j]?) → (idX x' = idX sx ∨ ∃ j, idX x' = some j ∧ σ.length ≤ j) → σ.length ≤ σ'.length → KT Try.prog n ops l σ' (extK dst x' kn) (fun fls τ k => R (2 :: fls) τ k)) :
    KT Try.prog n ops (⟨dst, .call ⟨.builtin .append, #[x, y], #[62, 62]⟩, ty, pos, af, g⟩ :: l) σ kn R := by
  obtain ⟨σ', x', a1, a2, a3, a4, a5⟩ := K.appStk (dst := dst) (ty := ty) (pos := pos) (af := af) (g := g) hx hy hs hid hne hl
  exact KT.step hg hd a1 (h σ' x' a2 a3 a4 a5)
/-- What stays when those are deleted that are at most m. -/
def lessQ (m y : List Int) : Bool := leq6 (tk y) (tk m)
def stayL (m : List Int) (l : List (List Int)) : List (List Int) := l.filter fun y => !lessQ m y
theorem stay_take {m : List Int} {l : List (List Int)} {j : Nat} (h : j < l.length) : stayL m (l.take (j + 1)) = if lessQ m l[j] then stayL m (l.take j) else stayL m (l.take j) ++ [l[j]] := by
  unfold stayL
  rw [List.take_add_one, List.getElem?_eq_getElem h, Option.toList_some, List.filter_append]
  cases hq : lessQ m l[j] <;> simp [hq]
theorem stay_all {m : List Int} {l : List (List Int)} (h : ∀ x ∈ l, lessQ m x = false) : stayL m l = l := by
  unfold stayL
  exact List.filter_eq_self.2 fun x hx => by rw [h x hx]; rfl
theorem stay_len (m : List Int) (l : List (List Int)) : (stayL m l).length ≤ l.length := List.length_filter_le _ _
theorem set_take {α : Type} {l a : List α} {i : Nat} {x : α} (h : i < l.length) (ha : l.take i = a) : (l.set i x).take (i + 1) = a ++ [x] := by
  rw [List.set_eq_take_append_cons_drop, if_pos h, ha]
  have : a.length = i := by rw [← ha, List.length_take]; omega
  subst this
  rw [List.take_append, List.take_of_length_le (by omega), Nat.add_sub_cancel_left]; rfl
/-- What DeleteFunc does. -/
def DelQ (m : List Int) (l : List (List Int)) (x0 : XV) (σ σ' : List VObj) (x : XV) : Prop :=
  σ.length ≤ σ'.length ∧ (∀ j, j < σ.length → idX x0 ≠ some j → σ'[j]? = σ[j]?) ∧ Stk σ' x (stayL m l) ∧ idX x = idX x0
set_option maxHeartbeats 4000000 in
set_option maxRecDepth 10000 in
theorem delete100_sl {M : Nat → Prop} {W0 : World} {σ : List VObj} {id pid lo : Nat} {rest : List XV} {l : List (List Int)} {m : List Int} (ho : σ[id]? = some ⟨(flatW l).map .d ++ rest, 0⟩) (hlo : l.length * 6 + rest.length = lo * 6) (hp : σ[pid]? = some (boxM m)) (hne0 : pid ≠ id) (hl : l.length ≤ 1000000) :
    InCall Try.prog M W0 100 σ [.osl id 0 l.length 6 lo false, .fn (.func 101) [] [.optr pid 0]] (DelQ m l (.osl id 0 l.length 6 lo false) σ) := by
  have hL : l.length ≤ lo := by omega
  refine inCall_K Try.func100 rfl (Nat.le_of_ble_eq_true rfl) ?_
  refine KC.seq ?_
  refine KC.region ?_
  refine KT.step rfl rfl (K.assign rfl) ?_
  refine KT.nil ?_
  refine thenK_n ?_
  refine KC.seq ?_
  refine KC.region ?_
  refine KT.step rfl rfl (K.move rfl) ?_
  refine KT.step rfl rfl (K.move rfl) ?_
  refine KT.step rfl rfl (K.callO (xs := [.osl id 0 l.length 6 lo false, .fn (.func 101) [] [.optr pid 0]]) rfl plainTry_83 (ownCall_of_deep [id, pid] 4 (dargs := [.sl (flatW l) l.length none, .fn (.func 101) [] [.ptr (w6 (tk m))]]) (by simp only [List.mapM_cons, List.mapM_nil, deep_stk ho (by simp : id ∈ [id, pid]), deep_fn (deep_box hp (by simp : pid ∈ [id, pid]))]; rfl) (indexFunc83 (fs := []) (cs := [.ptr (w6 (tk m))]) (q := lessQ m) (fl_sl l _) hl plainTry_101 (fun x _ => closure101)))) ?_
  refine KT.step rfl rfl (K.assign rfl) ?_
  refine KT.nil ?_
  refine thenK_n ?_
  refine KC.seq ?_
  refine KC.seq ?_
  refine KC.region ?_
  refine KT.step rfl rfl (K.move rfl) ?_
  refine KT.step rfl rfl (K.eql rfl rfl) ?_
  refine KT.nil ?_
  refine thenK_n ?_
  refine KC.cond rfl (fun hc12 => ?_) (fun hc12 => ?_)
  · skip
    have hc12 := of_decide_eq_true hc12
    refine KC.seq ?_
    refine KC.region ?_
    refine KT.step rfl rfl (K.move rfl) ?_
    refine KT.step rfl rfl (K.assign rfl) ?_
    refine KT.nil ?_
    refine thenK_n ?_
    refine KC.ret ?_
    refine thenK_r ?_
    refine ⟨.inl rfl, _, rfl, Nat.le_refl _, fun _ _ _ => rfl, ?_, rfl⟩
    rw [stay_all (fstL_neg hc12)]
    exact .sl ho hlo
  · skip
    have hc12 := of_decide_eq_false hc12
    obtain ⟨i0, hi0, e0, hq0, hb0⟩ := fstL_some (q := lessQ m) (l := l) (fun e => hc12 (by rw [e]))
    rw [e0]
    have hst0 : stayL m (l.take (i0 + 1)) = l.take i0 := by rw [stay_take hi0, if_pos hq0, stay_all hb0]
    have hln0 : (stayL m (l.take (i0 + 1))).length = i0 := by rw [hst0, List.length_take]; omega
    refine KC.skip ?_
    refine thenK_n ?_
    refine KC.seq ?_
    refine KC.seq ?_
    refine KC.region ?_
    refine KT.step rfl rfl (K.move rfl) ?_
    refine KT.step rfl rfl (K.add rfl rfl (wrap_id (by omega))) ?_
    refine KT.step rfl rfl (K.assign rfl) ?_
    refine KT.nil ?_
    refine thenK_n ?_
    refine KC.block ?_
    refine KC.loop (fun p : List VObj × Nat => p.1) (fun p => [(0, .osl id 0 l.length 6 lo false), (1, .fn (.func 101) [] [.optr pid 0]), (5, .d (DI ((stayL m (l.take p.2)).length : Nat))), (6, .d (DI (p.2 : Nat)))]) (fun p => ∃ K : List (List Int), p.1[id]? = some ⟨(flatW K).map .d ++ rest, 0⟩ ∧ K.length = l.length ∧ K.take (stayL m (l.take p.2)).length = stayL m (l.take p.2) ∧ K.drop p.2 = l.drop p.2 ∧ (stayL m (l.take p.2)).length < p.2 ∧ p.2 ≤ l.length ∧ p.1[pid]? = some (boxM m) ∧ σ.length ≤ p.1.length ∧ ∀ e, e < σ.length → e ≠ id → p.1[e]? = σ[e]?) (fun p => l.length - p.2) (σ, i0 + 1) ⟨l, ho, rfl, by rw [hln0, hst0], rfl, by rw [hln0]; omega, hi0, hp, Nat.le_refl _, fun _ _ _ => rfl⟩ rfl (by simp [Go.Vm.look, extK, enterK, hln0]) ?_
    intro p hp0
    obtain ⟨σk, j⟩ := p
    obtain ⟨Kq, h1, h2, h3, h4, h5, h6, h7, h8, h9⟩ := hp0
    simp only at h1 h2 h3 h4 h5 h6 h7 h8 h9 ⊢
    have hlenj := stay_len m (l.take j)
    refine KC.seq ?_
    refine KC.seq ?_
    refine KC.region ?_
    refine KT.step rfl rfl (K.move rfl) ?_
    refine KT.step rfl rfl (K.move rfl) ?_
    refine KT.step rfl rfl (K.lenO rfl Try.underlying62) ?_
    refine KT.step rfl rfl (K.lss rfl rfl) ?_
    refine KT.nil ?_
    refine thenK_n ?_
    refine KC.cond rfl (fun hc19 => ?_) (fun hc19 => ?_)
    · skip
      have hjl : j < l.length := by have := of_decide_eq_true hc19; omega
      have hjK : j < Kq.length := by omega
      have hKj : Kq[j] = l[j] := by
        have h9 := congrArg (fun z => z[0]?) h4
        simp only [List.getElem?_drop, Nat.add_zero, List.getElem?_eq_getElem hjK, List.getElem?_eq_getElem hjl] at h9
        exact Option.some.inj h9
      refine KC.skip ?_
      refine thenK_n ?_
      refine KC.seq ?_
      refine KC.block ?_
      refine KC.seq ?_
      refine KC.region ?_
      refine KT.step rfl rfl (K.move rfl) ?_
      refine KT.step rfl rfl (K.move rfl) ?_
      refine KT.step rfl rfl (K.idxOK (m := j) rfl rfl hjl Try.underlying62 Try.size64) ?_
      refine KT.step rfl rfl (K.loadOAgg (m := 6) rfl h1 (by simp) Try.agg64 Try.size64 (by simp only [List.length_drop, List.length_append, List.length_map, flatW_len]; omega)) ?_
      simp only
      rw [flat_at hjK, aggX_d, hKj]
      refine KT.step rfl rfl (K.alloc Try.zero64) ?_
      refine KT.putAll (cs := (w6 (tk l[j])).map .d) rfl rfl rfl rfl (List.getElem?_concat_length ..) rfl (by simp [w6, Value.cells]) (w6_one _) Try.size64 ?_
      have hlt0 := obj_lt h1
      have hlt1 := obj_lt h7
      obtain ⟨σ1, hσ1, k6, tk1, tl1⟩ := obj_put (List.getElem?_concat_length ..) ⟨(w6 (tk l[j])).map .d, 0⟩
      rw [hσ1]
      obtain ⟨bid, hbid⟩ : ∃ bid, bid = σk.length := ⟨_, rfl⟩
      rw [← hbid] at k6 tk1 ⊢
      rw [List.length_append, List.length_singleton] at tl1
      have k0 := (tk1 _ (by omega)).trans (obj_left h1)
      have k1 := (tk1 _ (by omega)).trans (obj_left h7)
      have k2 : ∀ e, e < σ.length → e ≠ id → σ1[e]? = σ[e]? := fun e he hne => (tk1 e (by omega)).trans ((List.getElem?_append_left (by omega)).trans (h9 e he hne))
      refine KT.nil ?_
      refine thenK_n ?_
      refine KC.seq ?_
      refine KC.region ?_
      refine KT.step rfl rfl (K.move rfl) ?_
      refine KT.step rfl rfl (K.loadOA (w6 (tk l[j])) rfl k6 (by decide) Try.agg64 Try.size64 rfl) ?_
      refine KT.step rfl rfl (K.callV (first := []) (xs := [.d (.agg (w6 (tk l[j])))]) (caps := [.optr pid 0]) rfl rfl rfl plainTry_101 (ownCall_of_deep [pid] 4 (dargs := [.agg (w6 (tk l[j])), .ptr (w6 (tk m))]) (by simp only [List.nil_append, List.cons_append, List.mapM_cons, List.mapM_nil, deep_box k1 (by simp : pid ∈ [pid])]; rfl) closure101)) ?_
      refine KT.step rfl rfl (K.not rfl) ?_
      refine KT.nil ?_
      refine thenK_n ?_
      refine KC.cond rfl (fun hc29 => ?_) (fun hc29 => ?_)
      · skip
        refine KC.seq ?_
        refine KC.region ?_
        refine KT.step rfl rfl (K.move rfl) ?_
        refine KT.step rfl rfl (K.move rfl) ?_
        refine KT.step rfl rfl (K.loadOA (w6 (tk l[j])) rfl k6 (by decide) Try.agg64 Try.size64 rfl) ?_
        refine KT.step rfl rfl (K.idxOK (m := (stayL m (l.take j)).length) rfl rfl (by omega) Try.underlying62 Try.size64) ?_
        refine KT.step rfl rfl (K.storeN rfl rfl k0 (by simp only [List.length_append, List.length_map, flatW_len, cellsX, w6]; simp; omega) (w6_one _) (by simp [cellsX, w6]; exact Try.size64)) ?_
        rw [show cellsX (.d (.agg (w6 (tk l[j])))) = (w6 (tk l[j])).map .d from rfl, flat_set6 Kq rest l[j] (by omega)]
        obtain ⟨σ2, hσ2, q0, q1, q2⟩ := obj_put k0 ⟨(flatW (Kq.set (stayL m (l.take j)).length l[j])).map .d ++ rest, 0⟩
        rw [hσ2]
        refine KT.nil ?_
        refine thenK_n ?_
        refine KC.region ?_
        refine KT.step rfl rfl (K.move rfl) ?_
        refine KT.step rfl rfl (K.add rfl rfl (wrap_id (by omega))) ?_
        refine KT.step rfl rfl (K.assign rfl) ?_
        refine KT.nil ?_
        refine blockK_n ?_
        refine thenK_n ?_
        refine KC.region ?_
        refine KT.step rfl rfl (K.move rfl) ?_
        refine KT.step rfl rfl (K.add rfl rfl (wrap_id (by omega))) ?_
        refine KT.step rfl rfl (K.assign rfl) ?_
        refine KT.nil ?_
        refine thenK_n ?_
        have hf : lessQ m l[j] = false := by simpa [lessQ] using hc29
        have hst : stayL m (l.take (j + 1)) = stayL m (l.take j) ++ [l[j]] := by rw [stay_take hjl, if_neg (by rw [hf]; decide)]
        refine ⟨(σ2, j + 1), ⟨Kq.set (stayL m (l.take j)).length l[j], q0, by rw [List.length_set]; exact h2, ?_, ?_, ?_, by simp only; omega, ?_, by simp only; omega, fun e he hne => ?_⟩, by simp only; omega, rfl, ?_⟩
        · simp only
          rw [hst, List.length_append, List.length_singleton]
          exact set_take (by omega) h3
        · simp only
          rw [List.drop_set_of_lt (by omega), ← List.drop_drop, h4, List.drop_drop]
        · simp only
          rw [hst, List.length_append, List.length_singleton]; omega
        · simp only
          exact (q1 _ hne0).trans k1
        · simp only
          exact (q1 e hne).trans (k2 e he hne)
        · simp only [hst, List.length_append, List.length_singleton]
          simp [Go.Vm.look, extK]
      · skip
        refine KC.skip ?_
        refine blockK_n ?_
        refine thenK_n ?_
        refine KC.region ?_
        refine KT.step rfl rfl (K.move rfl) ?_
        refine KT.step rfl rfl (K.add rfl rfl (wrap_id (by omega))) ?_
        refine KT.step rfl rfl (K.assign rfl) ?_
        refine KT.nil ?_
        refine thenK_n ?_
        have hf : lessQ m l[j] = true := by simpa [lessQ] using hc29
        have hst : stayL m (l.take (j + 1)) = stayL m (l.take j) := by rw [stay_take hjl, if_pos hf]
        refine ⟨(σ1, j + 1), ⟨Kq, k0, h2, ?_, ?_, ?_, by simp only; omega, k1, by simp only; omega, k2⟩, by simp only; omega, rfl, ?_⟩
        · simp only
          rw [hst]; exact h3
        · simp only
          rw [← List.drop_drop, h4, List.drop_drop]
        · simp only
          rw [hst]; omega
        · simp only [hst]
          simp [Go.Vm.look, extK]
    · skip
      have hc19 := of_decide_eq_false hc19
      obtain rfl : j = l.length := by omega
      have htl : List.take l.length l = l := List.take_of_length_le (Nat.le_refl _)
      simp only [htl] at h3 h5 hlenj ⊢
      refine KC.exit ?_
      refine thenK_x ?_
      refine thenK_x ?_
      refine blockK_e ?_
      refine thenK_n ?_
      refine KC.seq ?_
      refine KC.region ?_
      refine KT.step rfl rfl (K.move rfl) ?_
      refine KT.step rfl rfl (K.move rfl) ?_
      refine KT.step rfl rfl (K.fromStk rfl rfl (by omega) hL) ?_
      refine KT.step rfl rfl (K.clearO (z := z6) rfl rfl Try.underlying62 Try.zero64 rfl (z6_one _) h1 rfl (by simp only [List.length_append, List.length_map, flatW_len]; omega) (by omega)) ?_
      obtain ⟨σ3, hσ3, q0, q1, q2⟩ := obj_put h1 ⟨splice ((flatW Kq).map .d ++ rest) ((stayL m l).length * 6) (zeroRow z6 ((l.length - (stayL m l).length) * 6)), 0⟩
      rw [hσ3]
      refine KT.nil ?_
      refine thenK_n ?_
      refine KC.seq ?_
      refine KC.region ?_
      refine KT.step rfl rfl (K.move rfl) ?_
      refine KT.step rfl rfl (K.move rfl) ?_
      refine KT.step rfl rfl (K.popStk rfl rfl (by omega)) ?_
      refine KT.step rfl rfl (K.assign rfl) ?_
      refine KT.nil ?_
      refine thenK_n ?_
      refine KC.ret ?_
      refine ⟨.inl rfl, _, rfl, by omega, fun e he hne => (q1 e (fun h => hne (by rw [h]; rfl))).trans (h9 e he (fun h => hne (by rw [h]; rfl))), ?_, rfl⟩
      refine .sl (rest := (zeroRow z6 ((l.length - (stayL m l).length) * 6)) ++ rest) ?_ ?_
      · rw [q0]
        unfold splice
        rw [flat_take6 Kq rest (by omega), h3, show (stayL m l).length * 6 + (zeroRow z6 ((l.length - (stayL m l).length) * 6)).length = Kq.length * 6 from by simp [zeroRow]; omega, flat_drop6 Kq rest (Nat.le_refl _), List.drop_length]
        simp [flatW]
      · rw [List.length_append]
        simp [zeroRow]; omega
set_option maxRecDepth 10000 in
theorem delete100_nil {M : Nat → Prop} {W0 : World} {σ : List VObj} {pid : Nat} {m : List Int} (hp : σ[pid]? = some (boxM m)) :
    InCall Try.prog M W0 100 σ [.d Dnil, .fn (.func 101) [] [.optr pid 0]] (DelQ m [] (.d Dnil) σ) := by
  refine inCall_K Try.func100 rfl (Nat.le_of_ble_eq_true rfl) ?_
  refine KC.seq ?_
  refine KC.region ?_
  refine KT.step rfl rfl (K.assign rfl) ?_
  refine KT.nil ?_
  refine thenK_n ?_
  refine KC.seq ?_
  refine KC.region ?_
  refine KT.step rfl rfl (K.move rfl) ?_
  refine KT.step rfl rfl (K.move rfl) ?_
  refine KT.step rfl rfl (K.callO (xs := [.d Dnil, .fn (.func 101) [] [.optr pid 0]]) rfl plainTry_83 (ownCall_of_deep [pid] 4 (dargs := [Dnil, .fn (.func 101) [] [.ptr (w6 (tk m))]]) (by simp only [List.mapM_cons, List.mapM_nil, deep_fn (deep_box hp (by simp : pid ∈ [pid]))]; rfl) (indexFunc83 (fs := []) (cs := [.ptr (w6 (tk m))]) (q := lessQ m) (l := []) .nil (by decide) plainTry_101 (fun x _ => closure101)))) ?_
  refine KT.step rfl rfl (K.assign rfl) ?_
  refine KT.nil ?_
  refine thenK_n ?_
  refine KC.seq ?_
  refine KC.seq ?_
  refine KC.region ?_
  refine KT.step rfl rfl (K.move rfl) ?_
  refine KT.step rfl rfl (K.eql rfl rfl) ?_
  refine KT.nil ?_
  refine thenK_n ?_
  refine KC.cond rfl (fun hc12 => ?_) (fun hc12 => ?_)
  · skip
    refine KC.seq ?_
    refine KC.region ?_
    refine KT.step rfl rfl (K.move rfl) ?_
    refine KT.step rfl rfl (K.assign rfl) ?_
    refine KT.nil ?_
    refine thenK_n ?_
    refine KC.ret ?_
    refine thenK_r ?_
    exact ⟨.inl rfl, _, rfl, Nat.le_refl _, fun _ _ _ => rfl, .nil, rfl⟩
  · cases hc12
theorem delete100 {M : Nat → Prop} {W0 : World} {σ : List VObj} {x : XV} {pid : Nat} {l : List (List Int)} {m : List Int} (hs : Stk σ x l) (hp : σ[pid]? = some (boxM m)) (hne0 : idX x ≠ some pid) (hl : l.length ≤ 1000000) : InCall Try.prog M W0 100 σ [x, .fn (.func 101) [] [.optr pid 0]] (DelQ m l x σ) := by
  cases hs with
  | nil => exact delete100_nil hp
  | sl ho hlo => exact delete100_sl ho hlo hp (fun e => hne0 (by rw [e]; rfl)) hl
end Go.Proofs.Ytocgjopmlhpjdaa

