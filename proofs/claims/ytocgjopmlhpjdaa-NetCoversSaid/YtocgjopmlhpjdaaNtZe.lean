import Derived.Test.YtocgjopmlhpjdaaNtZd
import Derived.Test.YtocgjopmlhpjdaaVmKi
/-
  Nets: grow; IndexFunc, ContainsFunc, DeleteFunc of markings.
-/
namespace Go.Proofs.Ytocgjopmlhpjdaa
open Go.Vm Go.RowKit Go.Nt Go.Ht
theorem plainTry_83 : plainFn Try.prog 83 = true := by kernel_rfl
theorem plainTry_57 : plainFn Try.prog 57 = true := by kernel_rfl
theorem plainTry_100 : plainFn Try.prog 100 = true := by kernel_rfl
theorem plainTry_101 : plainFn Try.prog 101 = true := by kernel_rfl
theorem grow81 {n : Nat} {pre post : List (List Int)} {s : List Int} {cid : Nat} (hN : NetOk pre post n) (hp3 : ∀ r ∈ pre, ∀ x ∈ r, 0 ≤ x ∧ x ≤ 3) (hq3 : ∀ r ∈ post, ∀ x ∈ r, 0 ≤ x ∧ x ≤ 3) : ∀ (f : Nat) {M : Nat → Prop} {W0 : World} {σ : List VObj} {xn xw : XV} {nodes way : List (List Int)} {m : List Int}, TreM n pre post s cid σ xn xw nodes way → nodes.length ≤ 2000 → 2001 ≤ f + nodes.length → way.length ≤ nodes.length → m.length = n → BdT way.length m → (∀ x ∈ way, x.length = n ∧ Bnd x) →
    InCall Try.prog M W0 81 σ [.optr cid 0, .d (.agg (w6 (tk m)))] (GrowQ n pre post s cid f xn xw nodes way m σ)
  | 0, _, _, _, _, _, _, _, _, _, h1, h2, _, _, _, _ => by omega
  | f + 1, _, _, _, _, _, _, _, _, hT, h1, h2, h3, h4, h5, h6 => grow81_step hN hp3 hq3 (grow81 hN hp3 hq3 f) hT h1 h2 h3 h4 h5 h6
theorem fstL_neg {α : Type} {q : α → Bool} {l : List α} (h : fstL q l = -1) : ∀ x ∈ l, q x = false := fun x hx => by
  have h1 := fstL_any q l
  rw [h] at h1
  cases hq : q x with
  | false => rfl
  | true => rw [List.any_eq_true.2 ⟨x, hx, hq⟩] at h1; exact absurd h1 (by decide)
theorem fstL_some {α : Type} {q : α → Bool} : ∀ {l : List α}, fstL q l ≠ -1 → ∃ i, ∃ h : i < l.length, fstL q l = (i : Nat) ∧ q l[i] = true ∧ ∀ x ∈ l.take i, q x = false
  | [], h => absurd rfl h
  | x :: l, h => by
    by_cases hx : q x = true
    · exact ⟨0, by simp, by rw [fstL, if_pos hx]; rfl, hx, fun x h => by simp at h⟩
    · have hf : q x = false := by simpa using hx
      by_cases h2 : fstL q l < 0
      · exact absurd (by rw [fstL, if_neg hx, if_pos h2]) h
      · obtain ⟨i, hi, h3, h4, h5⟩ := fstL_some (q := q) (l := l) (by omega)
        refine ⟨i + 1, by simpa using hi, by rw [fstL, if_neg hx, if_neg h2, h3]; rfl, by simpa using h4, fun y hy => ?_⟩
        rw [List.take_succ_cons] at hy
        rcases List.mem_cons.1 hy with rfl | hy
        · exact hf
        · exact h5 y hy
theorem flat_take6 (K : List (List Int)) (rest : List XV) {i : Nat} (h : i ≤ K.length) : ((flatW K).map XV.d ++ rest).take (i * 6) = (flatW (K.take i)).map .d := by
  conv => lhs; rw [← List.take_append_drop i K]
  rw [show flatW (K.take i ++ K.drop i) = flatW (K.take i) ++ flatW (K.drop i) from List.flatMap_append, List.map_append, List.append_assoc, List.take_left' (by rw [List.length_map, flatW_len, List.length_take]; omega)]
theorem flat_drop6 (K : List (List Int)) (rest : List XV) {i : Nat} (h : i ≤ K.length) : ((flatW K).map XV.d ++ rest).drop (i * 6) = (flatW (K.drop i)).map .d ++ rest := by
  conv => lhs; rw [← List.take_append_drop i K]
  rw [show flatW (K.take i ++ K.drop i) = flatW (K.take i) ++ flatW (K.drop i) from List.flatMap_append, List.map_append, List.append_assoc, List.drop_left' (by rw [List.length_map, flatW_len, List.length_take]; omega)]
theorem flat_set6 (K : List (List Int)) (rest : List XV) (m : List Int) {i : Nat} (h : i < K.length) : splice ((flatW K).map XV.d ++ rest) (0 + i * 6) ((w6 (tk m)).map .d) = (flatW (K.set i m)).map .d ++ rest := by
  unfold splice
  rw [Nat.zero_add, flat_take6 _ _ (by omega), show i * 6 + ((w6 (tk m)).map XV.d).length = (i + 1) * 6 from by simp [w6]; omega, flat_drop6 _ _ (by omega), List.set_eq_take_append_cons_drop, if_pos h]
  rw [show flatW (K.take i ++ m :: K.drop (i + 1)) = flatW (K.take i) ++ (w6 (tk m) ++ flatW (K.drop (i + 1))) from by unfold flatW; rw [List.flatMap_append, List.flatMap_cons]]
  simp only [List.map_append, List.append_assoc]
theorem deep_stk {σ : List VObj} {ids : List Nat} {id lo k : Nat} {rest : List XV} {way : List (List Int)} (ho : σ[id]? = some ⟨(flatW way).map .d ++ rest, 0⟩) (hi : id ∈ ids) : deepen (freezeIds σ ids) (k + 2) (.osl id 0 way.length 6 lo false) = some (.sl (flatW way) way.length none) := by
  rw [deepen_osl (freezeIds_in hi ho) rfl (by rw [List.length_append, List.length_map, flatW_len]; omega), List.drop_zero, List.take_left' (by rw [List.length_map, flatW_len]), mapM_deep]; rfl
theorem deep_box {σ : List VObj} {ids : List Nat} {id k : Nat} {m : List Int} (ho : σ[id]? = some (boxM m)) (hi : id ∈ ids) : deepen (freezeIds σ ids) (k + 2) (.optr id 0) = some (.ptr (w6 (tk m))) := by
  rw [deepen]
  simp only [show (freezeIds σ ids)[id]? = some ⟨(w6 (tk m)).map .d, 1⟩ from freezeIds_in hi ho]
  rw [if_pos trivial, List.drop_zero, mapM_deep]; rfl
theorem deep_fn {σ : List VObj} {id k g : Nat} {d : DV} (h : deepen σ (k + 1) (.optr id 0) = some d) : deepen σ (k + 2) (.fn (.func g) [] [.optr id 0]) = some (.fn (.func g) [] [d]) := by
  rw [deepen]
  simp only [List.mapM_cons, List.mapM_nil, h]; rfl
theorem fl_sl (way : List (List Int)) (cap : Option Nat) : FlD 6 (fun m => w6 (tk m)) (.sl (flatW way) way.length cap) way := FlD.sl
set_option maxRecDepth 10000 in
theorem indexFunc83 {d : DV} {l : List (List Int)} {g : FuncId} {fs cs : List DV} {q : List Int → Bool} (hd : FlD 6 (fun m => w6 (tk m)) d l) (hl : l.length ≤ 1000000) (hg : plainFn Try.prog g = true) (hq : ∀ m ∈ l, DeepCall Try.prog g (fs ++ [.agg (w6 (tk m))] ++ cs) (DB (q m))) : DeepCall Try.prog 83 [d, .fn (.func g) fs cs] (DI (fstL q l)) := by
  refine deepCall_K 5 Try.func83 rfl (Nat.le_of_ble_eq_true rfl) fun M W0 => ?_
  refine KC.seq ?_
  refine KC.region ?_
  refine KT.step rfl rfl (K.assign rfl) ?_
  refine KT.nil ?_
  refine thenK_n ?_
  refine KC.seq ?_
  refine KC.seq ?_
  refine KC.region ?_
  refine KT.step rfl rfl (K.move rfl) ?_
  refine KT.step rfl rfl (K.lenF (k := 6) (f := fun m => w6 (tk m)) (ks := l) rfl hd Try.underlying62) ?_
  refine KT.step rfl rfl (K.move rfl) ?_
  refine KT.nil ?_
  refine thenK_n ?_
  refine KC.block ?_
  refine KC.loop (fun _ : Nat => []) (fun i => [(0, .d d), (1, .d (.fn (.func g) fs cs)), (7, .d (DI (l.length : Nat))), (8, .d (DI (i : Nat)))]) (fun i => i ≤ l.length ∧ ∀ j (h : j < l.length), j < i → q l[j] = false) (fun i => l.length - i) 0 ⟨Nat.zero_le _, fun j _ h => absurd h (Nat.not_lt_zero _)⟩ rfl (by simp [Go.Vm.look, extK, enterK]) ?_
  intro i hi
  obtain ⟨hi, hall⟩ := hi
  refine KC.seq ?_
  refine KC.region ?_
  refine KT.step rfl rfl (K.lss rfl rfl) ?_
  refine KT.nil ?_
  refine thenK_n ?_
  refine KC.seq ?_
  refine KC.cond rfl (fun hc9 => ?_) (fun hc9 => ?_)
  · skip
    replace hc9 := of_decide_eq_true hc9
    have hil : i < l.length := by omega
    refine KC.skip ?_
    refine thenK_n ?_
    refine KC.seq ?_
    refine KC.block ?_
    refine KC.seq ?_
    refine KC.region ?_
    refine KT.step rfl rfl (K.move rfl) ?_
    refine KT.step rfl rfl (K.assign rfl) ?_
    refine KT.nil ?_
    refine thenK_n ?_
    refine KC.seq ?_
    refine KC.region ?_
    refine KT.step rfl rfl (K.move rfl) ?_
    refine KT.step rfl rfl (K.move rfl) ?_
    refine KT.step rfl rfl (K.move rfl) ?_
    refine KT.step rfl rfl (K.idxF (k := 6) (f := fun m => w6 (tk m)) (m := i) (fun _ => by simp [w6]) rfl hd rfl hil Try.underlying62 Try.size64) ?_
    refine KT.step rfl rfl (K.loadFl (m := 6) (by simp [w6]) rfl Try.agg64 Try.size64) ?_
    refine KT.step rfl rfl (K.callFC (fs := fs) (ds := [.agg (w6 (tk l[i]))]) (cs := cs) rfl rfl rfl hg (hq l[i] (List.getElem_mem hil))) ?_
    refine KT.nil ?_
    refine thenK_n ?_
    refine KC.cond rfl (fun hc16 => ?_) (fun hc16 => ?_)
    · skip
      refine KC.seq ?_
      refine KC.region ?_
      refine KT.step rfl rfl (K.move rfl) ?_
      refine KT.step rfl rfl (K.assign rfl) ?_
      refine KT.nil ?_
      refine thenK_n ?_
      refine KC.ret ?_
      refine blockK_r ?_
      refine thenK_r ?_
      refine thenK_r ?_
      refine blockK_r ?_
      refine thenK_r ?_
      exact ⟨.inl rfl, _, rfl, fin_d (by rw [fstL_at hil hall hc16])⟩
    · skip
      refine KC.skip ?_
      refine blockK_n ?_
      refine thenK_n ?_
      refine KC.region ?_
      refine KT.step rfl rfl (K.add rfl rfl (wrap_id (by omega))) ?_
      refine KT.step rfl rfl (K.move rfl) ?_
      refine KT.nil ?_
      refine thenK_n ?_
      refine ⟨i + 1, ⟨by omega, fun j h hj => ?_⟩, by omega, rfl, by simp [Go.Vm.look, extK]⟩
      by_cases e : j = i
      · subst e; exact hc16
      · exact hall j h (by omega)
  · skip
    replace hc9 := of_decide_eq_false hc9
    refine KC.exit ?_
    refine thenK_x ?_
    refine thenK_x ?_
    refine blockK_e ?_
    refine thenK_n ?_
    refine KC.seq ?_
    refine KC.region ?_
    refine KT.step rfl rfl (K.assign rfl) ?_
    refine KT.nil ?_
    refine thenK_n ?_
    refine KC.ret ?_
    exact ⟨.inl rfl, _, rfl, fin_d (by rw [fstL_no (fun j h => hall j h (by omega))])⟩
set_option maxRecDepth 10000 in
theorem containsFunc57 {d : DV} {l : List (List Int)} {g : FuncId} {fs cs : List DV} {q : List Int → Bool} (hd : FlD 6 (fun m => w6 (tk m)) d l) (hl : l.length ≤ 1000000) (hg : plainFn Try.prog g = true) (hq : ∀ m ∈ l, DeepCall Try.prog g (fs ++ [.agg (w6 (tk m))] ++ cs) (DB (q m))) : DeepCall Try.prog 57 [d, .fn (.func g) fs cs] (DB (l.any q)) := by
  refine deepCall_K 5 Try.func57 rfl (Nat.le_of_ble_eq_true rfl) fun M W0 => ?_
  refine KC.seq ?_
  refine KC.region ?_
  refine KT.step rfl rfl (K.assign rfl) ?_
  refine KT.nil ?_
  refine thenK_n ?_
  refine KC.seq ?_
  refine KC.region ?_
  refine KT.step rfl rfl (K.move rfl) ?_
  refine KT.step rfl rfl (K.move rfl) ?_
  refine KT.step rfl rfl (K.call2 rfl rfl plainTry_83 (indexFunc83 hd hl hg hq)) ?_
  refine KT.step rfl rfl (K.geq rfl rfl) ?_
  refine KT.step rfl rfl (K.assign rfl) ?_
  refine KT.nil ?_
  refine thenK_n ?_
  refine KC.ret ?_
  exact ⟨.inl rfl, _, rfl, fin_d (by rw [← fstL_any])⟩
set_option maxRecDepth 10000 in
theorem closure101 {x m : List Int} : DeepCall Try.prog 101 [.agg (w6 (tk x)), .ptr (w6 (tk m))] (DB (leq6 (tk x) (tk m))) := by
  refine deepCall_K 5 Try.func101 rfl (Nat.le_of_ble_eq_true rfl) fun M W0 => ?_
  refine KC.seq ?_
  refine KC.region ?_
  refine KT.step rfl rfl (K.box rfl) ?_
  refine KT.step rfl rfl (K.assign rfl) ?_
  refine KT.nil ?_
  refine thenK_n ?_
  refine KC.seq ?_
  refine KC.region ?_
  refine KT.step rfl rfl (K.loadOA (w6 (tk x)) rfl rfl (by decide) Try.agg64 Try.size64 rfl) ?_
  refine KT.step rfl rfl (K.loadFl (cs := w6 (tk m)) (rest := []) (m := 6) (by simp [w6]) (by rw [List.append_nil]; rfl) Try.agg64 Try.size64) ?_
  refine KT.step rfl rfl (K.call2 rfl rfl plainTry_58 (atMost58 _ _)) ?_
  refine KT.step rfl rfl (K.assign rfl) ?_
  refine KT.nil ?_
  refine thenK_n ?_
  refine KC.ret ?_
  exact ⟨.inl rfl, _, rfl, fin_d rfl⟩
end Go.Proofs.Ytocgjopmlhpjdaa

