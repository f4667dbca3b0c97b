import Derived.Test.YtocgjopmlhpjdaaNtT
import Derived.Test.YtocgjopmlhpjdaaNtU
/-
  Nets: the way in the coverability tree; Index, Contains, raised.
-/
namespace Go.Proofs.Ytocgjopmlhpjdaa
open Go.Vm Go.RowKit Go.Nt
theorem plainTry_114 : plainFn Try.prog 114 = true := by kernel_rfl
theorem plainTry_98 : plainFn Try.prog 98 = true := by kernel_rfl
theorem plainTry_99 : plainFn Try.prog 99 = true := by kernel_rfl
/-- Markings in an own slice that may have room behind them. -/
inductive Stk (σ : List VObj) : XV → List (List Int) → Prop
  | nil : Stk σ (.d Dnil) []
  | sl {id lo : Nat} {rest : List XV} {way : List (List Int)} (h : σ[id]? = some ⟨(flatW way).map .d ++ rest, 0⟩) (hl : way.length * 6 + rest.length = lo * 6) : Stk σ (.osl id 0 way.length 6 lo false) way
theorem Stk.keep {σ σ' : List VObj} {x : XV} {way : List (List Int)} (h : Stk σ x way) (hk : ∀ j, idX x = some j → σ'[j]? = σ[j]?) : Stk σ' x way := by
  cases h with
  | nil => exact .nil
  | sl h hl => exact .sl ((hk _ rfl).trans h) hl
theorem Stk.lt {σ : List VObj} {x : XV} {way : List (List Int)} (h : Stk σ x way) {j : Nat} (hj : idX x = some j) : j < σ.length := by
  cases h with
  | nil => cases hj
  | sl h hl => cases hj; exact obj_lt h
theorem flat_at {way : List (List Int)} {rest : List XV} {i : Nat} (hi : i < way.length) : ((((flatW way).map XV.d ++ rest).drop (0 + i * 6)).take 6) = (w6 (tk way[i])).map .d := by
  rw [Nat.zero_add, List.drop_append_of_le_length (by rw [List.length_map, flatW_len]; omega), ← List.map_drop, flatW_drop _ _ hi, List.map_append, List.append_assoc, List.take_left' (by simp [w6])]
/-- The place of the first element that is met, or -1. -/
def fstL {α : Type} (q : α → Bool) : List α → Int
  | [] => -1
  | x :: l => if q x then 0 else if fstL q l < 0 then -1 else fstL q l + 1
theorem fstL_any {α : Type} (q : α → Bool) : ∀ l : List α, decide (0 ≤ fstL q l) = l.any q
  | [] => rfl
  | x :: l => by
    have ih := fstL_any q l
    rw [fstL, List.any_cons]
    by_cases h : q x = true
    · rw [if_pos h, h]; rfl
    · rw [if_neg h, show q x = false by simpa using h, Bool.false_or, ← ih]
      by_cases h2 : fstL q l < 0
      · rw [if_pos h2, decide_eq_false (show ¬ 0 ≤ fstL q l by omega)]; rfl
      · rw [if_neg h2]; exact decide_eq_decide.2 (by omega)
theorem fstL_at {α : Type} {q : α → Bool} : ∀ {l : List α} {i : Nat} (hi : i < l.length), (∀ j (h : j < l.length), j < i → q l[j] = false) → q l[i] = true → fstL q l = i
  | x :: l, 0, _, _, h => by rw [fstL, if_pos (by simpa using h)]; rfl
  | x :: l, i + 1, hi, hall, h => by
    have h0 := hall 0 (by simp) (by omega)
    simp only [List.getElem_cons_zero] at h0
    have ih := fstL_at (l := l) (i := i) (by simpa using hi) (fun j hj hji => by have := hall (j + 1) (by simpa using hj) (by omega); simpa using this) (by simpa using h)
    rw [fstL, if_neg (by rw [h0]; decide), ih, if_neg (by omega)]; omega
theorem fstL_no {α : Type} {q : α → Bool} : ∀ {l : List α}, (∀ j (h : j < l.length), q l[j] = false) → fstL q l = -1
  | [], _ => rfl
  | x :: l, hall => by
    have h0 := hall 0 (by simp)
    simp only [List.getElem_cons_zero] at h0
    have ih := fstL_no (l := l) (fun j hj => by have := hall (j + 1) (by simpa using hj); simpa using this)
    rw [fstL, if_neg (by rw [h0]; decide), ih, if_pos (by decide)]
def eqQ (m x : List Int) : Bool := decide (m = x)
def boxM (m : List Int) : VObj := ⟨(w6 (tk m)).map .d, 0⟩
set_option maxRecDepth 10000 in
theorem index114_sl {σ : List VObj} {id lo : Nat} {rest : List XV} {n : Nat} {m : List Int} {way : List (List Int)} (n6 : n ≤ 6) (hm : m.length = n) (hb : Bnd m) (hw : ∀ x ∈ way, x.length = n ∧ Bnd x) (hl : way.length ≤ 100000) (ho : σ[id]? = some ⟨(flatW way).map .d ++ rest, 0⟩) (hlo : way.length * 6 + rest.length = lo * 6) :
    OwnCall Try.prog 114 σ [.osl id 0 way.length 6 lo false, .d (.agg (w6 (tk m)))] (σ ++ [boxM m]) (.d (DI (fstL (eqQ m) way))) := by
  refine ownCall_K Try.func114 rfl (Nat.le_of_ble_eq_true rfl) fun M W0 => ?_
  refine KC.seq ?_
  refine KC.region ?_
  refine KT.step rfl rfl (K.box rfl) ?_
  refine KT.step rfl rfl (K.assign rfl) ?_
  refine KT.nil ?_
  refine thenK_n ?_
  refine KC.seq ?_
  refine KC.seq ?_
  refine KC.region ?_
  refine KT.step rfl rfl (K.move rfl) ?_
  refine KT.step rfl rfl (K.lenO rfl Try.underlying62) ?_
  refine KT.step rfl rfl (K.move rfl) ?_
  refine KT.nil ?_
  refine thenK_n ?_
  refine KC.block ?_
  refine KC.loop (fun _ : Nat => σ ++ [boxM m]) (fun i => [(0, .osl id 0 way.length 6 lo false), (3, .optr σ.length 0), (7, .d (DI (way.length : Nat))), (8, .d (DI (i : Nat)))]) (fun i => i ≤ way.length ∧ ∀ j (h : j < way.length), j < i → eqQ m way[j] = false) (fun i => way.length - i) 0 ⟨Nat.zero_le _, fun j _ h => absurd h (Nat.not_lt_zero _)⟩ rfl (by simp [Go.Vm.look, extK, enterK]) ?_
  intro i hi
  obtain ⟨hi, hall⟩ := hi
  refine KC.seq ?_
  refine KC.region ?_
  refine KT.step rfl rfl (K.lss rfl rfl) ?_
  refine KT.nil ?_
  refine thenK_n ?_
  refine KC.seq ?_
  refine KC.cond rfl (fun hc9 => ?_) (fun hc9 => ?_)
  · skip
    replace hc9 := of_decide_eq_true hc9
    have hil : i < way.length := by omega
    refine KC.skip ?_
    refine thenK_n ?_
    refine KC.seq ?_
    refine KC.block ?_
    refine KC.seq ?_
    refine KC.region ?_
    refine KT.step rfl rfl (K.move rfl) ?_
    refine KT.step rfl rfl (K.assign rfl) ?_
    refine KT.nil ?_
    refine thenK_n ?_
    refine KC.seq ?_
    refine KC.draw Try.mixed ?_
    refine KT.step rfl rfl (K.loadOA (w6 (tk m)) rfl (List.getElem?_concat_length ..) (by decide) Try.agg64 Try.size64 rfl) ?_
    refine KT.step rfl rfl (K.move rfl) ?_
    refine KT.step rfl rfl (K.move rfl) ?_
    refine KT.step rfl rfl (K.idxOK (m := i) rfl rfl hil Try.underlying62 Try.size64) ?_
    refine KT.step rfl rfl (K.loadOAgg (m := 6) rfl (obj_left ho) (by simp) Try.agg64 Try.size64 (by simp only [List.length_drop, List.length_append, List.length_map, flatW_len]; omega)) ?_
    simp only
    rw [flat_at hil, aggX_d]
    refine KT.step rfl rfl (K.eqT (a := m) (b := way[i]) rfl rfl hb (hw _ (List.getElem_mem hil)).2 (by rw [hm, (hw _ (List.getElem_mem hil)).1]) (by omega)) ?_
    refine KT.nil ?_
    refine ⟨by kernel_rfl, ?_⟩
    refine thenK_n ?_
    refine KC.cond rfl (fun hc16 => ?_) (fun hc16 => ?_)
    · skip
      refine KC.seq ?_
      refine KC.region ?_
      refine KT.step rfl rfl (K.move rfl) ?_
      refine KT.step rfl rfl (K.assign rfl) ?_
      refine KT.nil ?_
      refine thenK_n ?_
      refine KC.ret ?_
      refine blockK_r ?_
      refine thenK_r ?_
      refine thenK_r ?_
      refine blockK_r ?_
      refine thenK_r ?_
      exact ⟨.inl rfl, by rw [fstL_at hil hall hc16]; rfl, rfl⟩
    · skip
      refine KC.skip ?_
      refine blockK_n ?_
      refine thenK_n ?_
      refine KC.region ?_
      refine KT.step rfl rfl (K.add rfl rfl (wrap_id (by omega))) ?_
      refine KT.step rfl rfl (K.move rfl) ?_
      refine KT.nil ?_
      refine thenK_n ?_
      refine ⟨i + 1, ⟨by omega, fun j h hj => ?_⟩, by omega, rfl, by simp [Go.Vm.look, extK]⟩
      by_cases e : j = i
      · subst e; exact hc16
      · exact hall j h (by omega)
  · skip
    replace hc9 := of_decide_eq_false hc9
    refine KC.exit ?_
    refine thenK_x ?_
    refine thenK_x ?_
    refine blockK_e ?_
    refine thenK_n ?_
    refine KC.seq ?_
    refine KC.region ?_
    refine KT.step rfl rfl (K.assign rfl) ?_
    refine KT.nil ?_
    refine thenK_n ?_
    refine KC.ret ?_
    exact ⟨.inl rfl, by rw [fstL_no (fun j h => hall j h (by omega))]; rfl, rfl⟩
set_option maxRecDepth 10000 in
theorem index114_nil {σ : List VObj} {m : List Int} : OwnCall Try.prog 114 σ [.d Dnil, .d (.agg (w6 (tk m)))] (σ ++ [boxM m]) (.d (DI (fstL (eqQ m) []))) := by
  refine ownCall_K Try.func114 rfl (Nat.le_of_ble_eq_true rfl) fun M W0 => ?_
  refine KC.seq ?_
  refine KC.region ?_
  refine KT.step rfl rfl (K.box rfl) ?_
  refine KT.step rfl rfl (K.assign rfl) ?_
  refine KT.nil ?_
  refine thenK_n ?_
  refine KC.seq ?_
  refine KC.seq ?_
  refine KC.region ?_
  refine KT.step rfl rfl (K.move rfl) ?_
  refine KT.step rfl rfl (K.len (l := ([] : List Int)) rfl (.nil : Ints Dnil []) Try.underlying62) ?_
  refine KT.step rfl rfl (K.move rfl) ?_
  refine KT.nil ?_
  refine thenK_n ?_
  refine KC.block ?_
  refine KC.loop (fun _ : Nat => σ ++ [boxM m]) (fun i => [(0, .d Dnil), (3, .optr σ.length 0), (7, .d (DI 0)), (8, .d (DI (i : Nat)))]) (fun i => i = 0) (fun i => i) 0 rfl rfl (by simp [Go.Vm.look, extK, enterK]) ?_
  intro i hi
  refine KC.seq ?_
  refine KC.region ?_
  refine KT.step rfl rfl (K.lss rfl rfl) ?_
  refine KT.nil ?_
  refine thenK_n ?_
  refine KC.seq ?_
  refine KC.cond rfl (fun hc9 => ?_) (fun hc9 => ?_)
  · skip
    subst hi; simp at hc9
  · skip
    replace hc9 := of_decide_eq_false hc9
    refine KC.exit ?_
    refine thenK_x ?_
    refine thenK_x ?_
    refine blockK_e ?_
    refine thenK_n ?_
    refine KC.seq ?_
    refine KC.region ?_
    refine KT.step rfl rfl (K.assign rfl) ?_
    refine KT.nil ?_
    refine thenK_n ?_
    refine KC.ret ?_
    exact ⟨.inl rfl, rfl, rfl⟩
theorem index114 {σ : List VObj} {x : XV} {n : Nat} {m : List Int} {way : List (List Int)} (n6 : n ≤ 6) (hm : m.length = n) (hb : Bnd m) (hw : ∀ x ∈ way, x.length = n ∧ Bnd x) (hl : way.length ≤ 100000) (hs : Stk σ x way) : OwnCall Try.prog 114 σ [x, .d (.agg (w6 (tk m)))] (σ ++ [boxM m]) (.d (DI (fstL (eqQ m) way))) := by
  cases hs with
  | nil => exact index114_nil
  | sl h hlo => exact index114_sl n6 hm hb hw hl h hlo
set_option maxRecDepth 10000 in
theorem contains98 {σ : List VObj} {x : XV} {n : Nat} {m : List Int} {way : List (List Int)} (n6 : n ≤ 6) (hm : m.length = n) (hb : Bnd m) (hw : ∀ x ∈ way, x.length = n ∧ Bnd x) (hl : way.length ≤ 100000) (hs : Stk σ x way) : OwnCall Try.prog 98 σ [x, .d (.agg (w6 (tk m)))] (σ ++ [boxM m, boxM m]) (.d (DB (way.any (eqQ m)))) := by
  refine ownCall_K Try.func98 rfl (Nat.le_of_ble_eq_true rfl) fun M W0 => ?_
  refine KC.seq ?_
  refine KC.region ?_
  refine KT.step rfl rfl (K.box rfl) ?_
  refine KT.step rfl rfl (K.assign rfl) ?_
  refine KT.nil ?_
  refine thenK_n ?_
  refine KC.seq ?_
  refine KC.region ?_
  refine KT.step rfl rfl (K.move rfl) ?_
  refine KT.step rfl rfl (K.loadOA (w6 (tk m)) rfl (List.getElem?_concat_length ..) (by decide) Try.agg64 Try.size64 rfl) ?_
  have hs2 : Stk (σ ++ [boxM m]) x way := hs.keep fun j hj => List.getElem?_append_left (hs.lt hj)
  refine KT.step rfl rfl (K.callO rfl plainTry_114 (index114 n6 hm hb hw hl hs2)) ?_
  refine KT.step rfl rfl (K.geq rfl rfl) ?_
  refine KT.step rfl rfl (K.assign rfl) ?_
  refine KT.nil ?_
  refine thenK_n ?_
  refine KC.ret ?_
  exact ⟨.inl rfl, by rw [← fstL_any]; rfl, by rw [List.append_assoc]; rfl⟩
/-- What is more than before is without bound. -/
def raiseW (B X : Nat → Int) (p : Nat) : Int := if B p < X p then 1099511627776 else X p
def raise1 (b m : List Int) : List Int := if withinB b m then (List.range m.length).map (raiseW (tk b) (tk m)) else m
def raiseL (way : List (List Int)) (m : List Int) : List Int := way.foldl (fun m b => raise1 b m) m
theorem raise1_len (b m : List Int) : (raise1 b m).length = m.length := by unfold raise1; split <;> simp
theorem raiseL_len : ∀ (way : List (List Int)) (m : List Int), (raiseL way m).length = m.length
  | [], _ => rfl
  | b :: way, m => by rw [raiseL, List.foldl_cons]; exact (raiseL_len way _).trans (raise1_len b m)
theorem raiseL_take {way : List (List Int)} {m : List Int} {i : Nat} (h : i < way.length) : raiseL (way.take (i + 1)) m = raise1 way[i] (raiseL (way.take i) m) := by
  unfold raiseL
  rw [List.take_add_one, List.getElem?_eq_getElem h, Option.toList_some, List.foldl_append]; rfl
theorem raise1_no {b m : List Int} (h : withinB b m = false) : raise1 b m = m := by unfold raise1; rw [h]; rfl
theorem raise1_tk {b m : List Int} (hl : b.length = m.length) (h : withinB b m = true) (p : Nat) : tk (raise1 b m) p = raiseW (tk b) (tk m) p := by
  unfold raise1
  rw [if_pos h]
  by_cases hp : p < m.length
  · rw [tk_get (by simpa using hp)]; simp
  · rw [tk_zero (by simp; omega)]
    unfold raiseW
    rw [tk_zero (l := b) (by omega), tk_zero (l := m) (by omega)]; rfl
def treeC (n : Nat) (pre post : List (List Int)) (s : List Int) (xn xw : XV) : List XV := (sysC n pre post s).map .d ++ [xn, xw]
set_option maxHeartbeats 1000000 in
set_option maxRecDepth 10000 in
theorem raised99_sl {M : Nat → Prop} {W0 : World} {σ : List VObj} {cid id lo n : Nat} {rest : List XV} {pre post : List (List Int)} {s c : List Int} {xn : XV} {way : List (List Int)} (n6 : n ≤ 6) (hcl : c.length = n) (hw : ∀ x ∈ way, x.length = n) (hl : way.length ≤ 100000)
    (hcd : σ[cid]? = some ⟨treeC n pre post s xn (.osl id 0 way.length 6 lo false), 0⟩) (ho : σ[id]? = some ⟨(flatW way).map .d ++ rest, 0⟩) : InCall Try.prog M W0 99 σ [.optr cid 0, .d (.agg (w6 (tk c)))] (fun σ' x => x = .d (.agg (w6 (tk (raiseL way c)))) ∧ ∀ e, e < σ.length → σ'[e]? = σ[e]?) := by
  have hidl := obj_lt ho
  refine inCall_K Try.func99 rfl (Nat.le_of_ble_eq_true rfl) ?_
  refine KC.seq ?_
  refine KC.region ?_
  refine KT.step rfl rfl (K.box rfl) ?_
  refine KT.step rfl rfl (K.alloc Try.zero64) ?_
  refine KT.nil ?_
  refine thenK_n ?_
  refine KC.seq ?_
  refine KC.seq ?_
  refine KC.region ?_
  refine KT.step rfl rfl (K.move rfl) ?_
  refine KT.step rfl rfl (K.nilCheckO rfl) ?_
  refine KT.step rfl rfl (K.fieldAddrO rfl Try.fld118_2 Try.size62) ?_
  refine KT.step rfl rfl (K.loadO (y := .osl id 0 way.length 6 lo false) rfl (obj_left (obj_left hcd)) (by simp) rfl Try.agg62) ?_
  refine KT.step rfl rfl (K.lenO rfl Try.underlying62) ?_
  refine KT.step rfl rfl (K.move rfl) ?_
  refine KT.nil ?_
  refine thenK_n ?_
  refine KC.block ?_
  refine KC.loop (fun q : List VObj × Nat => q.1) (fun q => [(0, .optr cid 0), (3, .optr σ.length 0), (4, .optr (σ.length + 1) 0), (11, .osl id 0 way.length 6 lo false), (12, .d (DI (way.length : Nat))), (13, .d (DI (q.2 : Nat)))]) (fun q => q.2 ≤ way.length ∧ q.1[σ.length]? = some ⟨(w6 (tk (raiseL (way.take q.2) c))).map .d, 0⟩ ∧ q.1[σ.length + 1]? = some ⟨(w6 fun _ => 0).map .d, 0⟩ ∧ ∀ e, e < σ.length → q.1[e]? = σ[e]?) (fun q => way.length - q.2) (_, 0) ⟨Nat.zero_le _, ?_, ?_, ?_⟩ rfl ?_ ?_
  · exact obj_left (List.getElem?_concat_length ..)
  · simp only
    exact (List.getElem?_append_right (by simp)).trans (by simp only [List.length_append, List.length_singleton, Nat.sub_self]; rfl)
  · intro e he
    exact (List.getElem?_append_left (by simp; omega)).trans (List.getElem?_append_left he)
  · simp [Go.Vm.look, extK, enterK]
  intro q hq
  obtain ⟨τ, i⟩ := q
  obtain ⟨hi, g0, g1, g2⟩ := hq
  simp only at hi g0 g1 g2 ⊢
  refine KC.seq ?_
  refine KC.region ?_
  refine KT.step rfl rfl (K.lss rfl rfl) ?_
  refine KT.nil ?_
  refine thenK_n ?_
  refine KC.seq ?_
  refine KC.cond rfl (fun hc14 => ?_) (fun hc14 => ?_)
  · skip
    replace hc14 := of_decide_eq_true hc14
    have hil : i < way.length := by omega
    have hwi := hw _ (List.getElem_mem hil)
    have hrl := raiseL_len (way.take i) c
    have hlw : leq6 (tk way[i]) (tk (raiseL (way.take i) c)) = withinB way[i] (raiseL (way.take i) c) := leq6_within (by omega) (by omega)
    refine KC.skip ?_
    refine thenK_n ?_
    refine KC.seq ?_
    refine KC.block ?_
    refine KC.seq ?_
    refine KC.region ?_
    refine KT.step rfl rfl (K.idxOK (m := i) rfl rfl hil Try.underlying62 Try.size64) ?_
    refine KT.step rfl rfl (K.loadOAgg (m := 6) rfl ((g2 _ hidl).trans ho) (by simp) Try.agg64 Try.size64 (by simp only [List.length_drop, List.length_append, List.length_map, flatW_len]; omega)) ?_
    simp only
    rw [flat_at hil, aggX_d]
    refine KT.step rfl rfl (K.alloc Try.zero64) ?_
    refine KT.putAll (cs := (w6 (tk way[i])).map .d) rfl rfl rfl rfl (List.getElem?_concat_length ..) rfl (by simp [w6, Value.cells]) (w6_one _) Try.size64 ?_
    have hlt0 := obj_lt g0
    have hlt1 := obj_lt g1
    obtain ⟨σ1, hσ1, k6, tk1, tl1⟩ := obj_put (List.getElem?_concat_length ..) ⟨(w6 (tk way[i])).map .d, 0⟩
    rw [hσ1]
    obtain ⟨bid, hbid⟩ : ∃ bid, bid = τ.length := ⟨_, rfl⟩
    rw [← hbid] at k6 tk1 ⊢
    have k0 := (tk1 _ (by omega)).trans (obj_left g0)
    have k1 := (tk1 _ (by omega)).trans (obj_left g1)
    have k2 : ∀ e, e < σ.length → σ1[e]? = σ[e]? := fun e he => (tk1 e (by omega)).trans ((List.getElem?_append_left (by omega)).trans (g2 e he))
    refine KT.nil ?_
    refine thenK_n ?_
    refine KC.seq ?_
    refine KC.seq ?_
    refine KC.region ?_
    refine KT.step rfl rfl (K.loadOA (w6 (tk way[i])) rfl k6 (by decide) Try.agg64 Try.size64 rfl) ?_
    refine KT.step rfl rfl (K.loadOA (w6 (tk (raiseL (way.take i) c))) rfl k0 (by decide) Try.agg64 Try.size64 rfl) ?_
    refine KT.step rfl rfl (K.call2 rfl rfl plainTry_58 (atMost58 _ _)) ?_
    refine KT.step rfl rfl (K.not rfl) ?_
    refine KT.nil ?_
    refine thenK_n ?_
    refine KC.cond rfl (fun hc20 => ?_) (fun hc20 => ?_)
    · skip
      refine KC.exit ?_
      refine thenK_x ?_
      refine blockK_e ?_
      refine thenK_n ?_
      refine KC.region ?_
      refine KT.step rfl rfl (K.add rfl rfl (wrap_id (by omega))) ?_
      refine KT.step rfl rfl (K.move rfl) ?_
      refine KT.nil ?_
      refine thenK_n ?_
      refine ⟨(σ1, i + 1), ⟨by simp only; omega, ?_, k1, k2⟩, by simp only; omega, rfl, by simp [Go.Vm.look, extK]⟩
      simp only
      rw [raiseL_take hil, raise1_no (by rw [← hlw]; simpa using hc20)]
      exact k0
    · skip
      refine KC.skip ?_
      refine thenK_n ?_
      refine KC.seq ?_
      refine KC.region ?_
      refine KT.step rfl rfl (K.move rfl) ?_
      refine KT.nil ?_
      refine thenK_n ?_
      refine KC.block ?_
      refine KC.loop (fun q : List VObj × Nat => q.1) (fun q => [(0, .optr cid 0), (3, .optr σ.length 0), (4, .optr (σ.length + 1) 0), (6, .optr bid 0), (11, .osl id 0 way.length 6 lo false), (12, .d (DI (way.length : Nat))), (13, .d (DI (i : Nat))), (21, .d (DI (q.2 : Nat)))]) (fun q => q.2 ≤ 6 ∧ q.1[σ.length]? = some ⟨halfW (raiseW (tk way[i]) (tk (raiseL (way.take i) c))) (tk (raiseL (way.take i) c)) q.2, 0⟩ ∧ q.1[σ.length + 1]? = some ⟨(w6 fun _ => 0).map .d, 0⟩ ∧ (∀ e, e < σ.length → q.1[e]? = σ[e]?) ∧ q.1[bid]? = some ⟨(w6 (tk way[i])).map .d, 0⟩) (fun q => 6 - q.2) (σ1, 0) ⟨Nat.zero_le _, by rw [halfW_zero]; exact k0, k1, k2, k6⟩ rfl (by simp [Go.Vm.look, extK, enterK]) ?_
      intro q hq
      obtain ⟨σ2, p⟩ := q
      obtain ⟨hp, m0, m1, m2, m6⟩ := hq
      simp only at hp m0 m1 m2 m6 ⊢
      refine KC.seq ?_
      refine KC.region ?_
      refine KT.step rfl rfl (K.lss rfl rfl) ?_
      refine KT.nil ?_
      refine thenK_n ?_
      refine KC.seq ?_
      refine KC.cond rfl (fun hc22 => ?_) (fun hc22 => ?_)
      · skip
        replace hc22 := of_decide_eq_true hc22
        have hp6 : p < 6 := by omega
        refine KC.skip ?_
        refine thenK_n ?_
        refine KC.seq ?_
        refine KC.block ?_
        refine KC.seq ?_
        refine KC.region ?_
        refine KT.step rfl rfl (K.move rfl) ?_
        refine KT.step rfl rfl (K.assign rfl) ?_
        refine KT.nil ?_
        refine thenK_n ?_
        refine KC.seq ?_
        refine KC.draw Try.mixed ?_
        refine KT.step rfl rfl (K.move rfl) ?_
        refine KT.step rfl rfl (K.idxA rfl rfl (by omega) Try.underlying64 Try.size3) ?_
        refine KT.step rfl rfl (K.loadO rfl m0 (by simp) (halfW_get (raiseW (tk way[i]) (tk (raiseL (way.take i) c))) (tk (raiseL (way.take i) c)) (by omega)) Try.agg3) ?_
        refine KT.step rfl rfl (K.move rfl) ?_
        refine KT.step rfl rfl (K.idxA rfl rfl (by omega) Try.underlying64 Try.size3) ?_
        refine KT.step rfl rfl (K.loadO rfl m6 (by simp) (w6_get (tk way[i]) (by omega)) Try.agg3) ?_
        refine KT.step rfl rfl (K.gtr rfl rfl) ?_
        refine KT.nil ?_
        refine ⟨by kernel_rfl, ?_⟩
        refine thenK_n ?_
        refine KC.cond rfl (fun hc30 => ?_) (fun hc30 => ?_)
        · skip
          replace hc30 := of_decide_eq_true hc30
          refine KC.region ?_
          refine KT.step rfl rfl (K.move rfl) ?_
          refine KT.step rfl rfl (K.idxA rfl rfl (by omega) Try.underlying64 Try.size3) ?_
          refine KT.storeG rfl rfl rfl rfl m0 (by rw [halfW_len]; omega) rfl rfl Try.size3 fun σ3 l3 u3 v3 => ?_
          have hF : (raiseW (tk way[i]) (tk (raiseL (way.take i) c))) p = 1099511627776 := by unfold raiseW; rw [if_pos hc30]
          rw [← hF, halfW_set _ _ hp6] at u3
          have hb3 := obj_lt k6
          have n1 := (v3 _ (by omega)).trans m1
          have n2 : ∀ e, e < σ.length → σ3[e]? = σ[e]? := fun e he => (v3 e (by omega)).trans (m2 e he)
          have n6 := (v3 bid (by omega)).trans m6
          refine KT.nil ?_
          refine blockK_n ?_
          refine thenK_n ?_
          refine KC.region ?_
          refine KT.step rfl rfl (K.add rfl rfl (wrap_id (by omega))) ?_
          refine KT.step rfl rfl (K.move rfl) ?_
          refine KT.nil ?_
          refine thenK_n ?_
          refine ⟨(σ3, p + 1), ⟨by simp only; omega, u3, n1, n2, n6⟩, by simp only; omega, rfl, by simp [Go.Vm.look, extK]⟩
        · skip
          replace hc30 := of_decide_eq_false hc30
          refine KC.skip ?_
          refine blockK_n ?_
          refine thenK_n ?_
          refine KC.region ?_
          refine KT.step rfl rfl (K.add rfl rfl (wrap_id (by omega))) ?_
          refine KT.step rfl rfl (K.move rfl) ?_
          refine KT.nil ?_
          refine thenK_n ?_
          refine ⟨(σ2, p + 1), ⟨by simp only; omega, ?_, m1, m2, m6⟩, by simp only; omega, rfl, by simp [Go.Vm.look, extK]⟩
          simp only
          rw [← halfW_same _ _ hp6 (by unfold raiseW; rw [if_neg (by omega)])]
          exact m0
      · skip
        replace hc22 := of_decide_eq_false hc22
        refine KC.exit ?_
        refine thenK_x ?_
        refine thenK_x ?_
        refine blockK_e ?_
        refine blockK_n ?_
        refine thenK_n ?_
        refine KC.region ?_
        refine KT.step rfl rfl (K.add rfl rfl (wrap_id (by omega))) ?_
        refine KT.step rfl rfl (K.move rfl) ?_
        refine KT.nil ?_
        refine thenK_n ?_
        obtain rfl : p = 6 := by omega
        refine ⟨(σ2, i + 1), ⟨by simp only; omega, ?_, m1, m2⟩, by simp only; omega, rfl, by simp [Go.Vm.look, extK]⟩
        simp only
        rw [halfW_full] at m0
        rw [raiseL_take hil, show tk (raise1 way[i] (raiseL (way.take i) c)) = raiseW (tk way[i]) (tk (raiseL (way.take i) c)) from funext (raise1_tk (by omega) (by rw [← hlw]; simpa using hc20))]
        exact m0
  · skip
    replace hc14 := of_decide_eq_false hc14
    obtain rfl : i = way.length := by omega
    rw [List.take_of_length_le (Nat.le_refl _)] at g0
    refine KC.exit ?_
    refine thenK_x ?_
    refine thenK_x ?_
    refine blockK_e ?_
    refine thenK_n ?_
    refine KC.seq ?_
    refine KC.region ?_
    refine KT.step rfl rfl (K.loadOA (w6 (tk (raiseL way c))) rfl g0 (by decide) Try.agg64 Try.size64 rfl) ?_
    refine KT.putAll (cs := (w6 (tk (raiseL way c))).map .d) rfl rfl rfl rfl g1 rfl (by simp [w6, Value.cells]) (w6_one _) Try.size64 ?_
    obtain ⟨σ4, hσ4, j0, j1, j2⟩ := obj_put g1 ⟨(w6 (tk (raiseL way c))).map .d, 0⟩
    rw [hσ4]
    refine KT.nil ?_
    refine thenK_n ?_
    refine KC.ret ?_
    refine ⟨.inl rfl, _, resK_c (m := 6) (w6 (tk (raiseL way c))) rfl rfl j0 (by decide) Try.agg64 Try.size64 rfl, rfl, fun e he => ?_⟩
    exact (j1 e (by omega)).trans (g2 e he)
end Go.Proofs.Ytocgjopmlhpjdaa

