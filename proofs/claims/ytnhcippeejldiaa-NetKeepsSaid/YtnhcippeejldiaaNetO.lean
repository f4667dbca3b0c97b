/-
  Nets: what a word of transitions does.
-/
import Derived.Test.YtnhcippeejldiaaNetM
namespace Go.Proofs.Ytnhcippeejldiaa
open Go.Vm
theorem plainTry_51 : plainFn Try.prog 51 = true := by kernel_rfl
theorem plainTry_55 : plainFn Try.prog 55 = true := by kernel_rfl
theorem plainTry_14 : plainFn Try.prog 14 = true := by kernel_rfl
set_option maxRecDepth 10000 in
theorem tokens55 {d : DV} {r : List Int} {set : Nat} (hd : Ints d r) (hl : r.length ≤ 6) (hs : set < 2 ^ 63) : DeepCall Try.prog 55 [d, DI (set : Nat)] (DB (touchR r set)) := by
  refine deepCall_K 5 Try.func55 rfl (Nat.le_of_ble_eq_true rfl) fun M W0 => ?_
  refine KC.seq ?_
  refine KC.region ?_
  refine KT.step rfl rfl (K.assign rfl) ?_
  refine KT.nil ?_
  refine thenK_n ?_
  refine KC.seq ?_
  refine KC.seq ?_
  refine KC.region ?_
  refine KT.step rfl rfl (K.move rfl) ?_
  refine KT.step rfl rfl (K.len rfl (by assumption) Try.underlying23) ?_
  refine KT.step rfl rfl (K.move rfl) ?_
  refine KT.nil ?_
  refine thenK_n ?_
  refine KC.block ?_
  refine KC.loop (fun _ : Nat => []) (fun i => [(1, .d (DI (set : Nat))), (7, .d d), (8, .d (DI r.length)), (9, .d (DI i))]) (fun i => i ≤ r.length ∧ ((List.range r.length).take i).any (touchQ r set) = false) (fun i => r.length - i) 0 ⟨Nat.zero_le _, by simp⟩ rfl (by simp [Go.Vm.look, extK, enterK]) ?_
  intro i hi
  obtain ⟨hi, hall⟩ := hi
  refine KC.seq ?_
  refine KC.region ?_
  refine KT.step rfl rfl (K.lss rfl rfl) ?_
  refine KT.nil ?_
  refine thenK_n ?_
  refine KC.seq ?_
  refine KC.cond rfl (fun hc10 => ?_) (fun hc10 => ?_)
  · skip
    replace hc10 := of_decide_eq_true hc10
    have hil : i < r.length := by omega
    have hd63 : set / 2 ^ i < 2 ^ 63 := Nat.lt_of_le_of_lt (Nat.div_le_self _ _) hs
    refine KC.skip ?_
    refine thenK_n ?_
    refine KC.seq ?_
    refine KC.block ?_
    refine KC.seq ?_
    refine KC.region ?_
    refine KT.step rfl rfl (K.move rfl) ?_
    refine KT.idxI rfl rfl rfl (by assumption) rfl (by omega) Try.underlying23 Try.size3 fun cs12 => ?_
    refine KT.step rfl rfl (K.load rfl Try.agg3) ?_
    refine KT.step rfl rfl (K.assign rfl) ?_
    refine KT.step rfl rfl (K.assign rfl) ?_
    refine KT.nil ?_
    refine thenK_n ?_
    refine KC.seq ?_
    refine KC.region ?_
    refine KT.step rfl rfl (K.move rfl) ?_
    refine KT.step rfl rfl (K.gtr rfl rfl) ?_
    refine KT.step rfl rfl (K.move rfl) ?_
    refine KT.bcase (fun hb16 => ?_) (fun hb16 => ?_)
    · skip
      refine KT.step rfl rfl (K.move rfl) ?_
      refine KT.step rfl rfl (K.move rfl) ?_
      refine KT.step rfl rfl (K.shr rfl rfl (by omega) (shrI (by omega))) ?_
      refine KT.step rfl rfl (K.band rfl rfl (andOne hd63)) ?_
      refine KT.step rfl rfl (K.eql rfl rfl) ?_
      refine KT.step rfl rfl (K.pick rfl (fun _ => rfl) (fun h => by cases h)) ?_
      refine KT.nil ?_
      refine thenK_n ?_
      refine KC.cond rfl (fun hc22 => ?_) (fun hc22 => ?_)
      · skip
        rw [bitOne] at hc22
        refine KC.seq ?_
        refine KC.region ?_
        refine KT.step rfl rfl (K.assign rfl) ?_
        refine KT.nil ?_
        refine thenK_n ?_
        refine KC.ret ?_
        refine blockK_r ?_
        refine thenK_r ?_
        refine thenK_r ?_
        refine blockK_r ?_
        refine thenK_r ?_
        refine ⟨.inl rfl, _, rfl, fin_b (any_true (i := i) (by simp; omega) ?_)⟩
        rw [List.getElem_range, touchQ, tk_get hil]
        simp_all
      · skip
        rw [bitOne] at hc22
        refine KC.skip ?_
        refine blockK_n ?_
        refine thenK_n ?_
        refine KC.region ?_
        refine KT.step rfl rfl (K.add rfl rfl (wrap_id (by omega))) ?_
        refine KT.step rfl rfl (K.move rfl) ?_
        refine KT.nil ?_
        refine thenK_n ?_
        refine ⟨i + 1, ⟨by omega, ?_⟩, by omega, rfl, by simp [Go.Vm.look, extK]⟩
        rw [any_take _ (by simp; omega), hall, List.getElem_range, touchQ, tk_get hil, hb16, hc22]
        rfl
    · skip
      refine KT.skip rfl rfl ?_
      refine KT.skip rfl rfl ?_
      refine KT.skip rfl rfl ?_
      refine KT.skip rfl rfl ?_
      refine KT.skip rfl rfl ?_
      refine KT.step rfl rfl (K.pick rfl (fun h => by cases h) (fun _ => rfl)) ?_
      refine KT.nil ?_
      refine thenK_n ?_
      refine KC.cond rfl (fun hc22 => ?_) (fun hc22 => ?_)
      · cases hc22
      · skip
        refine KC.skip ?_
        refine blockK_n ?_
        refine thenK_n ?_
        refine KC.region ?_
        refine KT.step rfl rfl (K.add rfl rfl (wrap_id (by omega))) ?_
        refine KT.step rfl rfl (K.move rfl) ?_
        refine KT.nil ?_
        refine thenK_n ?_
        refine ⟨i + 1, ⟨by omega, ?_⟩, by omega, rfl, by simp [Go.Vm.look, extK]⟩
        rw [any_take _ (by simp; omega), hall, List.getElem_range, touchQ, tk_get hil, hb16]
        rfl
  · skip
    replace hc10 := of_decide_eq_false hc10
    refine KC.exit ?_
    refine thenK_x ?_
    refine thenK_x ?_
    refine blockK_e ?_
    refine thenK_n ?_
    refine KC.seq ?_
    refine KC.region ?_
    refine KT.step rfl rfl (K.assign rfl) ?_
    refine KT.nil ?_
    refine thenK_n ?_
    refine KC.ret ?_
    exact ⟨.inl rfl, _, rfl, fin_b (any_end (i := i) (by simp; omega) hall)⟩

/-- A marking, and how often each transition has fired. -/
structure PSt where
  m : List Int
  cnt : Nat → Int
def fireL (q p m : List Int) : List Int := (List.range m.length).map (fireW (tk p) (tk q) (tk m))
def stepS (pre post : List (List Int)) (s : PSt) (t : Nat) : PSt :=
  if withinB (pre.getD t []) s.m then ⟨fireL (pre.getD t []) (post.getD t []) s.m, fun k => if k = t then s.cnt k + 1 else s.cnt k⟩ else s
def runS (pre post : List (List Int)) : List Int → Nat → PSt → PSt
  | [], _, s => s
  | t :: ts, i, s => if 60 < i ∨ t < 0 ∨ (pre.length : Int) ≤ t then s else runS pre post ts (i + 1) (stepS pre post s t.toNat)
theorem runS_drop {pre post : List (List Int)} {w : List Int} {i : Nat} {s : PSt} (hi : i < w.length) : runS pre post (w.drop i) i s = if 60 < i ∨ w[i] < 0 ∨ (pre.length : Int) ≤ w[i] then s else runS pre post (w.drop (i + 1)) (i + 1) (stepS pre post s w[i].toNat) := by
  rw [List.drop_eq_getElem_cons hi]; rfl
theorem fireL_len (q p m : List Int) : (fireL q p m).length = m.length := by simp [fireL]
theorem fireL_tk {q p m : List Int} (hq : q.length = m.length) (hp : p.length = m.length) (k : Nat) : tk (fireL q p m) k = fireW (tk p) (tk q) (tk m) k := by
  by_cases hk : k < m.length
  · rw [tk_get (by rw [fireL_len]; exact hk)]; simp [fireL]
  · have e1 : tk m k = 0 := by simp [tk, hk]
    have e2 : tk p k = 0 := by simp [tk, hp, hk]
    have e3 : tk q k = 0 := by simp [tk, hq, hk]
    have e4 : tk (fireL q p m) k = 0 := by simp [tk, fireL_len, hk]
    rw [e4]; unfold fireW; rw [e1, e2, e3]; simp
def cntX (n : Nat) (f : Nat → Int) : List XV := (List.range n).map fun k => .d (DI (f k))
def cntD (n : Nat) (f : Nat → Int) : DV := .sl ((List.range n).map fun k => DI (f k)) n (some n)
theorem cntX_len (n : Nat) (f : Nat → Int) : (cntX n f).length = n := by simp [cntX]
theorem cntX_get {n : Nat} (f : Nat → Int) {i : Nat} (hi : i < n) : (cntX n f)[0 + i]? = some (.d (DI (f i))) := by rw [Nat.zero_add]; simp [cntX, hi]
theorem cntX_set {n : Nat} (f : Nat → Int) {i : Nat} (hi : i < n) : (cntX n f).set (0 + i) (.d (DI (f i + 1))) = cntX n (fun k => if k = i then f k + 1 else f k) := by
  rw [Nat.zero_add]
  refine List.ext_getElem? fun k => ?_
  rw [List.getElem?_set]
  by_cases hk : k < n
  · by_cases e : i = k
    · subst e; simp [cntX, hk]
    · rw [if_neg e]
      simp only [cntX, List.getElem?_map, List.getElem?_range hk, Option.map_some, Option.some.injEq, XV.d.injEq]
      rw [if_neg (fun h => e h.symm)]
  · rw [if_neg (by omega), List.getElem?_eq_none (by simp [cntX]; omega), List.getElem?_eq_none (by simp [cntX]; omega)]
theorem cntX_zero (n : Nat) : List.replicate n (.d (.lit (.int .i64 0))) = cntX n fun _ => 0 := by
  refine List.ext_getElem? fun k => ?_
  by_cases hk : k < n
  · simp [cntX, hk]
  · rw [List.getElem?_eq_none (by simp; omega), List.getElem?_eq_none (by simp [cntX]; omega)]
/-- The list as a deep value. -/
abbrev mD (m : List Int) : DV := slOf (m.map DI)
theorem mD_ints (m : List Int) : Ints (mD m) m := by
  cases m with
  | nil => exact .nil
  | cons a l =>
    have : Ints (.sl ((a :: l).map DI) (a :: l).length none) (a :: l) := .sl (by simp) fun i c x hc hx => by
      rw [List.getElem?_map, hx] at hc
      simp at hc; exact hc.symm
    have e : (a :: l).length = ((a :: l).map DI).length := by simp
    rw [e] at this
    exact this
theorem list8_mD {d : DV} {l : List Int} (hd : Ints d l) (h : l.length ≤ 8) : list8 l d = mD l ∨ l = [] := by
  cases hd with
  | nil => exact .inr rfl
  | @sl cs _ cap hn hx =>
    have e := ints_cells hn hx
    subst e
    cases l with
    | nil => exact .inr rfl
    | cons a l =>
      left
      have e2 : min (a :: l).length 8 = (a :: l).length := by omega
      unfold list8
      rw [e2]
      simp [takeV, cloneD, slOf]
      rw [List.take_of_length_le (by simp), List.take_of_length_le (by simp)]
theorem numD_fire (q p m : List Int) : numD m.length (fireW (tk p) (tk q) (tk m)) = mD (fireL q p m) := by
  unfold numD mD fireL
  rw [List.map_map]; rfl
/-- While a word is played. -/
structure PlayI (pre post : List (List Int)) (n : Nat) (fin : PSt) (w : List Int) (s : PSt) (i : Nat) : Prop where
  le : i ≤ w.length
  le2 : i ≤ 61
  len : s.m.length = n
  bd : ∀ p, 0 ≤ tk s.m p ∧ tk s.m p ≤ 5 + 3 * i
  cb : ∀ k, 0 ≤ s.cnt k ∧ s.cnt k ≤ i
  fin : runS pre post (w.drop i) i s = fin
theorem markB_of {m : List Int} {n : Nat} {b : Int} (hl : m.length = n) (hb : ∀ p, 0 ≤ tk m p ∧ tk m p ≤ b) (h : b ≤ 1073741824) : markB m n = true := by
  unfold markB
  rw [Bool.and_eq_true, decide_eq_true_eq, List.all_eq_true]
  refine ⟨hl, fun x hx => ?_⟩
  obtain ⟨i, hi, rfl⟩ := List.getElem_of_mem hx
  have := hb i
  rw [tk_get hi] at this
  simp [markI]; omega
theorem PlayI.fire {pre post : List (List Int)} {n : Nat} {fin : PSt} {w : List Int} {s : PSt} {i t : Nat} (h : PlayI pre post n fin w s i) (hi : i < w.length) (h60 : i ≤ 60) (ht : w[i] = (t : Int)) (htp : t < pre.length) (htq : t < post.length)
    (hq : pre[t].length = n) (hp : post[t].length = n) (hp3 : ∀ k, 0 ≤ tk post[t] k ∧ tk post[t] k ≤ 3) (hq3 : ∀ k, 0 ≤ tk pre[t] k) : PlayI pre post n fin w (stepS pre post s t) (i + 1) := by
  have hrun := h.fin
  rw [runS_drop hi, if_neg (by omega), ht, Int.toNat_natCast] at hrun
  have e1 : pre.getD t [] = pre[t] := by simp [htp]
  have e2 : post.getD t [] = post[t] := by simp [htq]
  unfold stepS at hrun ⊢
  rw [e1, e2] at hrun ⊢
  by_cases hw : withinB pre[t] s.m = true
  · rw [if_pos hw] at hrun ⊢
    have hwi := (within_iff (by rw [hq, h.len])).1 hw
    refine ⟨by omega, by omega, by simp only [fireL_len]; exact h.len, fun p => ?_, fun k => ?_, hrun⟩
    · simp only
      rw [fireL_tk (by rw [hq, h.len]) (by rw [hp, h.len])]
      have b1 := h.bd p
      have b2 := hp3 p
      have b3 := hq3 p
      have b4 := hwi p
      unfold fireW
      rw [if_pos (by omega)]
      omega
    · simp only
      have := h.cb k
      split <;> omega
  · rw [if_neg hw] at hrun ⊢
    exact ⟨by omega, by omega, h.len, fun p => by have := h.bd p; omega, fun k => by have := h.cb k; omega, hrun⟩
set_option maxRecDepth 10000 in
theorem played51 {a b c d : DV} {pre post : List (List Int)} {start w : List Int} (h : NetD a b c pre post start) (hv : validB pre post start = true) (hd : Ints d w) (hw : w.length ≤ 9223372036854775807) :
    DeepCall Try.prog 51 [.agg [a, b, c], d] (.tup [mD (runS pre post w 0 ⟨start, fun _ => 0⟩).m, cntD pre.length (runS pre post w 0 ⟨start, fun _ => 0⟩).cnt, DB true]) := by
  have hN := h.cp
  obtain ⟨e1, e2, e3⟩ := valid_cp (.inl hv)
  rw [e1, e2, e3] at hN
  obtain ⟨ha, hb, hc, l1, l2, l3, r1, r2⟩ := h
  have h := hN
  obtain ⟨v1, v2, v3, v4, v5, v6, v7, v8⟩ := validB_iff.1 hv
  have hl8 : list8 start c = mD start := (list8_mD hc (by omega)).resolve_right (fun e => by rw [e] at v1; simp at v1)
  have rp : ∀ r ∈ pre, r.length = start.length := fun r hr => fitsB_len (allB_mem v7 r hr)
  have rq : ∀ r ∈ post, r.length = start.length := fun r hr => fitsB_len (allB_mem v8 r hr)
  have b5 := tk_bd (l := start) (by decide) (fitsB_mem v3)
  have cl := list17 hc
  rw [hl8] at cl
  generalize hF : runS pre post w 0 ⟨start, fun _ => 0⟩ = fin
  refine deepCall_K 5 Try.func51 rfl (Nat.le_of_ble_eq_true rfl) fun M W0 => ?_
  refine KC.seq ?_
  refine KC.region ?_
  refine KT.step rfl rfl (K.box rfl) ?_
  refine KT.step rfl rfl (K.assign rfl) ?_
  refine KT.step rfl rfl (K.assign rfl) ?_
  refine KT.step rfl rfl (K.assign rfl) ?_
  refine KT.nil ?_
  refine thenK_n ?_
  refine KC.seq ?_
  refine KC.region ?_
  refine KT.step rfl rfl (K.fieldAddrO rfl Try.fld25_2 Try.size23) ?_
  refine KT.step rfl rfl (K.loadO rfl rfl (by simp) rfl Try.agg23) ?_
  refine KT.step rfl rfl (K.call1 rfl plainTry_17 (cl)) ?_
  refine KT.step rfl rfl (K.assign rfl) ?_
  refine KT.nil ?_
  refine thenK_n ?_
  refine KC.seq ?_
  refine KC.region ?_
  refine KT.step rfl rfl (K.fieldAddrO rfl Try.fld25_0 Try.size22) ?_
  refine KT.step rfl rfl (K.loadO rfl rfl (by simp) rfl Try.agg22) ?_
  refine KT.step rfl rfl (K.len rfl (by assumption) Try.underlying22) ?_
  refine KT.step rfl rfl (K.make rfl rfl (Nat.le_refl _) (by omega) Try.underlying23 Try.one3) ?_
  rw [cntX_zero]
  refine KT.step rfl rfl (K.assign rfl) ?_
  refine KT.nil ?_
  refine thenK_n ?_
  refine KC.seq ?_
  refine KC.seq ?_
  refine KC.region ?_
  refine KT.step rfl rfl (K.move rfl) ?_
  refine KT.step rfl rfl (K.len rfl (by assumption) Try.underlying23) ?_
  refine KT.step rfl rfl (K.move rfl) ?_
  refine KT.nil ?_
  refine thenK_n ?_
  refine KC.block ?_
  refine KC.loop (fun p : PSt × Nat => [⟨[.d a, .d b, .d c], 0⟩, ⟨cntX pre.length p.1.cnt, 0⟩]) (fun p => [(2, .optr 0 0), (7, .d (mD p.1.m)), (8, .osl 1 0 pre.length 1 pre.length true), (20, .d d), (21, .d (DI w.length)), (22, .d (DI p.2))]) (fun p => PlayI pre post start.length fin w p.1 p.2) (fun p => w.length - p.2) (⟨start, fun _ => 0⟩, 0) ⟨Nat.zero_le _, Nat.zero_le _, rfl, fun p => by have := b5 p; simp only; omega, fun k => by simp, hF⟩ rfl (by simp [Go.Vm.look, extK, enterK]) ?_
  intro p hp
  obtain ⟨s, i⟩ := p
  simp only at hp ⊢
  refine KC.seq ?_
  refine KC.region ?_
  refine KT.step rfl rfl (K.lss rfl rfl) ?_
  refine KT.nil ?_
  refine thenK_n ?_
  refine KC.seq ?_
  refine KC.cond rfl (fun hc23 => ?_) (fun hc23 => ?_)
  · skip
    replace hc23 := of_decide_eq_true hc23
    have hil : i < w.length := by omega
    have hle := hp.le2
    refine KC.skip ?_
    refine thenK_n ?_
    refine KC.seq ?_
    refine KC.block ?_
    refine KC.seq ?_
    refine KC.region ?_
    refine KT.step rfl rfl (K.move rfl) ?_
    refine KT.idxI rfl rfl rfl (by assumption) rfl (by omega) Try.underlying23 Try.size3 fun cs25 => ?_
    refine KT.step rfl rfl (K.load rfl Try.agg3) ?_
    refine KT.step rfl rfl (K.assign rfl) ?_
    refine KT.step rfl rfl (K.assign rfl) ?_
    refine KT.nil ?_
    refine thenK_n ?_
    refine KC.seq ?_
    refine KC.seq ?_
    refine KC.region ?_
    refine KT.step rfl rfl (K.move rfl) ?_
    refine KT.step rfl rfl (K.gtr rfl rfl) ?_
    refine KT.step rfl rfl (K.move rfl) ?_
    refine KT.bcase (fun hb29 => ?_) (fun hb29 => ?_)
    · skip
      replace hb29 := of_decide_eq_true hb29
      refine KT.skip rfl rfl ?_
      refine KT.skip rfl rfl ?_
      refine KT.step rfl rfl (K.pick rfl (fun _ => rfl) (fun h => by cases h)) ?_
      refine KT.step rfl rfl (K.move rfl) ?_
      refine KT.skip rfl rfl ?_
      refine KT.skip rfl rfl ?_
      refine KT.skip rfl rfl ?_
      refine KT.skip rfl rfl ?_
      refine KT.skip rfl rfl ?_
      refine KT.step rfl rfl (K.pick rfl (fun _ => rfl) (fun h => by cases h)) ?_
      refine KT.nil ?_
      refine thenK_n ?_
      refine KC.cond rfl (fun hc39 => ?_) (fun hc39 => ?_)
      · skip
        refine KC.exit ?_
        refine thenK_x ?_
        refine blockK_x (by decide) ?_
        refine thenK_x ?_
        refine thenK_x ?_
        refine blockK_e ?_
        refine thenK_n ?_
        refine KC.seq ?_
        refine KC.region ?_
        refine KT.step rfl rfl (K.move rfl) ?_
        refine KT.step rfl rfl (K.move rfl) ?_
        refine KT.step rfl rfl (K.assign rfl) ?_
        refine KT.step rfl rfl (K.assign rfl) ?_
        refine KT.step rfl rfl (K.assign rfl) ?_
        refine KT.nil ?_
        refine thenK_n ?_
        refine KC.ret ?_
        have hfin : s = fin := by
          rw [← hp.fin]
          rw [runS_drop hil, if_pos (by omega)]
        subst hfin
        refine ⟨.inl rfl, _, rfl, ?_⟩
        rw [deepen_tup, List.mapM_cons, List.mapM_cons, deepen_osl (ob := ⟨cntX pre.length s.cnt, 1⟩) rfl rfl (by simp [cntX]), List.drop_zero, List.take_of_length_le (by simp [cntX])]
        have e0 : cntX pre.length s.cnt = ((List.range pre.length).map fun k => DI (s.cnt k)).map XV.d := by simp [cntX]
        rw [e0, mapM_deep]
        rfl
      · cases hc39
    · skip
      replace hb29 := of_decide_eq_false hb29
      refine KT.step rfl rfl (K.move rfl) ?_
      refine KT.step rfl rfl (K.lss rfl rfl) ?_
      refine KT.step rfl rfl (K.pick rfl (fun h => by cases h) (fun _ => rfl)) ?_
      refine KT.step rfl rfl (K.move rfl) ?_
      refine KT.bcase (fun hb33 => ?_) (fun hb33 => ?_)
      · skip
        replace hb33 := of_decide_eq_true hb33
        refine KT.skip rfl rfl ?_
        refine KT.skip rfl rfl ?_
        refine KT.skip rfl rfl ?_
        refine KT.skip rfl rfl ?_
        refine KT.skip rfl rfl ?_
        refine KT.step rfl rfl (K.pick rfl (fun _ => rfl) (fun h => by cases h)) ?_
        refine KT.nil ?_
        refine thenK_n ?_
        refine KC.cond rfl (fun hc39 => ?_) (fun hc39 => ?_)
        · skip
          refine KC.exit ?_
          refine thenK_x ?_
          refine blockK_x (by decide) ?_
          refine thenK_x ?_
          refine thenK_x ?_
          refine blockK_e ?_
          refine thenK_n ?_
          refine KC.seq ?_
          refine KC.region ?_
          refine KT.step rfl rfl (K.move rfl) ?_
          refine KT.step rfl rfl (K.move rfl) ?_
          refine KT.step rfl rfl (K.assign rfl) ?_
          refine KT.step rfl rfl (K.assign rfl) ?_
          refine KT.step rfl rfl (K.assign rfl) ?_
          refine KT.nil ?_
          refine thenK_n ?_
          refine KC.ret ?_
          have hfin : s = fin := by
            rw [← hp.fin]
            rw [runS_drop hil, if_pos (by omega)]
          subst hfin
          refine ⟨.inl rfl, _, rfl, ?_⟩
          rw [deepen_tup, List.mapM_cons, List.mapM_cons, deepen_osl (ob := ⟨cntX pre.length s.cnt, 1⟩) rfl rfl (by simp [cntX]), List.drop_zero, List.take_of_length_le (by simp [cntX])]
          have e0 : cntX pre.length s.cnt = ((List.range pre.length).map fun k => DI (s.cnt k)).map XV.d := by simp [cntX]
          rw [e0, mapM_deep]
          rfl
        · cases hc39
      · skip
        replace hb33 := of_decide_eq_false hb33
        refine KT.step rfl rfl (K.move rfl) ?_
        refine KT.step rfl rfl (K.fieldAddrO rfl Try.fld25_0 Try.size22) ?_
        refine KT.step rfl rfl (K.loadO rfl rfl (by simp) rfl Try.agg22) ?_
        refine KT.step rfl rfl (K.len rfl (by assumption) Try.underlying22) ?_
        refine KT.step rfl rfl (K.geq rfl rfl) ?_
        refine KT.step rfl rfl (K.pick rfl (fun h => by cases h) (fun _ => rfl)) ?_
        refine KT.nil ?_
        refine thenK_n ?_
        refine KC.cond rfl (fun hc39 => ?_) (fun hc39 => ?_)
        · skip
          replace hc39 := of_decide_eq_true hc39
          refine KC.exit ?_
          refine thenK_x ?_
          refine blockK_x (by decide) ?_
          refine thenK_x ?_
          refine thenK_x ?_
          refine blockK_e ?_
          refine thenK_n ?_
          refine KC.seq ?_
          refine KC.region ?_
          refine KT.step rfl rfl (K.move rfl) ?_
          refine KT.step rfl rfl (K.move rfl) ?_
          refine KT.step rfl rfl (K.assign rfl) ?_
          refine KT.step rfl rfl (K.assign rfl) ?_
          refine KT.step rfl rfl (K.assign rfl) ?_
          refine KT.nil ?_
          refine thenK_n ?_
          refine KC.ret ?_
          have hfin : s = fin := by
            rw [← hp.fin]
            rw [runS_drop hil, if_pos (by omega)]
          subst hfin
          refine ⟨.inl rfl, _, rfl, ?_⟩
          rw [deepen_tup, List.mapM_cons, List.mapM_cons, deepen_osl (ob := ⟨cntX pre.length s.cnt, 1⟩) rfl rfl (by simp [cntX]), List.drop_zero, List.take_of_length_le (by simp [cntX])]
          have e0 : cntX pre.length s.cnt = ((List.range pre.length).map fun k => DI (s.cnt k)).map XV.d := by simp [cntX]
          rw [e0, mapM_deep]
          rfl
        · skip
          replace hc39 := of_decide_eq_false hc39
          obtain ⟨t, htw⟩ := Int.eq_ofNat_of_zero_le (show 0 ≤ w[i] by omega)
          have ht : t < pre.length := by omega
          have ht2 : t < post.length := by omega
          have hl1 := rp _ (List.getElem_mem ht)
          have hl2 := rq _ (List.getElem_mem ht2)
          have hnext := hp.fire hil (by omega) htw ht ht2 hl1 hl2 ((small_of v8).bd t ht2) (fun k => ((small_of v7).bd t ht k).1)
          have hmk : markB s.m start.length = true := markB_of hp.len hp.bd (by omega)
          have cf := fire15 hN (mD_ints s.m) (t := w[i]) (by rw [hp.len]; omega)
          have hfd := fireD_ok hv hmk ht ht2
          rw [htw, hfd] at cf
          have g1 : pre.getD t [] = pre[t] := by simp [ht]
          have g2 : post.getD t [] = post[t] := by simp [ht2]
          obtain ⟨r, e, hse, hre⟩ : ∃ (r : DV) (e : Int), (if withinB pre[t] s.m then DV.tup [numD start.length (fireW (tk post[t]) (tk pre[t]) (tk s.m)), DI 0] else .tup [Dnil, DI 5]) = .tup [r, DI e] ∧ ((withinB pre[t] s.m = true ∧ r = mD (fireL pre[t] post[t] s.m) ∧ e = 0) ∨ (withinB pre[t] s.m = false ∧ e = 5)) := by
            cases hwb : withinB pre[t] s.m with
            | true => exact ⟨_, _, rfl, .inl ⟨rfl, by rw [← hp.len, numD_fire], rfl⟩⟩
            | false => exact ⟨_, _, rfl, .inr ⟨rfl, rfl⟩⟩
          rw [hse] at cf
          rw [htw]
          refine KC.skip ?_
          refine thenK_n ?_
          refine KC.seq ?_
          refine KC.region ?_
          refine KT.step rfl rfl (K.loadOAgg (m := 3) rfl rfl (by simp) Try.agg25 Try.size25 (by simp [cellsX])) ?_
          refine KT.step rfl rfl (K.call1 rfl plainTry_16 (of16 (⟨ha, hb, hc, l1, l2, l3, r1, r2⟩ : NetD a b c pre post start))) ?_
          refine KT.step rfl rfl (K.move rfl) ?_
          refine KT.step rfl rfl (K.move rfl) ?_
          refine KT.step rfl rfl (K.call3 rfl rfl rfl plainTry_15 (cf)) ?_
          refine KT.step rfl rfl (K.move rfl) ?_
          refine KT.step rfl rfl (K.extract rfl rfl) ?_
          refine KT.step rfl rfl (K.extract rfl rfl) ?_
          refine KT.step rfl rfl (K.assign rfl) ?_
          refine KT.step rfl rfl (K.assign rfl) ?_
          refine KT.nil ?_
          refine thenK_n ?_
          refine KC.seq ?_
          refine KC.seq ?_
          refine KC.region ?_
          refine KT.step rfl rfl (K.move rfl) ?_
          refine KT.step rfl rfl (K.eql rfl rfl) ?_
          refine KT.nil ?_
          refine thenK_n ?_
          refine KC.cond rfl (fun hc49 => ?_) (fun hc49 => ?_)
          · skip
            replace hc49 := of_decide_eq_true hc49
            have hstep : stepS pre post s t = s := by
              unfold stepS
              rw [g1]
              rcases hre with ⟨_, _, h0⟩ | ⟨h0, _⟩
              · omega
              · rw [if_neg (by simp [h0])]
            refine KC.exit ?_
            refine thenK_x ?_
            refine blockK_e ?_
            refine thenK_n ?_
            refine KC.region ?_
            refine KT.step rfl rfl (K.add rfl rfl (wrap_id (by omega))) ?_
            refine KT.step rfl rfl (K.move rfl) ?_
            refine KT.nil ?_
            refine thenK_n ?_
            refine ⟨(stepS pre post s t, i + 1), hnext, by simp only; omega, ?_, ?_⟩
            · rw [hstep]
            · rw [hstep]; simp [Go.Vm.look, extK]
          · skip
            replace hc49 := of_decide_eq_false hc49
            obtain ⟨hwb, rfl, rfl⟩ : withinB pre[t] s.m = true ∧ r = mD (fireL pre[t] post[t] s.m) ∧ e = 0 := by
              rcases hre with h0 | ⟨_, h0⟩
              · exact h0
              · omega
            have hstep : stepS pre post s t = ⟨fireL pre[t] post[t] s.m, fun k => if k = t then s.cnt k + 1 else s.cnt k⟩ := by
              unfold stepS
              rw [g1, g2, if_pos hwb]
            have hcb := hp.cb t
            refine KC.skip ?_
            refine thenK_n ?_
            refine KC.seq ?_
            refine KC.seq ?_
            refine KC.region ?_
            refine KT.step rfl rfl (K.move rfl) ?_
            refine KT.step rfl rfl (K.neq rfl rfl) ?_
            refine KT.step rfl rfl (K.move rfl) ?_
            refine KT.bcase (fun hb52 => ?_) (fun hb52 => ?_)
            · skip
              simp at hb52
            · skip
              refine KT.step rfl rfl (K.move rfl) ?_
              refine KT.step rfl rfl (K.len rfl (mD_ints (fireL pre[t] post[t] s.m)) Try.underlying26) ?_
              refine KT.step rfl rfl (K.move rfl) ?_
              refine KT.step rfl rfl (K.len rfl (mD_ints s.m) Try.underlying26) ?_
              refine KT.step rfl rfl (K.neq rfl rfl) ?_
              refine KT.step rfl rfl (K.pick rfl (fun h => by cases h) (fun _ => rfl)) ?_
              refine KT.nil ?_
              refine thenK_n ?_
              refine KC.cond rfl (fun hc58 => ?_) (fun hc58 => ?_)
              · skip
                simp [fireL_len] at hc58
              · skip
                refine KC.skip ?_
                refine thenK_n ?_
                refine KC.seq ?_
                refine KC.region ?_
                refine KT.step rfl rfl (K.move rfl) ?_
                refine KT.step rfl rfl (K.assign rfl) ?_
                refine KT.nil ?_
                refine thenK_n ?_
                refine KC.region ?_
                refine KT.step rfl rfl (K.move rfl) ?_
                refine KT.step rfl rfl (K.move rfl) ?_
                refine KT.step rfl rfl (K.idxO rfl rfl (by omega) Try.underlying23 Try.size3) ?_
                refine KT.step rfl rfl (K.loadO (y := .d (DI (s.cnt t))) rfl rfl (by simp) (cntX_get _ ht) Try.agg3) ?_
                refine KT.step rfl rfl (K.add rfl rfl (wrap_id (by omega))) ?_
                refine KT.step rfl rfl (K.idxO rfl rfl (by omega) Try.underlying23 Try.size3) ?_
                refine KT.step rfl rfl (K.storeO rfl rfl rfl (by rw [cntX_len]; omega) rfl rfl Try.size3) ?_
                refine KT.nil ?_
                refine blockK_n ?_
                refine thenK_n ?_
                refine KC.region ?_
                refine KT.step rfl rfl (K.add rfl rfl (wrap_id (by omega))) ?_
                refine KT.step rfl rfl (K.move rfl) ?_
                refine KT.nil ?_
                refine thenK_n ?_
                refine ⟨(stepS pre post s t, i + 1), hnext, by simp only; omega, ?_, ?_⟩
                · rw [hstep]
                  simp only
                  rw [← cntX_set _ ht]
                  rfl
                · rw [hstep]; simp [Go.Vm.look, extK]
  · skip
    replace hc23 := of_decide_eq_false hc23
    refine KC.exit ?_
    refine thenK_x ?_
    refine thenK_x ?_
    refine blockK_e ?_
    refine thenK_n ?_
    refine KC.seq ?_
    refine KC.region ?_
    refine KT.step rfl rfl (K.move rfl) ?_
    refine KT.step rfl rfl (K.move rfl) ?_
    refine KT.step rfl rfl (K.assign rfl) ?_
    refine KT.step rfl rfl (K.assign rfl) ?_
    refine KT.step rfl rfl (K.assign rfl) ?_
    refine KT.nil ?_
    refine thenK_n ?_
    refine KC.ret ?_
    have hfin : s = fin := by
      rw [← hp.fin]
      rw [List.drop_eq_nil_of_le (by omega)]; rfl
    subst hfin
    refine ⟨.inl rfl, _, rfl, ?_⟩
    rw [deepen_tup, List.mapM_cons, List.mapM_cons, deepen_osl (ob := ⟨cntX pre.length s.cnt, 1⟩) rfl rfl (by simp [cntX]), List.drop_zero, List.take_of_length_le (by simp [cntX])]
    have e0 : cntX pre.length s.cnt = ((List.range pre.length).map fun k => DI (s.cnt k)).map XV.d := by simp [cntX]
    rw [e0, mapM_deep]
    rfl
end Go.Proofs.Ytnhcippeejldiaa
