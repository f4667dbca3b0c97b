import Derived.Test.YtdilkpcnkhedlaaBbB
/-
  Batch: the reference: all orders of the machines.
-/
namespace Go.Proofs.Ytdilkpcnkhedlaa
open Go.Vm Go.Ht Go.Ba
theorem plainTry_55 : plainFn Try.prog 55 = true := by kernel_rfl
theorem Try.mixed5 : Try.prog.follows .mixedOrders = true := by kernel_rfl
theorem Try.agg95 : isAggT Try.prog 95 = some false := by kernel_rfl
theorem Try.size95 : sizeT Try.prog 95 = some 1 := by kernel_rfl
theorem Try.one95 : OneT Try.prog 95 (.slice none 0 0) := ⟨by kernel_rfl, by kernel_rfl, rfl, of_decide_eq_true (by kernel_rfl)⟩
/-- A row of an order, and an order, as they are made. -/
def pv1 (q : List Int) : DV := match q with | [] => Dnil | x :: q => rowPV (x :: q)
theorem pv1_sld (q : List Int) : SlD (pv1 q) := by cases q with | nil => exact .nil | cons x q => exact .sl _ _ _
theorem pv1_ok (q : List Int) : Ints (pv1 q) q := by cases q with | nil => exact .nil | cons x q => exact rowPV_ok _
def ordPV (l : List (List Int)) : DV := match l with | [] => Dnil | x :: l => .sl ((x :: l).map pv1) (x :: l).length (if (x :: l).length ≤ 1 then some (x :: l).length else none)
theorem ordPV_mat (l : List (List Int)) : Mat (ordPV l) l := by
  cases l with
  | nil => exact .nil
  | cons x l => exact .sl (by simp) fun i c y hc hy => (by
      rw [List.getElem?_map, hy] at hc; cases hc; exact pv1_ok y)
theorem ordPV_slc (l : List (List Int)) : SlC (ordPV l) (l.map pv1) := by
  cases l with
  | nil => exact .inl ⟨rfl, rfl⟩
  | cons x l =>
    refine .inr ⟨if (x :: l).length ≤ 1 then some (x :: l).length else none, ?_⟩
    simp [ordPV]
theorem pv1_one (l : List (List Int)) : ((l.map pv1).map XV.d).all oneX = true := by
  rw [List.all_eq_true]
  intro x hx
  obtain ⟨d, hd, rfl⟩ := List.mem_map.1 hx
  obtain ⟨q, _, rfl⟩ := List.mem_map.1 hd
  exact (pv1_sld q).one
theorem ord_eq (p : List Int) (l : List (List Int)) : DV.sl (pv1 p :: l.map pv1) (1 + (l.map pv1).length) (if (true && (l.map pv1).isEmpty) = true then some (1 + (l.map pv1).length) else none) = ordPV (p :: l) := by
  unfold ordPV
  cases l with
  | nil => rfl
  | cons y l =>
    have e : 1 + ((y :: l).map pv1).length = (p :: y :: l).length := by simp; omega
    rw [e, if_neg (by simp)]
    show _ = DV.sl ((p :: y :: l).map pv1) (p :: y :: l).length (if (p :: y :: l).length ≤ 1 then some (p :: y :: l).length else none)
    rw [if_neg (by simp)]; rfl
def ordsV (ops : List (Int × Int)) (k m : Nat) : DV := if k = 0 then .sl [Dnil] 1 (some 1) else .sl ((ordersN ops k m).map ordPV) (ordersN ops k m).length none
theorem ords_vec (ops : List (Int × Int)) (k m : Nat) : Vec Mat (ordsV ops k m) (ordersN ops k m) := by
  unfold ordsV
  split
  · rename_i h
    subst h
    exact (Vec.sl (l := [[]]) (cap := some 1) rfl fun i c x hc hx => by
      match i with
      | 0 => cases hc; cases hx; exact .nil
      | i + 1 => simp at hx)
  · exact .sl (by simp) fun i c x hc hx => (by
      rw [List.getElem?_map, hx] at hc; cases hc; exact ordPV_mat x)
theorem getV_perm {l : List Int} {k : Nat} (h : k < (permsO l).length) : getV (permV l) k = pv1 (permsO l)[k] := by
  unfold permV
  split
  · rename_i h0
    have : l = [] := List.length_eq_zero_iff.1 h0
    subst this
    have e : permsO [] = [[]] := rfl
    have hk : k = 0 := by rw [e] at h; simp at h; exact h
    subst hk; rfl
  · rename_i h0
    have hl := (mem_permsO.1 (List.getElem_mem h)).length_eq
    unfold getV
    simp only [List.getElem_map, List.length_map, h, dif_pos, List.getD_eq_getElem?_getD, List.getElem?_map, List.getElem?_eq_getElem h, Option.map_some, Option.getD_some]
    cases hq : (permsO l)[k] with
    | nil => rw [hq] at hl; simp at hl; omega
    | cons x q => rfl
theorem getV_ords {ops : List (Int × Int)} {k m i : Nat} (h : i < (ordersN ops k m).length) : getV (ordsV ops k m) i = ordPV (ordersN ops k m)[i] := by
  unfold ordsV
  split
  · rename_i h0
    subst h0
    have hk : i = 0 := by simp [ordersN] at h; exact h
    subst hk; rfl
  · unfold getV
    simp only [List.getElem_map, List.length_map, h, dif_pos, List.getD_eq_getElem?_getD, List.getElem?_map, List.getElem?_eq_getElem h, Option.map_some, Option.getD_some]
def ordsT (ops : List (Int × Int)) (m : Nat) (R : List (List (List Int))) : List (List (List Int)) := R.flatMap fun rest => (permsO (rowI ops (m : Int))).map fun p => p :: rest
theorem ordsT_succ {ops : List (Int × Int)} {m i : Nat} {R : List (List (List Int))} (h : i < R.length) : ordsT ops m (R.take (i + 1)) = ordsT ops m (R.take i) ++ (permsO (rowI ops (m : Int))).map fun p => p :: R[i] := by
  unfold ordsT; rw [List.take_succ_eq_append_getElem h, List.flatMap_append]; simp
theorem perm_ne (l : List Int) : permsO l ≠ [] := fun e => by
  have := mem_permsO.2 (List.Perm.refl l)
  rw [e] at this; simp at this
theorem ords_ne {ops : List (Int × Int)} : ∀ (k m : Nat), ordersN ops k m ≠ []
  | 0, _ => by simp [ordersN]
  | k + 1, m => by
    unfold ordersN
    obtain ⟨r, hr⟩ := List.exists_mem_of_ne_nil _ (ords_ne (ops := ops) k (m + 1))
    obtain ⟨p, hp⟩ := List.exists_mem_of_ne_nil _ (perm_ne (rowI ops (m : Int)))
    exact List.ne_nil_of_mem (List.mem_flatMap.2 ⟨r, hr, List.mem_map.2 ⟨p, hp, rfl⟩⟩)
theorem ords_len {ops : List (Int × Int)} (h3 : ∀ m : Nat, (rowI ops (m : Int)).length ≤ 3) : ∀ (k m : Nat), (ordersN ops k m).length ≤ 6 ^ k
  | 0, _ => by simp [ordersN]
  | k + 1, m => by
    have ih := ords_len h3 k (m + 1)
    have hp := permsN_len _ (rowI ops (m : Int)) rfl (h3 m)
    have hp : (permsO (rowI ops (m : Int))).length ≤ 6 := hp
    have : ∀ R : List (List (List Int)), (R.flatMap fun rest => (permsO (rowI ops (m : Int))).map fun p => p :: rest).length ≤ R.length * 6 := by
      intro R
      induction R with
      | nil => simp
      | cons r R ih => rw [List.flatMap_cons, List.length_append, List.length_map, List.length_cons, Nat.add_mul]; omega
    have h2 := this (ordersN ops k (m + 1))
    unfold ordersN
    rw [Nat.pow_succ]
    exact Nat.le_trans h2 (Nat.mul_le_mul_right 6 ih)
theorem own_tell {σ : List VObj} {x : XV} {zs : List Int} (h : OwnK 1 σ x (xs zs)) (hne : zs = [] → x = .d Dnil) : ∃ ids, deepen (freezeIds σ ids) 5 x = some (intsV zs) ∧ ∀ j, idX x ≠ some j → (freezeIds σ ids)[j]? = σ[j]? := by
  cases zs with
  | nil => rw [hne rfl]; exact ⟨[], rfl, fun j _ => by rw [freezeIds_nil]⟩
  | cons a zs =>
    obtain ⟨id, rfl, hs⟩ := own_xs2 h (by simp)
    rw [xs_ints] at hs
    exact ⟨[id], dfn3 hs (by simp [ints]), fun j hj => freezeIds_not (by simp; intro e; exact hj (by rw [e]; rfl))⟩
theorem _root_.Go.Vm.KC.tellX {P : Program} {M : Nat → Prop} {W0 : World} {n : Nat} {σ : List VObj} {kn : Kn} {c : Code} {T : Exit → List VObj → Kn → Prop} {t : Nat} {x : XV} {d : DV} (ids : List Nat) (m : Nat) (hl : Go.Vm.look kn t = some x) (hd : deepen (freezeIds σ ids) m x = some d)
    (h : KC P M W0 n c (freezeIds σ ids) (extK (some t) (.d d) kn) T) : KC P M W0 n c σ kn T := by
  intro env he C ι a w hF Q hQ
  obtain ⟨f1, f2⟩ := freezeIds_tamed hF.mem ids
  refine h (putE env (some t) (.d d)) (he.ext (some t) (.d d)) C ι a w ⟨f1, fun s => ?_, hF.size, hF.defers.ext f2, fun l hl => let ⟨r, hr⟩ := hF.round l hl; f2.loops l r hr⟩ Q fun e ι' s' a' w' hT hFr hE => hQ e ι' s' a' w' hT hFr (f2.trans hE)
  have hs := (hF.env s).ext f2
  simp only [putE, upd]
  split
  · rename_i e
    subst e
    have he' : env s = x := he s x hl
    simp only [he'] at hs
    exact .d (deepen_sound f1 m _ x d hs hd)
  · exact hs
theorem ordsT_len {ops : List (Int × Int)} {m : Nat} (h3 : (rowI ops (m : Int)).length ≤ 3) {R : List (List (List Int))} : (ordsT ops m R).length ≤ R.length * 6 := by
  have hp : (permsO (rowI ops (m : Int))).length ≤ 6 := permsN_len _ (rowI ops (m : Int)) rfl h3
  unfold ordsT
  induction R with
  | nil => simp
  | cons r R ih => rw [List.flatMap_cons, List.length_append, List.length_map, List.length_cons, Nat.add_mul]; omega
theorem own_ords {σ : List VObj} {x : XV} {k : Nat} {R : List (List (List Int))} (h : OwnK 1 σ x ((R.map ordPV).map .d)) (hne : R ≠ []) : deepen (freezeAll σ) (k + 2) x = some (.sl (R.map ordPV) R.length none) := by
  generalize hc : (R.map ordPV).map XV.d = cs at h
  have hcl := congrArg List.length hc
  rw [List.length_map, List.length_map] at hcl
  cases h with
  | nil => exact absurd (List.length_eq_zero_iff.1 (by simpa using hcl)) hne
  | @sl id n cells h hn =>
    subst hc
    rw [List.length_map, List.length_map, Nat.mul_one] at hn
    subst hn
    have f2 : (freezeAll σ)[id]? = some ⟨(R.map ordPV).map .d, 1⟩ := by simp [freezeAll, h]
    rw [deepen_osl f2 rfl (by simp), List.drop_zero, Nat.mul_one, List.take_of_length_le (by simp), mapM_deep]; rfl
theorem row_3 {N : Int} {J : List (List (Int × Int))} (h : ShopOk N J) (m : Nat) : (rowI J.flatten (m : Int)).length ≤ 3 := by
  have hc : (rowI J.flatten (m : Int)).length = J.flatten.countP fun o => decide (o.1 = (m : Int)) := by
    have key : ∀ k, k ≤ J.flatten.length → (rowI (J.flatten.take k) (m : Int)).length = (J.flatten.take k).countP fun o => decide (o.1 = (m : Int)) := by
      intro k
      induction k with
      | zero => intro _; rfl
      | succ k ih =>
        intro hk
        rw [List.take_succ_eq_append_getElem hk, rowI_snoc, List.countP_append, ← ih (by omega)]
        split <;> rename_i e <;> simp [e]
    have := key _ (Nat.le_refl _)
    rwa [List.take_length] at this
  rw [hc, List.countP_flatten]
  have key : ∀ J : List (List (Int × Int)), (∀ j ∈ J, (j.map Prod.fst).Nodup) → (J.map (List.countP fun o => decide (o.1 = (m : Int)))).sum ≤ J.length := by
    intro J
    induction J with
    | nil => simp
    | cons j J ih =>
      intro hn
      have h1 := ih fun i hi => hn i (by simp [hi])
      have h2 : j.countP (fun o => decide (o.1 = (m : Int))) ≤ 1 := by
        have hj := hn j (by simp)
        clear h1 ih hn
        induction j with
        | nil => simp
        | cons o j ihj =>
          rw [List.map_cons, List.nodup_cons] at hj
          rw [List.countP_cons]
          have := ihj hj.2
          split
          · rename_i e
            have : j.countP (fun o => decide (o.1 = (m : Int))) = 0 := by
              rw [List.countP_eq_zero]
              intro q hq hqe
              refine hj.1 ?_
              rw [of_decide_eq_true e, ← of_decide_eq_true hqe]
              exact List.mem_map_of_mem hq
            omega
          · omega
      simp only [List.map_cons, List.sum_cons, List.length_cons]; omega
  have := key J fun j hj => (h.jb j hj).2.2.2
  have := h.j3
  omega
set_option maxRecDepth 10000 in
theorem orders0 {N : Int} {jd : DV} {J : List (List (Int × Int))} (hd : JbD jd J) (hS : ShopOk N J) {m : Nat} (hm : m = N.toNat) : DeepCall Try.prog 55 [.agg [DI N, jd], DI (m : Nat)] (ordsV J.flatten 0 m) := by
  have m1 := hS.m1
  refine deepCall_K 5 Try.func55 rfl (Nat.le_of_ble_eq_true rfl) fun M W0 => ?_
  refine KC.seq ?_
  refine KC.region ?_
  refine KT.step rfl rfl (K.box rfl) ?_
  refine KT.step rfl rfl (K.assign rfl) ?_
  refine KT.nil ?_
  refine thenK_n ?_
  refine KC.seq ?_
  refine KC.seq ?_
  refine KC.region ?_
  refine KT.step rfl rfl (K.move rfl) ?_
  refine KT.step rfl rfl (K.fieldAddrO rfl Try.fld24_0 Try.size3) ?_
  refine KT.step rfl rfl (K.loadO rfl rfl (by simp) rfl Try.agg3) ?_
  refine KT.step rfl rfl (K.eql rfl rfl) ?_
  refine KT.nil ?_
  refine thenK_n ?_
  refine KC.cond rfl (fun hc16 => ?_) (fun hc16 => ?_)
  · skip
    refine KC.seq ?_
    refine KC.region ?_
    refine KT.step rfl rfl (K.buildC (k := 1) (cs := [.d Dnil]) rfl rfl rfl Try.underlying95 Try.size25 Try.one25.zero (by decide)) ?_
    refine KT.step rfl rfl (K.assign rfl) ?_
    refine KT.nil ?_
    refine thenK_n ?_
    refine KC.ret ?_
    refine thenK_r ?_
    exact ⟨.inl rfl, _, rfl, rfl⟩
  · skip
    exact absurd (of_decide_eq_false hc16) (by omega)
set_option maxHeartbeats 2000000 in
set_option maxRecDepth 10000 in
theorem ordersS {N : Int} {jd : DV} {J : List (List (Int × Int))} (hd : JbD jd J) (hS : ShopOk N J) {m k : Nat} (hmk : m + k + 1 = N.toNat) (ih : DeepCall Try.prog 55 [.agg [DI N, jd], DI ((m + 1 : Nat) : Int)] (ordsV J.flatten k (m + 1))) : DeepCall Try.prog 55 [.agg [DI N, jd], DI (m : Nat)] (ordsV J.flatten (k + 1) m) := by
  have m1 := hS.m1
  have m4 := hS.m4
  have n9 := hS.n9
  have h4 : ∀ j ∈ J, 1 ≤ j.length ∧ j.length ≤ 4 := fun j hj => ⟨(hS.jb j hj).1, (hS.jb j hj).2.1⟩
  have hr3 := row_3 hS m
  have hRl := ords_len (row_3 hS) k (m + 1)
  have hk4 : k ≤ 3 := by omega
  have h6k : 6 ^ k ≤ 6 ^ 3 := Nat.pow_le_pow_right (by decide) hk4
  refine deepCall_K 5 Try.func55 rfl (Nat.le_of_ble_eq_true rfl) fun M W0 => ?_
  refine KC.seq ?_
  refine KC.region ?_
  refine KT.step rfl rfl (K.box rfl) ?_
  refine KT.step rfl rfl (K.assign rfl) ?_
  refine KT.nil ?_
  refine thenK_n ?_
  refine KC.seq ?_
  refine KC.seq ?_
  refine KC.region ?_
  refine KT.step rfl rfl (K.move rfl) ?_
  refine KT.step rfl rfl (K.fieldAddrO rfl Try.fld24_0 Try.size3) ?_
  refine KT.step rfl rfl (K.loadO rfl rfl (by simp) rfl Try.agg3) ?_
  refine KT.step rfl rfl (K.eql rfl rfl) ?_
  refine KT.nil ?_
  refine thenK_n ?_
  refine KC.cond rfl (fun hc16 => ?_) (fun hc16 => ?_)
  · skip
    exact absurd (of_decide_eq_true hc16) (by omega)
  · skip
    replace hc16 := of_decide_eq_false hc16
    refine KC.skip ?_
    refine thenK_n ?_
    refine KC.seq ?_
    refine KC.region ?_
    refine KT.step rfl rfl (K.assign rfl) ?_
    refine KT.nil ?_
    refine thenK_n ?_
    refine KC.seq ?_
    refine KC.seq ?_
    refine KC.region ?_
    refine KT.step rfl rfl (K.loadOA [DI N, jd] rfl rfl (by decide) Try.agg24 Try.size24 rfl) ?_
    refine KT.step rfl rfl (K.call1 rfl plainTry_47 (rops47 hd hS.j3 h4)) ?_
    refine KT.step rfl rfl (K.lenF (k := 2) rfl (flV_ok J.flatten) Try.underlying70) ?_
    refine KT.step rfl rfl (K.move rfl) ?_
    refine KT.nil ?_
    refine thenK_n ?_
    refine KC.block ?_
    refine KC.loop (fun p : List VObj × XV × Nat => p.1) (fun p => [(1, .d (DI (m : Nat))), (2, .optr 0 0), (5, p.2.1), (19, .d (flV c2 J.flatten)), (20, .d (DI (J.flatten.length : Nat))), (21, .d (DI (p.2.2 : Nat)))]) (fun p => p.2.2 ≤ J.flatten.length ∧ p.1[0]? = some ⟨[.d (DI N), .d jd], 0⟩ ∧ OwnK 1 p.1 p.2.1 (xs (rowI (J.flatten.take p.2.2) (m : Int))) ∧ (∀ j, idX p.2.1 = some j → 1 ≤ j) ∧ (rowI (J.flatten.take p.2.2) (m : Int) = [] → p.2.1 = .d Dnil)) (fun p => J.flatten.length - p.2.2) (_, .d Dnil, 0) ⟨Nat.zero_le _, rfl, .nil, fun j hj => (by cases hj), fun _ => rfl⟩ rfl (by simp [-List.length_flatten, Go.Vm.look, extK, enterK]) ?_
    intro p hp
    obtain ⟨σ0, x0, i⟩ := p
    obtain ⟨hi, y0, o0, d0, n0⟩ := hp
    simp only at hi y0 o0 d0 n0 ⊢
    refine KC.seq ?_
    refine KC.region ?_
    refine KT.step rfl rfl (K.lss rfl rfl) ?_
    refine KT.nil ?_
    refine thenK_n ?_
    refine KC.seq ?_
    refine KC.cond rfl (fun hc22 => ?_) (fun hc22 => ?_)
    · skip
      replace hc22 := of_decide_eq_true hc22
      have hil : i < J.flatten.length := by omega
      refine KC.skip ?_
      refine thenK_n ?_
      refine KC.seq ?_
      refine KC.block ?_
      refine KC.seq ?_
      refine KC.region ?_
      refine KT.step rfl rfl (K.move rfl) ?_
      refine KT.step rfl rfl (K.idxF c2_len (m := i) rfl (flV_ok J.flatten) rfl (by omega) Try.underlying70 Try.size73) ?_
      refine KT.step rfl rfl (K.loadFl (cs := c2 J.flatten[i]) rfl rfl Try.agg73 Try.size73) ?_
      refine KT.step rfl rfl (K.alloc Try.zero73) ?_
      refine KT.step rfl rfl (K.assign rfl) ?_
      refine KT.storeL (cs := (c2 J.flatten[i]).map .d) rfl rfl rfl rfl rfl rfl rfl Try.size73 ?_
      refine KT.nil ?_
      refine thenK_n ?_
      refine KC.seq ?_
      refine KC.region ?_
      refine KT.step rfl rfl (K.fieldAddrO rfl Try.fld73_0 Try.size3) ?_
      refine KT.step rfl rfl (K.loadO rfl (List.getElem?_concat_length ..) (by simp) rfl Try.agg3) ?_
      refine KT.step rfl rfl (K.move rfl) ?_
      refine KT.step rfl rfl (K.eql rfl rfl) ?_
      refine KT.nil ?_
      refine thenK_n ?_
      refine KC.cond rfl (fun hc29 => ?_) (fun hc29 => ?_)
      · skip
        replace hc29 := of_decide_eq_true hc29
        refine KC.region ?_
        refine KT.step rfl rfl (K.move rfl) ?_
        refine KT.step rfl rfl (K.move rfl) ?_
        refine KT.step rfl rfl (K.buildC (k := 1) (cs := [.d (DI (i : Nat))]) rfl rfl rfl Try.underlying26 Try.size3 Try.one3.zero (by decide)) ?_
        refine KT.appK (k := 1) rfl rfl rfl rfl ((o0.pushed _).pushed _) (List.getElem?_concat_length ..) rfl rfl (by rw [xs_len]; have := rowI_len (J.flatten.take i) (m : Int); rw [List.length_take] at this; omega) Try.underlying26 Try.size3 (of_decide_eq_true (by kernel_rfl)) (by kernel_rfl) (by decide) fun σ4 x4 ho4 k4 w4 => ?_
        obtain ⟨j4, w5, w6⟩ := w4
        rw [List.length_append, List.length_append] at w6
        refine KT.step rfl rfl (K.assign rfl) ?_
        refine KT.nil ?_
        refine blockK_n ?_
        refine thenK_n ?_
        refine KC.region ?_
        refine KT.step rfl rfl (K.add rfl rfl (wrap_id (by omega))) ?_
        refine KT.step rfl rfl (K.move rfl) ?_
        refine KT.nil ?_
        refine thenK_n ?_
        have et : rowI (J.flatten.take (i + 1)) (m : Int) = rowI (J.flatten.take i) (m : Int) ++ [(i : Int)] := by
          rw [List.take_succ_eq_append_getElem hil, rowI_snoc, List.length_take, Nat.min_eq_left (by omega)]
          exact if_pos hc29
        refine ⟨(σ4, x4, i + 1), ⟨by simp only; omega, ?_, ?_, ?_, ?_⟩, by simp only; omega, rfl, by simp [-List.length_flatten, Go.Vm.look, extK]⟩
        · exact (k4 0 (fun h => by have := d0 0 h; omega) (by rw [List.length_append, List.length_append]; have := lt_of_get y0; omega)).trans (get_left (get_left y0))
        · simp only [et]; rw [xs_app]; exact ho4
        · intro j hj; simp only at hj; rw [w5] at hj; cases hj; have := lt_of_get y0; omega
        · intro h; simp only [et] at h; simp at h
      · skip
        replace hc29 := of_decide_eq_false hc29
        refine KC.skip ?_
        refine blockK_n ?_
        refine thenK_n ?_
        refine KC.region ?_
        refine KT.step rfl rfl (K.add rfl rfl (wrap_id (by omega))) ?_
        refine KT.step rfl rfl (K.move rfl) ?_
        refine KT.nil ?_
        refine thenK_n ?_
        have et : rowI (J.flatten.take (i + 1)) (m : Int) = rowI (J.flatten.take i) (m : Int) := by
          rw [List.take_succ_eq_append_getElem hil, rowI_snoc, List.length_take, Nat.min_eq_left (by omega)]
          exact if_neg hc29
        refine ⟨(_, x0, i + 1), ⟨by simp only; omega, ?_, ?_, ?_, ?_⟩, by simp only; omega, rfl, by simp [-List.length_flatten, Go.Vm.look, extK]⟩
        · exact get_left y0
        · simp only [et]; exact o0.pushed _
        · exact d0
        · simp only [et]; exact n0
    · skip
      replace hc22 := of_decide_eq_false hc22
      have et : J.flatten.take i = J.flatten := List.take_of_length_le (by omega)
      rw [et] at o0 n0
      refine KC.exit ?_
      refine thenK_x ?_
      refine thenK_x ?_
      refine blockK_e ?_
      refine thenK_n ?_
      refine KC.seq ?_
      obtain ⟨ids, hdp, hkp⟩ := own_tell o0 n0
      refine KC.tellX (t := 5) ids 5 rfl hdp ?_
      have yf : (freezeIds σ0 ids)[0]? = some ⟨[.d (DI N), .d jd], 0⟩ := (hkp 0 (fun h => by have := d0 0 h; omega)).trans y0
      refine KC.region ?_
      refine KT.step rfl rfl (K.assign rfl) ?_
      refine KT.nil ?_
      refine thenK_n ?_
      refine KC.seq ?_
      refine KC.seq ?_
      refine KC.region ?_
      refine KT.step rfl rfl (K.loadOA [DI N, jd] rfl yf (by decide) Try.agg24 Try.size24 rfl) ?_
      refine KT.step rfl rfl (K.move rfl) ?_
      refine KT.step rfl rfl (K.add rfl rfl (c := ((m + 1 : Nat) : Int)) (by rw [wrap_id (by omega)]; omega)) ?_
      refine KT.step rfl rfl (K.call2 rfl rfl plainTry_55 (ih)) ?_
      refine KT.step rfl rfl (K.len rfl (ords_vec J.flatten k (m + 1)) Try.underlying95) ?_
      refine KT.step rfl rfl (K.move rfl) ?_
      refine KT.nil ?_
      refine thenK_n ?_
      refine KC.block ?_
      refine KC.loop (fun p : List VObj × XV × Nat => p.1) (fun p => [(1, .d (DI (m : Nat))), (2, .optr 0 0), (5, .d (intsV (rowI J.flatten (m : Int)))), (38, .d (ordsV J.flatten k (m + 1))), (39, .d (DI ((ordersN J.flatten k (m + 1)).length : Nat))), (8, p.2.1), (40, .d (DI (p.2.2 : Nat)))]) (fun p => p.2.2 ≤ (ordersN J.flatten k (m + 1)).length ∧ p.1[0]? = some ⟨[.d (DI N), .d jd], 0⟩ ∧ OwnK 1 p.1 p.2.1 (((ordsT J.flatten m ((ordersN J.flatten k (m + 1)).take p.2.2)).map ordPV).map .d) ∧ (∀ j, idX p.2.1 = some j → 1 ≤ j) ∧ (ordsT J.flatten m ((ordersN J.flatten k (m + 1)).take p.2.2) = [] → p.2.1 = .d Dnil)) (fun p => (ordersN J.flatten k (m + 1)).length - p.2.2) (_, .d Dnil, 0) ⟨Nat.zero_le _, yf, .nil, fun j hj => (by cases hj), fun _ => rfl⟩ rfl (by simp [Go.Vm.look, extK, enterK]) ?_
      intro p hp
      obtain ⟨σ0', x0', i⟩ := p
      obtain ⟨hi', y0', o0', d0', n0'⟩ := hp
      simp only at hi' y0' o0' d0' n0' ⊢
      refine KC.seq ?_
      refine KC.region ?_
      refine KT.step rfl rfl (K.lss rfl rfl) ?_
      refine KT.nil ?_
      refine thenK_n ?_
      refine KC.seq ?_
      refine KC.cond rfl (fun hc41 => ?_) (fun hc41 => ?_)
      · skip
        replace hc41 := of_decide_eq_true hc41
        have hil : i < (ordersN J.flatten k (m + 1)).length := by omega
        have hRi : (ordersN J.flatten k (m + 1))[i].length = k := ((mem_ordersN k (m + 1) _).1 (List.getElem_mem hil)).1
        have hTl := ordsT_len hr3 (R := (ordersN J.flatten k (m + 1)).take i)
        have hRt : ((ordersN J.flatten k (m + 1)).take i).length ≤ 216 := by rw [List.length_take]; have : (6 : Nat) ^ 3 = 216 := rfl; omega
        refine KC.skip ?_
        refine thenK_n ?_
        refine KC.seq ?_
        refine KC.block ?_
        refine KC.seq ?_
        refine KC.region ?_
        refine KT.step rfl rfl (K.idxV (m := i) rfl (ords_vec J.flatten k (m + 1)) rfl (by omega) Try.underlying95 Try.size25) ?_
        refine KT.step rfl rfl (K.load rfl Try.agg25) ?_
        rw [getV_ords hil]
        refine KT.step rfl rfl (K.assign rfl) ?_
        refine KT.nil ?_
        refine thenK_n ?_
        refine KC.seq ?_
        refine KC.region ?_
        refine KT.step rfl rfl (K.move rfl) ?_
        refine KT.step rfl rfl (K.call1 rfl plainTry_84 (perms84 _ _ _ rfl hr3 (intsV_ok (rowI J.flatten (m : Int))))) ?_
        refine KT.step rfl rfl (K.len rfl (perm_mat (rowI J.flatten (m : Int))) Try.underlying25) ?_
        refine KT.step rfl rfl (K.move rfl) ?_
        refine KT.nil ?_
        refine thenK_n ?_
        refine KC.block ?_
        refine KC.loop (fun p : List VObj × XV × Nat => p.1) (fun p => [(1, .d (DI (m : Nat))), (2, .optr 0 0), (5, .d (intsV (rowI J.flatten (m : Int)))), (38, .d (ordsV J.flatten k (m + 1))), (39, .d (DI ((ordersN J.flatten k (m + 1)).length : Nat))), (40, .d (DI (i : Nat))), (10, .d (ordPV (ordersN J.flatten k (m + 1))[i])), (45, .d (permV (rowI J.flatten (m : Int)))), (46, .d (DI ((permsO (rowI J.flatten (m : Int))).length : Nat))), (47, .d (DI (p.2.2 : Nat))), (8, p.2.1)]) (fun p => p.2.2 ≤ (permsO (rowI J.flatten (m : Int))).length ∧ p.1[0]? = some ⟨[.d (DI N), .d jd], 0⟩ ∧ OwnK 1 p.1 p.2.1 ((((ordsT J.flatten m ((ordersN J.flatten k (m + 1)).take i) ++ ((permsO (rowI J.flatten (m : Int))).take p.2.2).map fun q => q :: (ordersN J.flatten k (m + 1))[i])).map ordPV).map .d) ∧ (∀ j, idX p.2.1 = some j → 1 ≤ j) ∧ ((ordsT J.flatten m ((ordersN J.flatten k (m + 1)).take i) ++ ((permsO (rowI J.flatten (m : Int))).take p.2.2).map fun q => q :: (ordersN J.flatten k (m + 1))[i]) = [] → p.2.1 = .d Dnil)) (fun p => (permsO (rowI J.flatten (m : Int))).length - p.2.2) (σ0', x0', 0) ⟨Nat.zero_le _, y0', by simpa using o0', d0', by simpa using n0'⟩ rfl (by simp [Go.Vm.look, extK, enterK]) ?_
        intro p hp
        obtain ⟨σ1, x1, q⟩ := p
        obtain ⟨hq, z1, o1, d1, n1⟩ := hp
        simp only at hq z1 o1 d1 n1 ⊢
        have hz1 := lt_of_get z1
        refine KC.seq ?_
        refine KC.region ?_
        refine KT.step rfl rfl (K.lss rfl rfl) ?_
        refine KT.nil ?_
        refine thenK_n ?_
        refine KC.seq ?_
        refine KC.cond rfl (fun hc48 => ?_) (fun hc48 => ?_)
        · skip
          replace hc48 := of_decide_eq_true hc48
          have hql : q < (permsO (rowI J.flatten (m : Int))).length := by omega
          have hp6 : (permsO (rowI J.flatten (m : Int))).length ≤ 6 := permsN_len _ (rowI J.flatten (m : Int)) rfl hr3
          refine KC.skip ?_
          refine thenK_n ?_
          refine KC.seq ?_
          refine KC.block ?_
          refine KC.seq ?_
          refine KC.region ?_
          refine KT.step rfl rfl (K.idxV (m := q) rfl (perm_mat (rowI J.flatten (m : Int))) rfl (by omega) Try.underlying25 Try.size26) ?_
          refine KT.step rfl rfl (K.load rfl Try.agg26) ?_
          rw [getV_perm hql]
          refine KT.step rfl rfl (K.assign rfl) ?_
          refine KT.nil ?_
          refine thenK_n ?_
          refine KC.region ?_
          refine KT.step rfl rfl (K.move rfl) ?_
          refine KT.step rfl rfl (K.move rfl) ?_
          refine KT.step rfl rfl (K.buildC (k := 1) (cs := [.d (pv1 (permsO (rowI J.flatten (m : Int)))[q])]) rfl (pv1_sld _).cells rfl Try.underlying25 Try.size26 Try.one26.zero (by decide)) ?_
          refine KT.step rfl rfl (K.move rfl) ?_
          refine KT.appC rfl rfl rfl rfl (List.getElem?_concat_length ..) rfl (ordPV_slc (ordersN J.flatten k (m + 1))[i]) (pv1_one _) (by simp; omega) Try.underlying25 Try.size26 (of_decide_eq_true (by kernel_rfl)) (by kernel_rfl) fun σ4 id4 u4 k4 w4 => ?_
          have o4 : OwnK 1 σ4 x1 ((((ordsT J.flatten m ((ordersN J.flatten k (m + 1)).take i) ++ ((permsO (rowI J.flatten (m : Int))).take q).map fun q => q :: (ordersN J.flatten k (m + 1))[i])).map ordPV).map .d) := o1.keep fun j hj => by
            have hjl := o1.lt hj
            rw [k4 j (by omega) (by rw [List.length_append]; omega), List.getElem?_append_left hjl]
          have z4 : σ4[0]? = some ⟨[.d (DI N), .d jd], 0⟩ := (k4 0 (by have := lt_of_get z1; omega) (by rw [List.length_append]; omega)).trans (get_left z1)
          have hz4 := lt_of_get z4
          refine KT.step rfl rfl (K.buildC (k := 1) (cs := [.osl id4 0 (1 + ((ordersN J.flatten k (m + 1))[i].map pv1).length) 1 (1 + ((ordersN J.flatten k (m + 1))[i].map pv1).length) (true && ((ordersN J.flatten k (m + 1))[i].map pv1).isEmpty)]) rfl rfl rfl Try.underlying95 Try.size25 Try.one25.zero (by decide)) ?_
          refine KT.appK (k := 1) rfl rfl rfl rfl (o4.pushed _) (List.getElem?_concat_length ..) rfl rfl (by rw [List.length_map, List.length_map, List.length_append, List.length_map, List.length_take]; omega) Try.underlying95 Try.size25 (of_decide_eq_true (by kernel_rfl)) (by kernel_rfl) (by decide) fun σ5 x5 ho5 k5 w5 => ?_
          obtain ⟨j5, w6, w7⟩ := w5
          rw [List.length_append] at w7
          refine KT.step rfl rfl (K.assign rfl) ?_
          refine KT.nil ?_
          refine blockK_n ?_
          refine thenK_n ?_
          have hid4 : σ1.length ≤ id4 := by
            rcases w4 with ⟨w, _⟩ | w
            · omega
            · rw [List.length_append] at w; omega
          have u5 : σ5[id4]? = some ⟨(pv1 (permsO (rowI J.flatten (m : Int)))[q] :: (ordersN J.flatten k (m + 1))[i].map pv1).map .d, 0⟩ := (k5 id4 (fun h => by have := o1.lt h; omega) (by rw [List.length_append]; have := lt_of_get u4; omega)).trans (get_left u4)
          have z5 := (k5 0 (fun h => by have := d1 0 h; omega) (by rw [List.length_append]; have := lt_of_get z4; omega)).trans (get_left z4)
          refine KC.tellK (w := 1) (L := 1 + ((ordersN J.flatten k (m + 1))[i].map pv1).length) ho5 u5 (by simp; omega) (fun h => by rw [w6] at h; cases h; have := lt_of_get u4; omega) fun σ6 q1 q2 q3 => ?_
          rw [ord_eq] at q1
          have z6 := (q3 0 (by have := lt_of_get z1; omega) (fun h => by rw [w6] at h; cases h; omega)).trans z5
          refine KC.region ?_
          refine KT.step rfl rfl (K.add rfl rfl (wrap_id (by omega))) ?_
          refine KT.step rfl rfl (K.move rfl) ?_
          refine KT.nil ?_
          refine thenK_n ?_
          have et : ((permsO (rowI J.flatten (m : Int))).take (q + 1)).map (fun p => p :: (ordersN J.flatten k (m + 1))[i]) = ((permsO (rowI J.flatten (m : Int))).take q).map (fun p => p :: (ordersN J.flatten k (m + 1))[i]) ++ [(permsO (rowI J.flatten (m : Int)))[q] :: (ordersN J.flatten k (m + 1))[i]] := by
            rw [List.take_succ_eq_append_getElem hql, List.map_append]; rfl
          refine ⟨(σ6, x5, q + 1), ⟨by simp only; omega, z6, ?_, fun j hj => ?_, fun h => ?_⟩, by simp only; omega, rfl, by simp [Go.Vm.look, extK]⟩
          · simp only [et]
            rw [← List.append_assoc, List.map_append, List.map_append]
            exact q1
          · simp only at hj; rw [w6] at hj; cases hj; omega
          · simp only [et] at h; simp at h
        · skip
          replace hc48 := of_decide_eq_false hc48
          refine KC.exit ?_
          refine thenK_x ?_
          refine thenK_x ?_
          refine blockK_e ?_
          refine blockK_n ?_
          refine thenK_n ?_
          refine KC.region ?_
          refine KT.step rfl rfl (K.add rfl rfl (wrap_id (by omega))) ?_
          refine KT.step rfl rfl (K.move rfl) ?_
          refine KT.nil ?_
          refine thenK_n ?_
          have et : (permsO (rowI J.flatten (m : Int))).take q = permsO (rowI J.flatten (m : Int)) := List.take_of_length_le (by omega)
          rw [et, ← ordsT_succ hil] at o1 n1
          exact ⟨(σ1, x1, i + 1), ⟨by simp only; omega, z1, o1, d1, n1⟩, by simp only; omega, rfl, by simp [Go.Vm.look, extK]⟩
      · skip
        replace hc41 := of_decide_eq_false hc41
        refine KC.exit ?_
        refine thenK_x ?_
        refine thenK_x ?_
        refine blockK_e ?_
        refine thenK_n ?_
        refine KC.seq ?_
        refine KC.region ?_
        refine KT.step rfl rfl (K.move rfl) ?_
        refine KT.step rfl rfl (K.assign rfl) ?_
        refine KT.nil ?_
        refine thenK_n ?_
        refine KC.ret ?_
        have et : (ordersN J.flatten k (m + 1)).take i = (ordersN J.flatten k (m + 1)) := List.take_of_length_le (by omega)
        have e2 : ordsT J.flatten m (ordersN J.flatten k (m + 1)) = ordersN J.flatten (k + 1) m := rfl
        rw [et, e2] at o0'
        refine ⟨.inl rfl, _, rfl, ?_⟩
        rw [own_ords o0' (ords_ne _ _)]
        unfold ordsV
        rw [if_neg (by omega)]
theorem orders55 {N : Int} {jd : DV} {J : List (List (Int × Int))} (hd : JbD jd J) (hS : ShopOk N J) : ∀ (k m : Nat), m + k = N.toNat → DeepCall Try.prog 55 [.agg [DI N, jd], DI (m : Nat)] (ordsV J.flatten k m)
  | 0, m, h => orders0 hd hS (by omega)
  | k + 1, m, h => ordersS hd hS (by omega) (orders55 hd hS k (m + 1) (by omega))
end Go.Proofs.Ytdilkpcnkhedlaa

