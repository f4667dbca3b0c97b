import Derived.Test.YtdgahcbalabjdaaGreatZBaF
import Derived.Test.YtdgahcbalabjdaaGreatCyN
/-
  Batch: sorting.
-/
namespace Go.Proofs.YtdgahcbalabjdaaGreat
open Go.Vm Go.Ht Go.Ba
theorem plainTryz_71 : plainFn Tryz.prog 71 = true := by kernel_rfl
theorem plainTryz_85 : plainFn Tryz.prog 85 = true := by kernel_rfl
theorem plainTryz_70 : plainFn Tryz.prog 70 = true := by kernel_rfl
theorem plainTryz_106 : plainFn Tryz.prog 106 = true := by kernel_rfl
theorem plainTryz_100 : plainFn Tryz.prog 100 = true := by kernel_rfl
theorem plainTryz_84 : plainFn Tryz.prog 84 = true := by kernel_rfl
theorem plainTryz_69 : plainFn Tryz.prog 69 = true := by kernel_rfl
theorem plainTryz_77 : plainFn Tryz.prog 77 = true := by kernel_rfl
set_option maxRecDepth 10000 in
theorem collect95 {M : Nat → Prop} {W0 : World} {σ : List VObj} {d : DV} {l : List Int} (hd : Ints d l) (hl : l.length ≤ 1000000) : InCall Tryz.prog M W0 60 σ [.d (.fn (.func 62) [] [.ptr [d]])] (fun σ2 x2 => (∀ j, j < σ.length → σ2[j]? = σ[j]?) ∧ OwnK 1 σ2 x2 (xs l) ∧ (∀ j, idX x2 = some j → σ.length ≤ j) ∧ (l = [] → x2 = .d Dnil)) := by
  refine inCall_K Tryz.func60 rfl (Nat.le_of_ble_eq_true rfl) ?_
  refine KC.seq ?_
  refine KC.region ?_
  refine KT.step rfl rfl (K.assign rfl) ?_
  refine KT.nil ?_
  refine thenK_n ?_
  refine KC.seq ?_
  refine KC.regionL ?_
  refine KL.step rfl rfl (K.move rfl) ?_
  refine KL.call rfl rfl rfl rfl rfl plainTryz_75 (appendSeq110 hd hl) fun σ2 x2 hr => ?_
  refine KL.step rfl rfl (K.assign rfl) ?_
  refine KL.nil ?_
  refine thenK_n ?_
  refine KC.ret ?_
  exact ⟨.inl rfl, _, rfl, hr⟩
theorem sortNil : DeepCall Tryz.prog 61 [Dnil] (.tup []) := runFn_sound (inl := fun f => f == 9999) (len := 3000) (k := 60) (f := 61) Tryz.mixed (by kernel_rfl)
theorem sort109 {σ : List VObj} {id lo : Nat} {ex : Bool} {zs : List Int} (ho : σ[id]? = some ⟨xs zs, 0⟩) (hn : zs.length ≤ 1000000) : OwnCall Tryz.prog 61 σ [.osl id 0 zs.length 1 lo ex] (σ.set id ⟨xs (sortI zs), 0⟩) (.d (.lit (.tuple #[]))) := by
  have h := sort_own lays189 (σ := σ) (id := id) (lo := lo) (ex := ex) (zs := zs) (rest := []) (by rw [List.append_nil]; exact ho) (by omega)
  rw [List.append_nil] at h
  exact h
theorem own_xs2 {σ : List VObj} {x : XV} {zs : List Int} (h : OwnK 1 σ x (xs zs)) (hne : zs ≠ []) : ∃ id, x = .osl id 0 zs.length 1 zs.length false ∧ σ[id]? = some ⟨xs zs, 0⟩ := by
  generalize hc : xs zs = cs at h
  cases h with
  | nil => have := congrArg List.length hc; rw [xs_len] at this; exact absurd (List.length_eq_zero_iff.1 this) hne
  | @sl id n cells h hn =>
    subst hc
    rw [xs_len, Nat.mul_one] at hn
    subst hn
    exact ⟨id, rfl, h⟩
theorem own_put {σ : List VObj} {id k : Nat} {zs ys : List Int} (h : σ[id]? = some ⟨xs zs, 0⟩) (e : ys.length = zs.length) (hne : zs ≠ []) : deepen (freezeAll (σ.set id ⟨xs ys, 0⟩)) (k + 2) (.osl id 0 zs.length 1 zs.length false) = some (intsV ys) := by
  refine own_ints (.sl (List.getElem?_set_self (lt_of_get h)) (by rw [xs_len, e, Nat.mul_one])) fun hy => absurd (List.length_eq_zero_iff.1 (by rw [← e, hy]; rfl)) hne
set_option maxRecDepth 10000 in
theorem sortedNil {d : DV} (hd : Ints d []) : DeepCall Tryz.prog 33 [.fn (.func 62) [] [.ptr [d]]] Dnil := by
  refine deepCall_K 5 Tryz.func33 rfl (Nat.le_of_ble_eq_true rfl) fun M W0 => ?_
  refine KC.seq ?_
  refine KC.region ?_
  refine KT.step rfl rfl (K.assign rfl) ?_
  refine KT.nil ?_
  refine thenK_n ?_
  refine KC.seq ?_
  refine KC.regionL ?_
  refine KL.step rfl rfl (K.move rfl) ?_
  refine KL.call rfl rfl rfl rfl rfl plainTryz_60 (collect95 hd (by simp)) fun σ2 x2 hr => ?_
  obtain rfl := hr.2.2.2 rfl
  refine KL.step rfl rfl (K.assign rfl) ?_
  refine KL.nil ?_
  refine thenK_n ?_
  refine KC.seq ?_
  refine KC.region ?_
  refine KT.step rfl rfl (K.move rfl) ?_
  refine KT.step rfl rfl (K.call1 rfl plainTryz_61 (sortNil)) ?_
  refine KT.nil ?_
  refine thenK_n ?_
  refine KC.seq ?_
  refine KC.region ?_
  refine KT.step rfl rfl (K.move rfl) ?_
  refine KT.step rfl rfl (K.assign rfl) ?_
  refine KT.nil ?_
  refine thenK_n ?_
  refine KC.ret ?_
  exact ⟨.inl rfl, _, rfl, fin_d rfl⟩
set_option maxRecDepth 10000 in
theorem sortedCons {d : DV} {l : List Int} (hd : Ints d l) (hl : l.length ≤ 1000000) (hne : l ≠ []) : DeepCall Tryz.prog 33 [.fn (.func 62) [] [.ptr [d]]] (intsV (sortI l)) := by
  refine deepCall_K 5 Tryz.func33 rfl (Nat.le_of_ble_eq_true rfl) fun M W0 => ?_
  refine KC.seq ?_
  refine KC.region ?_
  refine KT.step rfl rfl (K.assign rfl) ?_
  refine KT.nil ?_
  refine thenK_n ?_
  refine KC.seq ?_
  refine KC.regionL ?_
  refine KL.step rfl rfl (K.move rfl) ?_
  refine KL.call rfl rfl rfl rfl rfl plainTryz_60 (collect95 hd hl) fun σ2 x2 hr => ?_
  obtain ⟨id, rfl, hs⟩ := own_xs2 hr.2.1 hne
  refine KL.step rfl rfl (K.assign rfl) ?_
  refine KL.nil ?_
  refine thenK_n ?_
  refine KC.seq ?_
  refine KC.region ?_
  refine KT.step rfl rfl (K.move rfl) ?_
  refine KT.step rfl rfl (K.callO rfl plainTryz_61 (sort109 hs hl)) ?_
  refine KT.nil ?_
  refine thenK_n ?_
  refine KC.seq ?_
  refine KC.region ?_
  refine KT.step rfl rfl (K.move rfl) ?_
  refine KT.step rfl rfl (K.assign rfl) ?_
  refine KT.nil ?_
  refine thenK_n ?_
  refine KC.ret ?_
  exact ⟨.inl rfl, _, rfl, own_put hs (length_sortI l) hne⟩
theorem sorted92 {d : DV} {l : List Int} (hd : Ints d l) (hl : l.length ≤ 1000000) : DeepCall Tryz.prog 33 [.fn (.func 62) [] [.ptr [d]]] (intsV (sortI l)) := by
  by_cases h : l = []
  · subst h
    have e : sortI ([] : List Int) = [] := by simp [sortI]
    rw [e]; exact sortedNil hd
  · exact sortedCons hd hl h
set_option maxRecDepth 10000 in
theorem isNaN98 (x : Int) : DeepCall Tryz.prog 85 [DI x] (DB false) := by
  refine deepCall_K 5 Tryz.func85 rfl (Nat.le_of_ble_eq_true rfl) fun M W0 => ?_
  refine KC.seq ?_
  refine KC.region ?_
  refine KT.step rfl rfl (K.assign rfl) ?_
  refine KT.nil ?_
  refine thenK_n ?_
  refine KC.seq ?_
  refine KC.region ?_
  refine KT.step rfl rfl (K.move rfl) ?_
  refine KT.step rfl rfl (K.move rfl) ?_
  refine KT.step rfl rfl (K.neq rfl rfl) ?_
  refine KT.step rfl rfl (K.assign rfl) ?_
  refine KT.nil ?_
  refine thenK_n ?_
  refine KC.ret ?_
  exact ⟨.inl rfl, _, rfl, fin_b (by simp)⟩
set_option maxRecDepth 10000 in
theorem compare76 (x y : Int) : DeepCall Tryz.prog 71 [DI x, DI y] (DI (cmpI x y)) := by
  refine deepCall_K 5 Tryz.func71 rfl (Nat.le_of_ble_eq_true rfl) fun M W0 => ?_
  refine KC.seq ?_
  refine KC.region ?_
  refine KT.step rfl rfl (K.assign rfl) ?_
  refine KT.nil ?_
  refine thenK_n ?_
  refine KC.seq ?_
  refine KC.region ?_
  refine KT.step rfl rfl (K.move rfl) ?_
  refine KT.step rfl rfl (K.call1 rfl plainTryz_85 (isNaN98 _)) ?_
  refine KT.step rfl rfl (K.assign rfl) ?_
  refine KT.nil ?_
  refine thenK_n ?_
  refine KC.seq ?_
  refine KC.region ?_
  refine KT.step rfl rfl (K.move rfl) ?_
  refine KT.step rfl rfl (K.call1 rfl plainTryz_85 (isNaN98 _)) ?_
  refine KT.step rfl rfl (K.assign rfl) ?_
  refine KT.nil ?_
  refine thenK_n ?_
  refine KC.seq ?_
  refine KC.seq ?_
  refine KC.region ?_
  refine KT.step rfl rfl (K.move rfl) ?_
  refine KT.nil ?_
  refine thenK_n ?_
  refine KC.cond rfl (fun hc11 => ?_) (fun hc11 => ?_)
  · cases hc11
  · skip
    refine KC.skip ?_
    refine thenK_n ?_
    refine KC.seq ?_
    refine KC.seq ?_
    refine KC.region ?_
    refine KT.step rfl rfl (K.move rfl) ?_
    refine KT.nil ?_
    refine thenK_n ?_
    refine KC.cond rfl (fun hc13 => ?_) (fun hc13 => ?_)
    · cases hc13
    · skip
      refine KC.skip ?_
      refine thenK_n ?_
      refine KC.seq ?_
      refine KC.seq ?_
      refine KC.region ?_
      refine KT.step rfl rfl (K.move rfl) ?_
      refine KT.step rfl rfl (K.move rfl) ?_
      refine KT.step rfl rfl (K.lss rfl rfl) ?_
      refine KT.nil ?_
      refine thenK_n ?_
      refine KC.cond rfl (fun hc16 => ?_) (fun hc16 => ?_)
      · skip
        replace hc16 := of_decide_eq_true hc16
        refine KC.seq ?_
        refine KC.region ?_
        refine KT.step rfl rfl (K.assign rfl) ?_
        refine KT.nil ?_
        refine thenK_n ?_
        refine KC.ret ?_
        refine thenK_r ?_
        exact ⟨.inl rfl, _, rfl, fin_d (by unfold cmpI; rw [if_pos hc16])⟩
      · skip
        replace hc16 := of_decide_eq_false hc16
        refine KC.skip ?_
        refine thenK_n ?_
        refine KC.seq ?_
        refine KC.seq ?_
        refine KC.region ?_
        refine KT.step rfl rfl (K.move rfl) ?_
        refine KT.step rfl rfl (K.move rfl) ?_
        refine KT.step rfl rfl (K.gtr rfl rfl) ?_
        refine KT.nil ?_
        refine thenK_n ?_
        refine KC.cond rfl (fun hc19 => ?_) (fun hc19 => ?_)
        · skip
          replace hc19 := of_decide_eq_true hc19
          refine KC.seq ?_
          refine KC.region ?_
          refine KT.step rfl rfl (K.assign rfl) ?_
          refine KT.nil ?_
          refine thenK_n ?_
          refine KC.ret ?_
          refine thenK_r ?_
          exact ⟨.inl rfl, _, rfl, fin_d (by unfold cmpI; rw [if_neg hc16, if_pos hc19])⟩
        · skip
          replace hc19 := of_decide_eq_false hc19
          refine KC.skip ?_
          refine thenK_n ?_
          refine KC.seq ?_
          refine KC.region ?_
          refine KT.step rfl rfl (K.assign rfl) ?_
          refine KT.nil ?_
          refine thenK_n ?_
          refine KC.ret ?_
          exact ⟨.inl rfl, _, rfl, fin_d (by unfold cmpI; rw [if_neg hc16, if_neg hc19])⟩
set_option maxRecDepth 10000 in
theorem byStart75 {s : DV} {hs : List Int} (h : Ints s hs) {x y : Int} (hx : 0 ≤ x ∧ x < hs.length) (hy : 0 ≤ y ∧ y < hs.length) : DeepCall Tryz.prog 70 [DI x, DI y, .ptr [s]] (DI (cmpI (gt hs x) (gt hs y))) := by
  refine deepCall_K 5 Tryz.func70 rfl (Nat.le_of_ble_eq_true rfl) fun M W0 => ?_
  refine KC.seq ?_
  refine KC.region ?_
  refine KT.step rfl rfl (K.assign rfl) ?_
  refine KT.nil ?_
  refine thenK_n ?_
  refine KC.seq ?_
  refine KC.draw Tryz.mixed ?_
  refine KT.step rfl rfl (K.load (cs := []) rfl Tryz.agg36) ?_
  refine KT.step rfl rfl (K.move rfl) ?_
  refine KT.idxI (m := x.toNat) rfl rfl rfl h (by exact congrArg (fun z => some (XV.d (DI z))) (show x = ((x.toNat : Nat) : Int) by omega)) (by omega) Tryz.underlying36 Tryz.size3 fun cs8 => ?_
  refine KT.step rfl rfl (K.load rfl Tryz.agg3) ?_
  refine KT.step rfl rfl (K.load (cs := []) rfl Tryz.agg36) ?_
  refine KT.step rfl rfl (K.move rfl) ?_
  refine KT.idxI (m := y.toNat) rfl rfl rfl h (by exact congrArg (fun z => some (XV.d (DI z))) (show y = ((y.toNat : Nat) : Int) by omega)) (by omega) Tryz.underlying36 Tryz.size3 fun cs12 => ?_
  refine KT.step rfl rfl (K.load rfl Tryz.agg3) ?_
  refine KT.step rfl rfl (K.call2 rfl rfl plainTryz_71 (compare76 _ _)) ?_
  refine KT.step rfl rfl (K.assign rfl) ?_
  refine KT.nil ?_
  refine ⟨by kernel_rfl, ?_⟩
  refine thenK_n ?_
  refine KC.ret ?_
  exact ⟨.inl rfl, _, rfl, fin_d (by rw [gt_get (show x.toNat < hs.length by omega) (by omega), gt_get (show y.toNat < hs.length by omega) (by omega)])⟩
theorem getD_mem {l : List Int} {i : Nat} (h : i < l.length) : l.getD i 0 ∈ l := by
  rw [List.getD_eq_getElem?_getD, List.getElem?_eq_getElem h]; exact List.getElem_mem h
theorem xs_getD {l : List Int} {i : Nat} (h : i < l.length) : (xs l)[0 + i]? = some (.d (DI (l.getD i 0))) := by
  rw [xs_get h]; simp [h]
set_option maxRecDepth 10000 in
theorem insertion126 {σ : List VObj} {id lo : Nat} {ex : Bool} {zs : List Int} {f : FuncId} {cs : List DV} {c : Int → Int → Int} (hp : plainFn Tryz.prog f = true) (hc : ∀ x y, x ∈ zs → y ∈ zs → DeepCall Tryz.prog f ([DI x, DI y] ++ cs) (DI (c x y))) (ho : σ[id]? = some ⟨xs zs, 0⟩) (hn : zs.length ≤ 12) : OwnCall Tryz.prog 106 σ [.osl id 0 zs.length 1 lo ex, .d (DI 0), .d (DI (zs.length : Nat)), .d (.fn (.func f) [] cs)] (σ.set id ⟨xs (insS c zs), 0⟩) (.tup []) := by
  refine ownCall_K Tryz.func106 rfl (Nat.le_of_ble_eq_true rfl) fun M W0 => ?_
  refine KC.seq ?_
  refine KC.region ?_
  refine KT.step rfl rfl (K.move rfl) ?_
  refine KT.step rfl rfl (K.add rfl rfl (wrap_id (by omega))) ?_
  refine KT.step rfl rfl (K.assign rfl) ?_
  refine KT.nil ?_
  refine thenK_n ?_
  refine KC.block ?_
  have h0 : σ = σ.set id ⟨xs (insN c zs 1), 0⟩ := by rw [insN_one, set_same ho]
  refine KC.loop (fun k : Nat => σ.set id ⟨xs (insN c zs k), 0⟩) (fun k => [(0, .osl id 0 zs.length 1 lo ex), (1, .d (DI 0)), (2, .d (DI (zs.length : Nat))), (3, .d (.fn (.func f) [] cs)), (8, .d (DI (k : Nat)))]) (fun k => 1 ≤ k ∧ (k ≤ zs.length ∨ k = 1)) (fun k => zs.length - k) 1 ⟨Nat.le_refl _, .inr rfl⟩ h0 (by simp [Go.Vm.look, extK, enterK]) ?_
  intro k hk
  obtain ⟨hk1, hk⟩ := hk
  refine KC.seq ?_
  refine KC.seq ?_
  refine KC.region ?_
  refine KT.step rfl rfl (K.move rfl) ?_
  refine KT.step rfl rfl (K.move rfl) ?_
  refine KT.step rfl rfl (K.lss rfl rfl) ?_
  refine KT.nil ?_
  refine thenK_n ?_
  refine KC.cond rfl (fun hc14 => ?_) (fun hc14 => ?_)
  · skip
    replace hc14 := of_decide_eq_true hc14
    have hkl : k < zs.length := by omega
    refine KC.skip ?_
    refine thenK_n ?_
    refine KC.seq ?_
    refine KC.block ?_
    refine KC.seq ?_
    refine KC.region ?_
    refine KT.step rfl rfl (K.move rfl) ?_
    refine KT.step rfl rfl (K.assign rfl) ?_
    refine KT.nil ?_
    refine thenK_n ?_
    refine KC.block ?_
    refine KC.loop (fun p : Nat × List Int => σ.set id ⟨xs p.2, 0⟩) (fun p => [(0, .osl id 0 zs.length 1 lo ex), (1, .d (DI 0)), (2, .d (DI (zs.length : Nat))), (3, .d (.fn (.func f) [] cs)), (8, .d (DI (k : Nat))), (9, .d (DI (p.1 : Nat)))]) (fun p => p.1 ≤ k ∧ p.2.length = zs.length ∧ insJ c p.1 p.2 = insJ c k (insN c zs k) ∧ ∀ x ∈ p.2, x ∈ zs) (fun p => p.1) (k, insN c zs k) ⟨Nat.le_refl _, insN_len _ _ _, rfl, fun x hx => (insN_perm c zs k (by omega)).mem_iff.1 hx⟩ rfl (by simp [Go.Vm.look, extK, enterK]) ?_
    intro p hj
    obtain ⟨j, cs0⟩ := p
    obtain ⟨hj, hlen, hgo, hmem⟩ := hj
    simp only at hj hlen hgo hmem ⊢
    refine KC.seq ?_
    refine KC.seq ?_
    refine KC.draw Tryz.mixed ?_
    refine KT.step rfl rfl (K.move rfl) ?_
    refine KT.step rfl rfl (K.move rfl) ?_
    refine KT.step rfl rfl (K.gtr rfl rfl) ?_
    refine KT.step rfl rfl (K.move rfl) ?_
    refine KT.bcase (fun hb21 => ?_) (fun hb21 => ?_)
    · skip
      replace hb21 := of_decide_eq_true hb21
      replace hb21 : 0 < (j : Int) := hb21
      refine KT.step rfl rfl (K.move rfl) ?_
      refine KT.step rfl rfl (K.move rfl) ?_
      refine KT.step rfl rfl (K.move rfl) ?_
      refine KT.step rfl rfl (K.idxO (m := j) rfl rfl (by omega) Tryz.underlying36 Tryz.size3) ?_
      refine KT.step rfl rfl (K.loadO rfl (List.getElem?_set_self (lt_of_get ho)) (by simp) (xs_getD (i := j) (by omega)) Tryz.agg3) ?_
      refine KT.step rfl rfl (K.move rfl) ?_
      refine KT.step rfl rfl (K.move rfl) ?_
      refine KT.step rfl rfl (K.sub rfl rfl (wrap_id (by omega))) ?_
      refine KT.step rfl rfl (K.idxO (m := j - 1) rfl (by exact congrArg (fun z => some (XV.d (DI z))) (show (j : Int) - 1 = ((j - 1 : Nat) : Int) by omega)) (by omega) Tryz.underlying36 Tryz.size3) ?_
      refine KT.step rfl rfl (K.loadO rfl (List.getElem?_set_self (lt_of_get ho)) (by simp) (xs_getD (i := j - 1) (by omega)) Tryz.agg3) ?_
      refine KT.step rfl rfl (K.callC (ds := [DI (cs0.getD j 0), DI (cs0.getD (j - 1) 0)]) rfl rfl rfl hp (hc _ _ (hmem _ (getD_mem (by omega))) (hmem _ (getD_mem (by omega))))) ?_
      refine KT.step rfl rfl (K.lss rfl rfl) ?_
      refine KT.step rfl rfl (K.pick rfl (fun _ => rfl) (fun h => by cases h)) ?_
      refine KT.nil ?_
      refine ⟨by kernel_rfl, ?_⟩
      refine thenK_n ?_
      refine KC.cond rfl (fun hc34 => ?_) (fun hc34 => ?_)
      · skip
        replace hc34 := of_decide_eq_true hc34
        refine KC.skip ?_
        refine thenK_n ?_
        refine KC.seq ?_
        refine KC.block ?_
        refine KC.draw Tryz.mixed ?_
        refine KT.step rfl rfl (K.move rfl) ?_
        refine KT.step rfl rfl (K.move rfl) ?_
        refine KT.step rfl rfl (K.move rfl) ?_
        refine KT.step rfl rfl (K.move rfl) ?_
        refine KT.step rfl rfl (K.sub rfl rfl (wrap_id (by omega))) ?_
        refine KT.step rfl rfl (K.move rfl) ?_
        refine KT.step rfl rfl (K.move rfl) ?_
        refine KT.step rfl rfl (K.sub rfl rfl (wrap_id (by omega))) ?_
        refine KT.step rfl rfl (K.idxO (m := j - 1) rfl (by exact congrArg (fun z => some (XV.d (DI z))) (show (j : Int) - 1 = ((j - 1 : Nat) : Int) by omega)) (by omega) Tryz.underlying36 Tryz.size3) ?_
        refine KT.step rfl rfl (K.loadO rfl (List.getElem?_set_self (lt_of_get ho)) (by simp) (xs_getD (i := j - 1) (by omega)) Tryz.agg3) ?_
        refine KT.step rfl rfl (K.move rfl) ?_
        refine KT.step rfl rfl (K.move rfl) ?_
        refine KT.step rfl rfl (K.idxO (m := j) rfl rfl (by omega) Tryz.underlying36 Tryz.size3) ?_
        refine KT.step rfl rfl (K.loadO rfl (List.getElem?_set_self (lt_of_get ho)) (by simp) (xs_getD (i := j) (by omega)) Tryz.agg3) ?_
        refine KT.step rfl rfl (K.idxO (m := j) rfl rfl (by omega) Tryz.underlying36 Tryz.size3) ?_
        refine KT.step rfl rfl (K.storeO rfl rfl (List.getElem?_set_self (lt_of_get ho)) (by rw [xs_len]; omega) rfl rfl Tryz.size3) ?_
        refine KT.step rfl rfl (K.idxO (m := j - 1) rfl (by exact congrArg (fun z => some (XV.d (DI z))) (show (j : Int) - 1 = ((j - 1 : Nat) : Int) by omega)) (by omega) Tryz.underlying36 Tryz.size3) ?_
        refine KT.step rfl rfl (K.storeO rfl rfl (List.getElem?_set_self (by rw [List.length_set]; exact lt_of_get ho)) (by rw [xs_set, xs_len, List.length_set]; omega) rfl rfl Tryz.size3) ?_
        refine KT.nil ?_
        refine ⟨by kernel_rfl, ?_⟩
        refine blockK_n ?_
        refine thenK_n ?_
        refine KC.region ?_
        refine KT.step rfl rfl (K.move rfl) ?_
        refine KT.step rfl rfl (K.sub rfl rfl (wrap_id (by omega))) ?_
        refine KT.step rfl rfl (K.assign rfl) ?_
        refine KT.nil ?_
        refine thenK_n ?_
        refine ⟨(j - 1, swp cs0 j), ⟨by simp only; omega, by simp only [swp_len]; exact hlen, ?_, ?_⟩, by simp only; omega, ?_, by simp [Go.Vm.look, extK]; omega⟩
        · simp only
          obtain ⟨i, rfl⟩ : ∃ i, j = i + 1 := ⟨j - 1, by omega⟩
          simp only [Nat.add_sub_cancel] at hc34
          rw [insJ, if_pos hc34] at hgo
          exact hgo
        · exact fun x hx => hmem x ((swp_perm (by omega) (by omega)).mem_iff.1 hx)
        · rw [List.set_set, List.set_set, xs_set, xs_set]; rfl
      · skip
        replace hc34 := of_decide_eq_false hc34
        refine KC.exit ?_
        refine thenK_x ?_
        refine thenK_x ?_
        refine blockK_e ?_
        refine blockK_n ?_
        refine thenK_n ?_
        have hst : 0 < j → ¬ c (cs0.getD j 0) (cs0.getD (j - 1) 0) < 0 := fun _ => hc34
        refine KC.region ?_
        refine KT.step rfl rfl (K.move rfl) ?_
        refine KT.step rfl rfl (K.add rfl rfl (wrap_id (by omega))) ?_
        refine KT.step rfl rfl (K.assign rfl) ?_
        refine KT.nil ?_
        refine thenK_n ?_
        refine ⟨k + 1, ⟨by omega, .inl (by omega)⟩, by omega, ?_, by simp [Go.Vm.look, extK]⟩
        have he : insJ c j cs0 = cs0 := by
          cases j with
          | zero => rfl
          | succ j =>
            unfold insJ
            simp only [Nat.add_sub_cancel] at hst
            rw [if_neg (hst (by omega))]
        rw [insN_succ, ← hgo, he]
    · skip
      replace hb21 := of_decide_eq_false hb21
      refine KT.skip rfl rfl ?_
      refine KT.skip rfl rfl ?_
      refine KT.skip rfl rfl ?_
      refine KT.skip rfl rfl ?_
      refine KT.skip rfl rfl ?_
      refine KT.skip rfl rfl ?_
      refine KT.skip rfl rfl ?_
      refine KT.skip rfl rfl ?_
      refine KT.skip rfl rfl ?_
      refine KT.skip rfl rfl ?_
      refine KT.skip rfl rfl ?_
      refine KT.skip rfl rfl ?_
      refine KT.step rfl rfl (K.pick rfl (fun h => by cases h) (fun _ => rfl)) ?_
      refine KT.nil ?_
      refine ⟨by kernel_rfl, ?_⟩
      refine thenK_n ?_
      refine KC.cond rfl (fun hc34 => ?_) (fun hc34 => ?_)
      · cases hc34
      · skip
        refine KC.exit ?_
        refine thenK_x ?_
        refine thenK_x ?_
        refine blockK_e ?_
        refine blockK_n ?_
        refine thenK_n ?_
        have hst : 0 < j → ¬ c (cs0.getD j 0) (cs0.getD (j - 1) 0) < 0 := fun h => absurd h (by omega)
        refine KC.region ?_
        refine KT.step rfl rfl (K.move rfl) ?_
        refine KT.step rfl rfl (K.add rfl rfl (wrap_id (by omega))) ?_
        refine KT.step rfl rfl (K.assign rfl) ?_
        refine KT.nil ?_
        refine thenK_n ?_
        refine ⟨k + 1, ⟨by omega, .inl (by omega)⟩, by omega, ?_, by simp [Go.Vm.look, extK]⟩
        have he : insJ c j cs0 = cs0 := by
          cases j with
          | zero => rfl
          | succ j =>
            unfold insJ
            simp only [Nat.add_sub_cancel] at hst
            rw [if_neg (hst (by omega))]
        rw [insN_succ, ← hgo, he]
  · skip
    replace hc14 := of_decide_eq_false hc14
    refine KC.exit ?_
    refine thenK_x ?_
    refine thenK_x ?_
    refine blockK_e ?_
    refine ⟨.inr rfl, rfl, ?_⟩
    by_cases hz : zs.length ≤ 1
    · have e : insS c zs = zs := by
        unfold insS
        rcases (show zs.length = 0 ∨ zs.length = 1 by omega) with h | h <;> rw [h] <;> rfl
      rw [show k = 1 by omega, insN_one, e]
    · unfold insS; rw [show zs.length = k by omega]
end Go.Proofs.YtdgahcbalabjdaaGreat

