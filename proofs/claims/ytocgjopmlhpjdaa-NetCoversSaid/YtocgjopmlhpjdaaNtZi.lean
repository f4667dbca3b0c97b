import Derived.Test.YtocgjopmlhpjdaaNtZh
import Derived.Test.YtocgjopmlhpjdaaVmKi
/-
  Nets: the reference: fire, its marking the caller's own.
-/
namespace Go.Proofs.Ytocgjopmlhpjdaa
open Go.Vm Go.RowKit Go.Nt Go.Ht
def fB (a b c : DV) : VObj := ⟨[.d a, .d b, .d c], 0⟩
theorem o3_0 {σ : List VObj} {p q r : VObj} : (σ ++ [p, q, r])[σ.length]? = some p := by rw [List.getElem?_append_right (Nat.le_refl _)]; simp
theorem o3_2 {σ : List VObj} {p q r : VObj} : (σ ++ [p, q, r])[σ.length + 2]? = some r := by rw [List.getElem?_append_right (by omega)]; simp
theorem o3_set {σ : List VObj} {p q r s : VObj} : (σ ++ [p, q, r]).set (σ.length + 2) s = σ ++ [p, q, s] := by rw [List.set_append_right _ _ (by omega)]; simp
set_option maxRecDepth 10000 in
theorem rfire77_yes {σ : List VObj} {a b c d : DV} {pre post : List (List Int)} {x : List Int} {t : Nat} (ha : Mat a pre) (hb : Mat b post) (hd : Ints d x) (x0 : 0 < x.length) (x6 : x.length ≤ 6) (ht : t < pre.length) (ht2 : t < post.length) (e1 : pre[t].length = x.length) (e2 : post[t].length = x.length)
    (b1 : ∀ n ∈ pre[t], 0 ≤ n ∧ n ≤ 3) (b2 : ∀ n ∈ post[t], 0 ≤ n ∧ n ≤ 3) (bx : ∀ p, 0 ≤ tk x p ∧ tk x p ≤ 1099511627776) (hw : withinB pre[t] x = true) :
    OwnCall Try.prog 77 σ [.d (.agg [a, b, c]), .d d, .d (DI (t : Int))] (σ ++ [fB a b c, ⟨[], 0⟩, ⟨halfN x.length (fireW (tk post[t]) (tk pre[t]) (tk x)) (tk x) x.length, 0⟩]) (.tup [.osl (σ.length + 2) 0 x.length 1 x.length false, .d (DB true)]) := by
  obtain ⟨cs, cap, rfl, hcs⟩ : ∃ cs cap, d = .sl cs x.length cap ∧ cs = x.map DI := by
    cases hd with
    | nil => simp at x0
    | @sl cs _ cap hn h => exact ⟨cs, cap, rfl, ints_cells hn h⟩
  have hne : x.length ≠ 0 := by omega
  refine ownCall_K Try.func77 rfl (Nat.le_of_ble_eq_true rfl) fun M W0 => ?_
  refine KC.seq ?_
  refine KC.region ?_
  refine KT.step rfl rfl (K.box rfl) ?_
  refine KT.step rfl rfl (K.assign rfl) ?_
  refine KT.step rfl rfl (K.assign rfl) ?_
  refine KT.nil ?_
  refine thenK_n ?_
  refine KC.seq ?_
  refine KC.seq ?_
  refine KC.region ?_
  refine KT.step rfl rfl (K.fieldAddrO rfl Try.fld25_0 Try.size22) ?_
  refine KT.step rfl rfl (K.loadO (y := .d a) rfl (List.getElem?_concat_length ..) (by simp) rfl Try.agg22) ?_
  refine KT.step rfl rfl (K.move rfl) ?_
  refine KT.idx rfl rfl rfl (by assumption) rfl (by omega) Try.underlying22 Try.size23 fun c13 cs13 hq13 => ?_
  refine KT.step rfl rfl (K.load rfl Try.agg23) ?_
  refine KT.step rfl rfl (K.move rfl) ?_
  refine KT.step rfl rfl (K.call2 rfl rfl plainTry_46 (within46 hq13 hd (by omega) (by omega))) ?_
  refine KT.step rfl rfl (K.not rfl) ?_
  refine KT.nil ?_
  refine thenK_n ?_
  refine KC.cond rfl (fun hc17 => ?_) (fun hc17 => ?_)
  · skip
    simp at hc17
    rw [hw] at hc17; simp at hc17
  · skip
    simp at hc17
    refine KC.skip ?_
    refine thenK_n ?_
    refine KC.seq ?_
    refine KC.region ?_
    refine KT.step rfl rfl (K.build0 Try.underlying23 Try.one3) ?_
    refine KT.step rfl rfl (K.move rfl) ?_
    subst hcs
    refine KT.step rfl rfl (K.appAll rfl rfl (List.getElem?_concat_length ..) (by simp) (by rw [List.all_map, List.all_eq_true]; intro z hz; obtain ⟨k, hk, rfl⟩ := List.getElem_of_mem (List.mem_of_mem_take hz); simp; rfl) hne (by omega) Try.underlying23 Try.one3) ?_
    refine KT.step rfl rfl (K.assign rfl) ?_
    refine KT.nil ?_
    refine thenK_n ?_
    refine KC.seq ?_
    refine KC.seq ?_
    refine KC.region ?_
    refine KT.step rfl rfl (K.move rfl) ?_
    refine KT.step rfl rfl (K.lenO rfl Try.underlying23) ?_
    refine KT.step rfl rfl (K.move rfl) ?_
    refine KT.nil ?_
    refine thenK_n ?_
    refine KC.block ?_
    refine KC.sig (σ' := σ ++ [fB a b c, ⟨[], 0⟩, ⟨halfN x.length (fireW (tk post[t]) (tk pre[t]) (tk x)) (tk x) 0, 0⟩]) (by rw [← halfN_zero]; simp [fB]; rfl) ?_
    refine KC.loop (fun i => σ ++ [fB a b c, ⟨[], 0⟩, ⟨halfN x.length (fireW (tk post[t]) (tk pre[t]) (tk x)) (tk x) i, 0⟩]) (fun i => [(2, .d (DI (t : Int))), (3, .optr σ.length 0), (8, .osl (σ.length + 2) 0 x.length 1 x.length false), (22, .d (DI x.length)), (23, .d (DI i))]) (fun i => i ≤ x.length) (fun i => x.length - i) 0 (Nat.zero_le _) rfl (by simp [Go.Vm.look, extK, enterK]) ?_
    intro i hi
    refine KC.seq ?_
    refine KC.region ?_
    refine KT.step rfl rfl (K.lss rfl rfl) ?_
    refine KT.nil ?_
    refine thenK_n ?_
    refine KC.seq ?_
    refine KC.cond rfl (fun hc24 => ?_) (fun hc24 => ?_)
    · skip
      replace hc24 := of_decide_eq_true hc24
      refine KC.skip ?_
      refine thenK_n ?_
      refine KC.seq ?_
      refine KC.block ?_
      refine KC.seq ?_
      refine KC.region ?_
      refine KT.step rfl rfl (K.move rfl) ?_
      refine KT.step rfl rfl (K.assign rfl) ?_
      refine KT.nil ?_
      refine thenK_n ?_
      refine KC.seq ?_
      refine KC.region ?_
      refine KT.step rfl rfl (K.move rfl) ?_
      refine KT.step rfl rfl (K.move rfl) ?_
      refine KT.step rfl rfl (K.idxO rfl rfl (by omega) Try.underlying23 Try.size3) ?_
      refine KT.step rfl rfl (K.loadO rfl o3_2 (by simp) (halfN_get _ _ (by omega)) Try.agg3) ?_
      refine KT.step rfl rfl (K.neq rfl rfl) ?_
      refine KT.nil ?_
      refine thenK_n ?_
      refine KC.cond rfl (fun hc30 => ?_) (fun hc30 => ?_)
      · skip
        replace hc30 := of_decide_eq_true hc30
        have hpl : i < post[t].length := by omega
        have hql : i < pre[t].length := by omega
        have g1 := b1 pre[t][i] (List.getElem_mem hql)
        have g2 := b2 post[t][i] (List.getElem_mem hpl)
        have g3 := bx i
        refine KC.draw Try.mixed ?_
        refine KT.step rfl rfl (K.move rfl) ?_
        refine KT.step rfl rfl (K.move rfl) ?_
        refine KT.step rfl rfl (K.idxO rfl rfl (by omega) Try.underlying23 Try.size3) ?_
        refine KT.step rfl rfl (K.loadO rfl o3_2 (by simp) (halfN_get _ _ (by omega)) Try.agg3) ?_
        refine KT.step rfl rfl (K.fieldAddrO rfl Try.fld25_1 Try.size22) ?_
        refine KT.step rfl rfl (K.loadO (y := .d b) rfl o3_0 (by unfold fB; simp) rfl Try.agg22) ?_
        refine KT.step rfl rfl (K.move rfl) ?_
        refine KT.idx rfl rfl rfl (by assumption) rfl (by omega) Try.underlying22 Try.size23 fun c38 cs38 hq38 => ?_
        refine KT.step rfl rfl (K.load rfl Try.agg23) ?_
        refine KT.step rfl rfl (K.move rfl) ?_
        refine KT.idxI rfl rfl rfl (by assumption) rfl (by omega) Try.underlying23 Try.size3 fun cs41 => ?_
        refine KT.step rfl rfl (K.load rfl Try.agg3) ?_
        refine KT.step rfl rfl (K.fieldAddrO rfl Try.fld25_0 Try.size22) ?_
        refine KT.step rfl rfl (K.loadO (y := .d a) rfl o3_0 (by unfold fB; simp) rfl Try.agg22) ?_
        refine KT.step rfl rfl (K.move rfl) ?_
        refine KT.idx rfl rfl rfl (by assumption) rfl (by omega) Try.underlying22 Try.size23 fun c46 cs46 hq46 => ?_
        refine KT.step rfl rfl (K.load rfl Try.agg23) ?_
        refine KT.step rfl rfl (K.move rfl) ?_
        refine KT.idxI rfl rfl rfl (by assumption) rfl (by omega) Try.underlying23 Try.size3 fun cs49 => ?_
        refine KT.step rfl rfl (K.load rfl Try.agg3) ?_
        refine KT.step rfl rfl (K.sub rfl rfl (wrap_id (by omega))) ?_
        refine KT.step rfl rfl (K.add rfl rfl (wrap_id (by omega))) ?_
        refine KT.step rfl rfl (K.idxO rfl rfl (by omega) Try.underlying23 Try.size3) ?_
        refine KT.step rfl rfl (K.storeO rfl rfl o3_2 (by rw [halfN_len]; omega) rfl rfl Try.size3) ?_
        refine KT.nil ?_
        refine ⟨by kernel_rfl, ?_⟩
        refine blockK_n ?_
        refine thenK_n ?_
        refine KC.region ?_
        refine KT.step rfl rfl (K.add rfl rfl (wrap_id (by omega))) ?_
        refine KT.step rfl rfl (K.move rfl) ?_
        refine KT.nil ?_
        refine thenK_n ?_
        refine ⟨i + 1, by omega, by omega, ?_, by simp [Go.Vm.look, extK]⟩
        have ef : (fireW (tk post[t]) (tk pre[t]) (tk x)) i = tk x i + (post[t][i] - pre[t][i]) := by unfold fireW; rw [if_pos hc30, tk_get hpl, tk_get hql]
        rw [o3_set, ← ef, halfN_set (fireW (tk post[t]) (tk pre[t]) (tk x)) (tk x) (show i < x.length by omega)]
      · skip
        replace hc30 := of_decide_eq_false hc30
        refine KC.skip ?_
        refine blockK_n ?_
        refine thenK_n ?_
        refine KC.region ?_
        refine KT.step rfl rfl (K.add rfl rfl (wrap_id (by omega))) ?_
        refine KT.step rfl rfl (K.move rfl) ?_
        refine KT.nil ?_
        refine thenK_n ?_
        refine ⟨i + 1, by omega, by omega, ?_, by simp [Go.Vm.look, extK]⟩
        rw [← halfN_same (fireW (tk post[t]) (tk pre[t]) (tk x)) (tk x) (show i < x.length by omega) (by unfold fireW; rw [if_neg hc30])]
    · skip
      replace hc24 := of_decide_eq_false hc24
      refine KC.exit ?_
      refine thenK_x ?_
      refine thenK_x ?_
      refine blockK_e ?_
      refine thenK_n ?_
      refine KC.seq ?_
      refine KC.region ?_
      refine KT.step rfl rfl (K.move rfl) ?_
      refine KT.step rfl rfl (K.assign rfl) ?_
      refine KT.step rfl rfl (K.assign rfl) ?_
      refine KT.nil ?_
      refine thenK_n ?_
      refine KC.ret ?_
      obtain rfl : i = x.length := by omega
      exact ⟨.inl rfl, rfl, rfl⟩
set_option maxRecDepth 10000 in
theorem rfire77_no {σ : List VObj} {a b c d : DV} {pre post : List (List Int)} {x : List Int} {t : Nat} (ha : Mat a pre) (hb : Mat b post) (hd : Ints d x) (x0 : 0 < x.length) (x6 : x.length ≤ 6) (ht : t < pre.length) (ht2 : t < post.length) (e1 : pre[t].length = x.length) (e2 : post[t].length = x.length)
    (b1 : ∀ n ∈ pre[t], 0 ≤ n ∧ n ≤ 3) (b2 : ∀ n ∈ post[t], 0 ≤ n ∧ n ≤ 3) (bx : ∀ p, 0 ≤ tk x p ∧ tk x p ≤ 1099511627776) (hw : withinB pre[t] x = false) :
    OwnCall Try.prog 77 σ [.d (.agg [a, b, c]), .d d, .d (DI (t : Int))] (σ ++ [fB a b c]) (.tup [.d Dnil, .d (DB false)]) := by
  obtain ⟨cs, cap, rfl, hcs⟩ : ∃ cs cap, d = .sl cs x.length cap ∧ cs = x.map DI := by
    cases hd with
    | nil => simp at x0
    | @sl cs _ cap hn h => exact ⟨cs, cap, rfl, ints_cells hn h⟩
  have hne : x.length ≠ 0 := by omega
  refine ownCall_K Try.func77 rfl (Nat.le_of_ble_eq_true rfl) fun M W0 => ?_
  refine KC.seq ?_
  refine KC.region ?_
  refine KT.step rfl rfl (K.box rfl) ?_
  refine KT.step rfl rfl (K.assign rfl) ?_
  refine KT.step rfl rfl (K.assign rfl) ?_
  refine KT.nil ?_
  refine thenK_n ?_
  refine KC.seq ?_
  refine KC.seq ?_
  refine KC.region ?_
  refine KT.step rfl rfl (K.fieldAddrO rfl Try.fld25_0 Try.size22) ?_
  refine KT.step rfl rfl (K.loadO (y := .d a) rfl (List.getElem?_concat_length ..) (by simp) rfl Try.agg22) ?_
  refine KT.step rfl rfl (K.move rfl) ?_
  refine KT.idx rfl rfl rfl (by assumption) rfl (by omega) Try.underlying22 Try.size23 fun c13 cs13 hq13 => ?_
  refine KT.step rfl rfl (K.load rfl Try.agg23) ?_
  refine KT.step rfl rfl (K.move rfl) ?_
  refine KT.step rfl rfl (K.call2 rfl rfl plainTry_46 (within46 hq13 hd (by omega) (by omega))) ?_
  refine KT.step rfl rfl (K.not rfl) ?_
  refine KT.nil ?_
  refine thenK_n ?_
  refine KC.cond rfl (fun hc17 => ?_) (fun hc17 => ?_)
  · skip
    simp at hc17
    refine KC.seq ?_
    refine KC.region ?_
    refine KT.step rfl rfl (K.assign rfl) ?_
    refine KT.step rfl rfl (K.assign rfl) ?_
    refine KT.nil ?_
    refine thenK_n ?_
    refine KC.ret ?_
    refine thenK_r ?_
    exact ⟨.inl rfl, rfl, rfl⟩
  · skip
    simp at hc17
    rw [hw] at hc17; simp at hc17
end Go.Proofs.Ytocgjopmlhpjdaa

