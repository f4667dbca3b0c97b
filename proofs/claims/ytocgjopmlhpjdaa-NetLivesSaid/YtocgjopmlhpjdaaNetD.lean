import Derived.Test.YtocgjopmlhpjdaaNetC
/-
  Nets: firing, by the program and by the reference.
-/
namespace Go.Proofs.Ytocgjopmlhpjdaa
open Go.Vm
theorem plainTry_19 : plainFn Try.prog 19 = true := by kernel_rfl

def halfN (n : Nat) (F G : Nat → Int) (i : Nat) : List XV := (List.range n).map fun k => .d (DI (if k < i then F k else G k))
theorem halfN_len (n : Nat) (F G : Nat → Int) (i : Nat) : (halfN n F G i).length = n := by simp [halfN]
theorem halfN_get {n : Nat} (F G : Nat → Int) {i : Nat} (hi : i < n) : (halfN n F G i)[0 + i]? = some (.d (DI (G i))) := by
  rw [Nat.zero_add]; simp [halfN, hi]
theorem halfN_full (n : Nat) (F G : Nat → Int) : halfN n F G n = ((List.range n).map fun p => DI (F p)).map .d := by
  rw [List.map_map]
  refine List.map_congr_left fun k hk => ?_
  rw [if_pos (by simpa using hk)]; rfl
theorem halfN_set {n : Nat} (F G : Nat → Int) {i : Nat} (hi : i < n) : (halfN n F G i).set (0 + i) (.d (DI (F i))) = halfN n F G (i + 1) := by
  rw [Nat.zero_add]
  refine List.ext_getElem? fun k => ?_
  rw [List.getElem?_set]
  by_cases hk : k < n
  · by_cases e : i = k
    · subst e; simp [halfN, hk]
    · rw [if_neg e]
      simp only [halfN, List.getElem?_map, List.getElem?_range hk, Option.map_some, Option.some.injEq, XV.d.injEq]
      by_cases h : k < i
      · rw [if_pos h, if_pos (by omega)]
      · rw [if_neg h, if_neg (by omega)]
  · rw [if_neg (by omega), List.getElem?_eq_none (by simp [halfN]; omega), List.getElem?_eq_none (by simp [halfN]; omega)]
theorem halfN_same {n : Nat} (F G : Nat → Int) {i : Nat} (hi : i < n) (h : F i = G i) : halfN n F G i = halfN n F G (i + 1) := by
  rw [← halfN_set F G hi, h]
  refine List.ext_getElem? fun k => ?_
  rw [List.getElem?_set]
  by_cases e : 0 + i = k
  · subst e; rw [if_pos rfl, if_pos (by rw [halfN_len]; omega), halfN_get _ _ hi]
  · rw [if_neg e]
theorem halfN_zero (F : Nat → Int) (x : List Int) : ((x.map DI).take x.length).map XV.d = halfN x.length F (tk x) 0 := by
  rw [List.take_of_length_le (by simp), List.map_map]
  refine List.ext_getElem? fun k => ?_
  by_cases hk : k < x.length
  · simp [halfN, hk, tk]
  · rw [List.getElem?_eq_none (by simp; omega), List.getElem?_eq_none (by simp [halfN]; omega)]
theorem deepen_tup {σ : List VObj} {k : Nat} {xs : List XV} : deepen σ (k + 1) (.tup xs) = (xs.mapM (deepen σ k)).map .tup := rfl
theorem tk_get {l : List Int} {p : Nat} (h : p < l.length) : tk l p = l[p] := by simp [tk, h]
set_option maxRecDepth 10000 in
theorem rfire77 {a b c d : DV} {pre post : List (List Int)} {x : List Int} {t : Nat} (ha : Mat a pre) (hb : Mat b post) (hd : Ints d x) (x0 : 0 < x.length) (x6 : x.length ≤ 6) (ht : t < pre.length) (ht2 : t < post.length) (e1 : pre[t].length = x.length) (e2 : post[t].length = x.length)
    (b1 : ∀ n ∈ pre[t], 0 ≤ n ∧ n ≤ 3) (b2 : ∀ n ∈ post[t], 0 ≤ n ∧ n ≤ 3) (bx : ∀ p, 0 ≤ tk x p ∧ tk x p ≤ 1099511627776) : DeepCall Try.prog 77 [.agg [a, b, c], d, DI (t : Int)] (if withinB pre[t] x then .tup [numD x.length (fireW (tk post[t]) (tk pre[t]) (tk x)), DB true] else .tup [Dnil, DB false]) := by
  obtain ⟨cs, cap, rfl, hcs⟩ : ∃ cs cap, d = .sl cs x.length cap ∧ cs = x.map DI := by
    cases hd with
    | nil => simp at x0
    | @sl cs _ cap hn h => exact ⟨cs, cap, rfl, ints_cells hn h⟩
  have hne : x.length ≠ 0 := by omega
  refine deepCall_K 5 Try.func77 rfl (Nat.le_of_ble_eq_true rfl) fun M W0 => ?_
  refine KC.seq ?_
  refine KC.region ?_
  refine KT.step rfl rfl (K.box rfl) ?_
  refine KT.step rfl rfl (K.assign rfl) ?_
  refine KT.step rfl rfl (K.assign rfl) ?_
  refine KT.nil ?_
  refine thenK_n ?_
  refine KC.seq ?_
  refine KC.seq ?_
  refine KC.region ?_
  refine KT.step rfl rfl (K.fieldAddrO rfl Try.fld25_0 Try.size22) ?_
  refine KT.step rfl rfl (K.loadO rfl rfl (by simp) rfl Try.agg22) ?_
  refine KT.step rfl rfl (K.move rfl) ?_
  refine KT.idx rfl rfl rfl (by assumption) rfl (by omega) Try.underlying22 Try.size23 fun c13 cs13 hq13 => ?_
  refine KT.step rfl rfl (K.load rfl Try.agg23) ?_
  refine KT.step rfl rfl (K.move rfl) ?_
  refine KT.step rfl rfl (K.call2 rfl rfl plainTry_46 (within46 hq13 hd (by omega) (by omega))) ?_
  refine KT.step rfl rfl (K.not rfl) ?_
  refine KT.nil ?_
  refine thenK_n ?_
  refine KC.cond rfl (fun hc17 => ?_) (fun hc17 => ?_)
  · skip
    simp at hc17
    refine KC.seq ?_
    refine KC.region ?_
    refine KT.step rfl rfl (K.assign rfl) ?_
    refine KT.step rfl rfl (K.assign rfl) ?_
    refine KT.nil ?_
    refine thenK_n ?_
    refine KC.ret ?_
    refine thenK_r ?_
    refine ⟨.inl rfl, _, rfl, ?_⟩
    rw [if_neg (by simp [hc17])]
    rfl
  · skip
    simp at hc17
    refine KC.skip ?_
    refine thenK_n ?_
    refine KC.seq ?_
    refine KC.region ?_
    refine KT.step rfl rfl (K.build0 Try.underlying23 Try.one3) ?_
    refine KT.step rfl rfl (K.move rfl) ?_
    subst hcs
    refine KT.step rfl rfl (K.appAll rfl rfl rfl (by simp) (by rw [List.all_map, List.all_eq_true]; intro z hz; obtain ⟨k, hk, rfl⟩ := List.getElem_of_mem (List.mem_of_mem_take hz); simp; rfl) hne (by omega) Try.underlying23 Try.one3) ?_
    refine KT.step rfl rfl (K.assign rfl) ?_
    refine KT.nil ?_
    refine thenK_n ?_
    refine KC.seq ?_
    refine KC.seq ?_
    refine KC.region ?_
    refine KT.step rfl rfl (K.move rfl) ?_
    refine KT.step rfl rfl (K.lenO rfl Try.underlying23) ?_
    refine KT.step rfl rfl (K.move rfl) ?_
    refine KT.nil ?_
    refine thenK_n ?_
    refine KC.block ?_
    refine KC.loop (fun i => [⟨[.d a, .d b, .d c], 0⟩, ⟨[], 0⟩, ⟨halfN x.length (fireW (tk post[t]) (tk pre[t]) (tk x)) (tk x) i, 0⟩]) (fun i => [(2, .d (DI (t : Int))), (3, .optr 0 0), (8, .osl 2 0 x.length 1 x.length false), (22, .d (DI x.length)), (23, .d (DI i))]) (fun i => i ≤ x.length) (fun i => x.length - i) 0 (Nat.zero_le _) (by rw [← halfN_zero]; rfl) (by simp [Go.Vm.look, extK, enterK]) ?_
    intro i hi
    refine KC.seq ?_
    refine KC.region ?_
    refine KT.step rfl rfl (K.lss rfl rfl) ?_
    refine KT.nil ?_
    refine thenK_n ?_
    refine KC.seq ?_
    refine KC.cond rfl (fun hc24 => ?_) (fun hc24 => ?_)
    · skip
      replace hc24 := of_decide_eq_true hc24
      refine KC.skip ?_
      refine thenK_n ?_
      refine KC.seq ?_
      refine KC.block ?_
      refine KC.seq ?_
      refine KC.region ?_
      refine KT.step rfl rfl (K.move rfl) ?_
      refine KT.step rfl rfl (K.assign rfl) ?_
      refine KT.nil ?_
      refine thenK_n ?_
      refine KC.seq ?_
      refine KC.region ?_
      refine KT.step rfl rfl (K.move rfl) ?_
      refine KT.step rfl rfl (K.move rfl) ?_
      refine KT.step rfl rfl (K.idxO rfl rfl (by omega) Try.underlying23 Try.size3) ?_
      refine KT.step rfl rfl (K.loadO rfl rfl (by simp) (halfN_get _ _ (by omega)) Try.agg3) ?_
      refine KT.step rfl rfl (K.neq rfl rfl) ?_
      refine KT.nil ?_
      refine thenK_n ?_
      refine KC.cond rfl (fun hc30 => ?_) (fun hc30 => ?_)
      · skip
        replace hc30 := of_decide_eq_true hc30
        have hpl : i < post[t].length := by omega
        have hql : i < pre[t].length := by omega
        have g1 := b1 pre[t][i] (List.getElem_mem hql)
        have g2 := b2 post[t][i] (List.getElem_mem hpl)
        have g3 := bx i
        refine KC.draw Try.mixed ?_
        refine KT.step rfl rfl (K.move rfl) ?_
        refine KT.step rfl rfl (K.move rfl) ?_
        refine KT.step rfl rfl (K.idxO rfl rfl (by omega) Try.underlying23 Try.size3) ?_
        refine KT.step rfl rfl (K.loadO rfl rfl (by simp) (halfN_get _ _ (by omega)) Try.agg3) ?_
        refine KT.step rfl rfl (K.fieldAddrO rfl Try.fld25_1 Try.size22) ?_
        refine KT.step rfl rfl (K.loadO rfl rfl (by simp) rfl Try.agg22) ?_
        refine KT.step rfl rfl (K.move rfl) ?_
        refine KT.idx rfl rfl rfl (by assumption) rfl (by omega) Try.underlying22 Try.size23 fun c38 cs38 hq38 => ?_
        refine KT.step rfl rfl (K.load rfl Try.agg23) ?_
        refine KT.step rfl rfl (K.move rfl) ?_
        refine KT.idxI rfl rfl rfl (by assumption) rfl (by omega) Try.underlying23 Try.size3 fun cs41 => ?_
        refine KT.step rfl rfl (K.load rfl Try.agg3) ?_
        refine KT.step rfl rfl (K.fieldAddrO rfl Try.fld25_0 Try.size22) ?_
        refine KT.step rfl rfl (K.loadO rfl rfl (by simp) rfl Try.agg22) ?_
        refine KT.step rfl rfl (K.move rfl) ?_
        refine KT.idx rfl rfl rfl (by assumption) rfl (by omega) Try.underlying22 Try.size23 fun c46 cs46 hq46 => ?_
        refine KT.step rfl rfl (K.load rfl Try.agg23) ?_
        refine KT.step rfl rfl (K.move rfl) ?_
        refine KT.idxI rfl rfl rfl (by assumption) rfl (by omega) Try.underlying23 Try.size3 fun cs49 => ?_
        refine KT.step rfl rfl (K.load rfl Try.agg3) ?_
        refine KT.step rfl rfl (K.sub rfl rfl (wrap_id (by omega))) ?_
        refine KT.step rfl rfl (K.add rfl rfl (wrap_id (by omega))) ?_
        refine KT.step rfl rfl (K.idxO rfl rfl (by omega) Try.underlying23 Try.size3) ?_
        refine KT.step rfl rfl (K.storeO rfl rfl rfl (by rw [halfN_len]; omega) rfl rfl Try.size3) ?_
        refine KT.nil ?_
        refine ⟨by kernel_rfl, ?_⟩
        refine blockK_n ?_
        refine thenK_n ?_
        refine KC.region ?_
        refine KT.step rfl rfl (K.add rfl rfl (wrap_id (by omega))) ?_
        refine KT.step rfl rfl (K.move rfl) ?_
        refine KT.nil ?_
        refine thenK_n ?_
        refine ⟨i + 1, by omega, by omega, ?_, by simp [Go.Vm.look, extK]⟩
        rw [← halfN_set (fireW (tk post[t]) (tk pre[t]) (tk x)) (tk x) (show i < x.length by omega)]
        have ef : fireW (tk post[t]) (tk pre[t]) (tk x) i = tk x i + (post[t][i] - pre[t][i]) := by unfold fireW; rw [if_pos hc30, tk_get hpl, tk_get hql]
        rw [ef]
        rfl
      · skip
        replace hc30 := of_decide_eq_false hc30
        refine KC.skip ?_
        refine blockK_n ?_
        refine thenK_n ?_
        refine KC.region ?_
        refine KT.step rfl rfl (K.add rfl rfl (wrap_id (by omega))) ?_
        refine KT.step rfl rfl (K.move rfl) ?_
        refine KT.nil ?_
        refine thenK_n ?_
        refine ⟨i + 1, by omega, by omega, ?_, by simp [Go.Vm.look, extK]⟩
        rw [← halfN_same (fireW (tk post[t]) (tk pre[t]) (tk x)) (tk x) (show i < x.length by omega) (by unfold fireW; rw [if_neg hc30])]
    · skip
      replace hc24 := of_decide_eq_false hc24
      refine KC.exit ?_
      refine thenK_x ?_
      refine thenK_x ?_
      refine blockK_e ?_
      refine thenK_n ?_
      refine KC.seq ?_
      refine KC.region ?_
      refine KT.step rfl rfl (K.move rfl) ?_
      refine KT.step rfl rfl (K.assign rfl) ?_
      refine KT.step rfl rfl (K.assign rfl) ?_
      refine KT.nil ?_
      refine thenK_n ?_
      refine KC.ret ?_
      obtain rfl : i = x.length := by omega
      refine ⟨.inl rfl, _, rfl, ?_⟩
      rw [if_pos (by simp [hc17]), numD_sl _ x0]
      rw [deepen_tup, List.mapM_cons, deepen_osl (ob := ⟨((List.range x.length).map fun p => DI (fireW (tk post[t]) (tk pre[t]) (tk x) p)).map .d, 1⟩) (by rw [halfN_full]; rfl) rfl (by simp), List.drop_zero, List.take_of_length_le (by simp), mapM_deep]
      rfl
end Go.Proofs.Ytocgjopmlhpjdaa

