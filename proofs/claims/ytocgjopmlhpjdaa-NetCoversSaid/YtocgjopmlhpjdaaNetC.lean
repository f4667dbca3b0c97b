import Derived.Test.YtocgjopmlhpjdaaNetB
/-
  Nets: the net as arrays; firing, by the program and by the reference.
-/
namespace Go.Proofs.Ytocgjopmlhpjdaa
open Go.Vm
/-- Numbers in new memory. -/
def numD (n : Nat) (F : Nat → Int) : DV := slOf ((List.range n).map fun p => DI (F p))
theorem numD_sl {n : Nat} (F : Nat → Int) (h : 0 < n) : numD n F = .sl ((List.range n).map fun p => DI (F p)) n none := by
  cases n with
  | zero => omega
  | succ n => simp [numD, slOf, List.range_succ_eq_map]
theorem numD_ints {n : Nat} (F : Nat → Int) (h : 0 < n) : Ints (numD n F) ((List.range n).map F) := by
  rw [numD_sl F h]
  have : Ints (.sl ((List.range n).map fun p => DI (F p)) ((List.range n).map F).length none) ((List.range n).map F) := .sl (by simp) fun i c x hc hx => by
    rw [List.getElem?_map] at hc hx
    by_cases hi : i < n
    · rw [List.getElem?_range hi] at hc hx
      simp at hc hx
      subst hc hx; rfl
    · rw [List.getElem?_eq_none (by simp; omega)] at hc; cases hc
  simpa using this
theorem w6_take (X : Nat → Int) {n : Nat} (h : n ≤ 6) : (w6 X).take n = (List.range n).map fun p => DI (X p) := by
  unfold w6
  rw [← List.map_take, List.take_range, Nat.min_eq_left h]
set_option maxRecDepth 10000 in
theorem marking72 {size : Nat} {pre post : List (List Int)} {s : List Int} {X : Nat → Int} (h0 : 0 < size) (h6 : size ≤ 6) : DeepCall Try.prog 72 [sysD size pre post s, .agg (w6 X)] (numD size X) := by
  refine deepCall_K 5 Try.func72 rfl (Nat.le_of_ble_eq_true rfl) fun M W0 => ?_
  refine KC.seq ?_
  refine KC.region ?_
  refine KT.step rfl rfl (K.box rfl) ?_
  refine KT.step rfl rfl (K.box rfl) ?_
  refine KT.step rfl rfl (K.assign rfl) ?_
  refine KT.nil ?_
  refine thenK_n ?_
  refine KC.seq ?_
  refine KC.region ?_
  refine KT.step rfl rfl (K.fieldAddrO rfl Try.fld66_0 Try.size3) ?_
  refine KT.step rfl rfl (K.loadO rfl rfl (by simp) rfl Try.agg3) ?_
  refine KT.step rfl rfl (K.sliceAh (m := size) rfl rfl Try.underlying64 Try.size3 rfl (by simp) (by omega) (by omega) (by simp [cellsX, w6])) ?_
  have hdp : (([.osl 1 0 size 1 6 true] : List XV).mapM (deepen (freezeIds [⟨.d (DI size) :: .d (toksD pre) :: .d (toksD post) :: (w6 (tk s)).map .d, 0⟩, ⟨(w6 X).map .d, 0⟩] [1]) 5)) = some [.sl ((List.range size).map fun p => DI (X p)) size (some 6)] := by
    rw [List.mapM_cons, deepen_osl (ob := ⟨(w6 X).map .d, 1⟩) rfl rfl (by simp [w6]; omega), List.drop_zero, Nat.mul_one, ← List.map_take, w6_take X h6, mapM_deep]
    rfl
  refine KT.step rfl rfl (K.callZ [1] 5 rfl plainTry_38 hdp (clone38_all (by simp) (by rw [List.all_map, List.all_eq_true]; intro x hx; obtain ⟨i, hi, rfl⟩ := List.getElem_of_mem (List.mem_of_mem_take hx); simp; rfl) (by omega) (by omega))) ?_
  refine KT.step rfl rfl (K.assign rfl) ?_
  refine KT.nil ?_
  refine thenK_n ?_
  refine KC.ret ?_
  refine ⟨.inl rfl, _, rfl, fin_d ?_⟩
  simp only [cloneD]
  rw [if_neg (by omega), numD_sl X h0, List.take_of_length_le (by simp)]

theorem bytes64 : bytesT Try.prog 64 ≤ 65536 := of_decide_eq_true (by kernel_rfl)
theorem cells64 : (zeroT Try.prog 64).map (·.cells.size) = some 6 := by kernel_rfl
theorem w6_one (X : Nat → Int) : ((w6 X).map XV.d).all oneX = true := by
  rw [List.all_map, List.all_eq_true]
  intro x hx
  obtain ⟨i, hi, rfl⟩ := List.getElem_of_mem hx
  simp [w6, oneX, Value.oneCell']
theorem flatW_snoc (rows : List (List Int)) (i : Nat) (h : i < rows.length) : (flatW (rows.take i)).map XV.d ++ (w6 (tk rows[i])).map XV.d = (flatW (rows.take (i + 1))).map XV.d := by
  rw [List.take_succ_eq_append_getElem h]
  unfold flatW
  rw [List.flatMap_append, List.map_append]
  simp
/-- The loop of systemOf. -/
structure SysI (a b c : DV) (size : Nat) (pre post : List (List Int)) (s : List Int) (σ : List VObj) (x1 x2 : XV) (i : Nat) : Prop where
  le : i ≤ pre.length
  h0 : σ[0]? = some ⟨[.d a, .d b, .d c], 0⟩
  h1 : σ[1]? = some ⟨.d (DI 0) :: .d Dnil :: .d Dnil :: (w6 fun _ => 0).map .d, 0⟩
  h2 : σ[2]? = some ⟨.d (DI size) :: x1 :: x2 :: (w6 (tk s)).map .d, 0⟩
  o1 : OwnK 6 σ x1 ((flatW (pre.take i)).map .d)
  o2 : OwnK 6 σ x2 ((flatW (post.take i)).map .d)
  n1 : ∀ j, idX x1 = some j → 3 ≤ j
  n2 : ∀ j, idX x2 = some j → 3 ≤ j
  ne : ∀ j, idX x1 = some j → idX x2 ≠ some j
set_option maxRecDepth 4000 in
theorem build66 (size : Nat) (X : Nat → Int) : opBuild Try.prog 66 [(0, .d (DI size)), (3, .d (.agg (w6 X)))] = some (.d (.agg (DI size :: Dnil :: Dnil :: w6 X))) := by
  have hp := Try.places66
  rw [Try.underlying66] at hp
  simp only at hp
  have e1 : ((#[(0, 1), (1, 1), (2, 1), (3, 6)] : Array (Nat × Nat))[0]?) = some (0, 1) := rfl
  have e2 : ((#[(0, 1), (1, 1), (2, 1), (3, 6)] : Array (Nat × Nat))[3]?) = some (3, 6) := rfl
  simp [opBuild, Try.zero66, Try.underlying66, hp, fillP, cellsX, Value.cells, splice, aggX, allD, w6, List.range_succ]

theorem own_done {σ : List VObj} {x : XV} {rows : List (List Int)} (h : OwnK 6 σ x ((flatW rows).map .d)) (hne : (flatW rows).length ≠ 0) : ∃ t, x = .osl t 0 rows.length 6 rows.length false ∧ σ[t]? = some ⟨(flatW rows).map .d, 0⟩ := by
  generalize hc : (flatW rows).map XV.d = cells at h
  cases h with
  | nil => exact absurd (by have := congrArg List.length hc; simpa using this) hne
  | @sl t n cells h hn =>
    have : n = rows.length := by have := congrArg List.length hc; simp [flatW_len] at this; omega
    subst this
    exact ⟨t, rfl, h⟩
theorem sys_deep {σ : List VObj} {size t1 t2 : Nat} {pre post : List (List Int)} {s : List Int} (h1 : σ[t1]? = some ⟨(flatW pre).map .d, 0⟩) (h2 : σ[t2]? = some ⟨(flatW post).map .d, 0⟩) :
    deepen (freezeAll σ) 5 (.agg (.d (DI size) :: .osl t1 0 pre.length 6 pre.length false :: .osl t2 0 post.length 6 post.length false :: (w6 (tk s)).map .d)) = some (sysD size pre post s) := by
  have e : ∀ (t : Nat) (rows : List (List Int)), σ[t]? = some ⟨(flatW rows).map .d, 0⟩ → deepen (freezeAll σ) 4 (.osl t 0 rows.length 6 rows.length false) = some (toksD rows) := fun t rows h => by
    rw [deepen_osl (ob := ⟨(flatW rows).map .d, 1⟩) (by simp [freezeAll, h]) rfl (by simp [flatW_len]), List.drop_zero, List.take_of_length_le (by simp [flatW_len]), mapM_deep]
    rfl
  unfold deepen
  simp only [List.mapM_cons, e t1 pre h1, e t2 post h2]
  have := mapM_deep (σ := freezeAll σ) (k := 3) (w6 (tk s))
  rw [this]
  rfl
set_option maxRecDepth 10000 in
theorem systemOf59 {a b c : DV} {pre post : List (List Int)} {s : List Int} (ha : Mat a pre) (hb : Mat b post) (hc : Ints c s) (s0 : 0 < s.length) (s6 : s.length ≤ 6) (p0 : 0 < pre.length) (p6 : pre.length ≤ 6) (hpp : post.length = pre.length)
    (rp : ∀ r ∈ pre, r.length = s.length) (rq : ∀ r ∈ post, r.length = s.length) : DeepCall Try.prog 59 [.agg [a, b, c]] (sysD s.length pre post s) := by
  refine deepCall_K 5 Try.func59 rfl (Nat.le_of_ble_eq_true rfl) fun M W0 => ?_
  refine KC.seq ?_
  refine KC.region ?_
  refine KT.step rfl rfl (K.box rfl) ?_
  refine KT.step rfl rfl (K.alloc Try.zero66) ?_
  refine KT.nil ?_
  refine thenK_n ?_
  refine KC.seq ?_
  refine KC.draw Try.mixed ?_
  refine KT.step rfl rfl (K.fieldAddrO rfl Try.fld32_2 Try.size30) ?_
  refine KT.step rfl rfl (K.loadO rfl rfl (by simp) rfl Try.agg30) ?_
  refine KT.step rfl rfl (K.len rfl (by assumption) Try.underlying30) ?_
  refine KT.step rfl rfl (K.fieldAddrO rfl Try.fld32_2 Try.size30) ?_
  refine KT.step rfl rfl (K.loadO rfl rfl (by simp) rfl Try.agg30) ?_
  refine KT.step rfl rfl (K.call1 rfl plainTry_50 (tokensOf50 hc s0 s6)) ?_
  refine KT.step rfl rfl (K.build (x := .tmp 10) rfl (by simp) rfl rfl (build66 s.length (tk s))) ?_
  refine KT.step rfl rfl (K.alloc Try.zero66) ?_
  refine KT.step rfl rfl (K.storeN rfl rfl rfl (by simp [cellsX, w6, Value.cells]) (by simp [cellsX, w6, oneX, Value.oneCell']) Try.size66) ?_
  refine KT.nil ?_
  refine ⟨by kernel_rfl, ?_⟩
  refine thenK_n ?_
  refine KC.seq ?_
  refine KC.seq ?_
  refine KC.region ?_
  refine KT.step rfl rfl (K.fieldAddrO rfl Try.fld32_0 Try.size22) ?_
  refine KT.step rfl rfl (K.loadO rfl rfl (by simp) rfl Try.agg22) ?_
  refine KT.step rfl rfl (K.len rfl (by assumption) Try.underlying22) ?_
  refine KT.step rfl rfl (K.move rfl) ?_
  refine KT.nil ?_
  refine thenK_n ?_
  refine KC.block ?_
  refine KC.loop (fun p : List VObj × XV × XV × Nat => p.1) (fun p => [(1, .optr 0 0), (2, .optr 1 0), (3, .optr 2 0), (14, .d (DI pre.length)), (15, .d (DI p.2.2.2))]) (fun p => SysI a b c s.length pre post s p.1 p.2.1 p.2.2.1 p.2.2.2) (fun p => pre.length - p.2.2.2) ([⟨[.d a, .d b, .d c], 0⟩, ⟨.d (DI 0) :: .d Dnil :: .d Dnil :: (w6 fun _ => 0).map .d, 0⟩, ⟨.d (DI s.length) :: .d Dnil :: .d Dnil :: (w6 (tk s)).map .d, 0⟩], .d Dnil, .d Dnil, 0) ⟨Nat.zero_le _, rfl, rfl, rfl, .nil, .nil, (fun j h => by cases h), (fun j h => by cases h), (fun j h => by cases h)⟩ rfl (by simp [Go.Vm.look, extK, enterK]) ?_
  intro p hp
  obtain ⟨σ0, x1, x2, i⟩ := p
  simp only
  refine KC.seq ?_
  refine KC.region ?_
  refine KT.step rfl rfl (K.lss rfl rfl) ?_
  refine KT.nil ?_
  refine thenK_n ?_
  refine KC.seq ?_
  refine KC.cond rfl (fun hc16 => ?_) (fun hc16 => ?_)
  · skip
    replace hc16 := of_decide_eq_true hc16
    refine KC.skip ?_
    refine thenK_n ?_
    refine KC.seq ?_
    refine KC.block ?_
    refine KC.seq ?_
    refine KC.region ?_
    refine KT.step rfl rfl (K.move rfl) ?_
    refine KT.step rfl rfl (K.assign rfl) ?_
    refine KT.nil ?_
    refine thenK_n ?_
    refine KC.seq ?_
    refine KC.draw Try.mixed ?_
    obtain ⟨le, h0, h1, h2, o1, o2, n1, n2, ne⟩ := hp
    simp only at le h0 h1 h2 o1 o2 n1 n2 ne
    have hlt : i < pre.length := by omega
    have hlt2 : i < post.length := by omega
    have g2 := (List.getElem?_eq_some_iff.1 h2).1
    refine KT.step rfl rfl (K.fieldAddrO rfl Try.fld66_1 Try.size62) ?_
    refine KT.step rfl rfl (K.loadO rfl h2 (by simp) rfl Try.agg62) ?_
    refine KT.step rfl rfl (K.fieldAddrO rfl Try.fld32_0 Try.size22) ?_
    refine KT.step rfl rfl (K.loadO rfl h0 (by simp) rfl Try.agg22) ?_
    refine KT.step rfl rfl (K.move rfl) ?_
    refine KT.idx rfl rfl rfl (by assumption) rfl (by omega) Try.underlying22 Try.size23 fun c23 cs23 hq23 => ?_
    refine KT.step rfl rfl (K.load rfl Try.agg23) ?_
    refine KT.step rfl rfl (K.call1 rfl plainTry_50 (tokensOf50 hq23 (by rw [rp _ (List.getElem_mem hlt)]; exact s0) (by rw [rp _ (List.getElem_mem hlt)]; exact s6))) ?_
    refine KT.step rfl rfl (K.buildK rfl (by simp [w6]) Try.underlying62 Try.size64 Try.zero64 (by omega)) ?_
    refine KT.appK rfl rfl rfl rfl (o1.pushed _) (by simp; rfl) (by simp [w6]) (w6_one _) (by rw [List.length_map, flatW_len, List.length_take]; omega) Try.underlying62 Try.size64 bytes64 cells64 (by omega) fun σ1 y1 p1 k1 w1 => ?_
    obtain ⟨j1, e1, f1⟩ := w1
    rw [List.length_append, List.length_singleton] at f1
    have push : ∀ j, j < σ0.length → (σ0 ++ [⟨(w6 (tk pre[i])).map XV.d, 0⟩])[j]? = σ0[j]? := fun j hj => List.getElem?_append_left hj
    have a0 : σ1[0]? = some ⟨[.d a, .d b, .d c], 0⟩ := by rw [k1 0 (fun e => by have := n1 _ e; omega) (by simp <;> omega), push _ (by omega)]; exact h0
    have a1 := h1
    rw [← push 1 (by omega), ← k1 1 (fun e => by have := n1 _ e; omega) (by simp <;> omega)] at a1
    have a2 := h2
    rw [← push 2 (by omega), ← k1 2 (fun e => by have := n1 _ e; omega) (by simp <;> omega)] at a2
    have q2 : OwnK 6 σ1 x2 ((flatW (post.take i)).map .d) := o2.keep fun j hj => by
      have hl := o2.lt hj
      rw [k1 j (fun e => ne j e hj) (by simp <;> omega), push _ hl]
    rw [flatW_snoc _ _ hlt] at p1
    refine KT.step rfl rfl (K.fieldAddrO rfl Try.fld66_1 Try.size62) ?_
    refine KT.storeG rfl rfl rfl rfl a2 (by simp) p1.cells.1 p1.cells.2 Try.size62 fun σ2 l2 u2 v2 => ?_
    rw [show (List.set (.d (DI s.length) :: x1 :: x2 :: (w6 (tk s)).map XV.d) (0 + 1) y1) = .d (DI s.length) :: y1 :: x2 :: (w6 (tk s)).map XV.d from rfl] at u2
    have c0 := a0
    rw [← v2 0 (by omega)] at c0
    have c1 := a1
    rw [← v2 1 (by omega)] at c1
    have r1 : OwnK 6 σ2 y1 _ := p1.keep fun j hj => v2 j (by rw [e1] at hj; cases hj; omega)
    have r2 : OwnK 6 σ2 x2 _ := q2.keep fun j hj => v2 j (by have := n2 j hj; omega)
    have g3 := (List.getElem?_eq_some_iff.1 u2).1
    refine KT.nil ?_
    refine ⟨by kernel_rfl, ?_⟩
    refine thenK_n ?_
    refine KC.draw Try.mixed ?_
    refine KT.step rfl rfl (K.fieldAddrO rfl Try.fld66_2 Try.size62) ?_
    refine KT.step rfl rfl (K.loadO rfl u2 (by simp) rfl Try.agg62) ?_
    refine KT.step rfl rfl (K.fieldAddrO rfl Try.fld32_1 Try.size22) ?_
    refine KT.step rfl rfl (K.loadO rfl c0 (by simp) rfl Try.agg22) ?_
    refine KT.step rfl rfl (K.move rfl) ?_
    refine KT.idx rfl rfl rfl (by assumption) rfl (by omega) Try.underlying22 Try.size23 fun c34 cs34 hq34 => ?_
    refine KT.step rfl rfl (K.load rfl Try.agg23) ?_
    refine KT.step rfl rfl (K.call1 rfl plainTry_50 (tokensOf50 hq34 (by rw [rq _ (List.getElem_mem hlt2)]; exact s0) (by rw [rq _ (List.getElem_mem hlt2)]; exact s6))) ?_
    refine KT.step rfl rfl (K.buildK rfl (by simp [w6]) Try.underlying62 Try.size64 Try.zero64 (by omega)) ?_
    refine KT.appK rfl rfl rfl rfl (r2.pushed _) (by simp; rfl) (by simp [w6]) (w6_one _) (by rw [List.length_map, flatW_len, List.length_take]; omega) Try.underlying62 Try.size64 bytes64 cells64 (by omega) fun σ3 y2 p2 k2 w2 => ?_
    obtain ⟨j2, e2, f2⟩ := w2
    rw [List.length_append, List.length_singleton] at f2
    have push2 : ∀ j, j < σ2.length → (σ2 ++ [⟨(w6 (tk post[i])).map XV.d, 0⟩])[j]? = σ2[j]? := fun j hj => List.getElem?_append_left hj
    have d0 := c0
    rw [← push2 0 (by omega), ← k2 0 (fun e => by have := n2 _ e; omega) (by simp <;> omega)] at d0
    have d1 := c1
    rw [← push2 1 (by omega), ← k2 1 (fun e => by have := n2 _ e; omega) (by simp <;> omega)] at d1
    have a2' := u2
    rw [← push2 2 (by omega), ← k2 2 (fun e => by have := n2 _ e; omega) (by simp <;> omega)] at a2'
    have hj1 := p1.lt e1
    have q1 : OwnK 6 σ3 y1 _ := r1.keep fun j hj => by
      have hl := r1.lt hj
      have hne : idX x2 ≠ some j := fun e => by
        have hb := o2.lt e
        rw [e1] at hj; cases hj; omega
      rw [k2 j hne (by simp <;> omega), push2 _ hl]
    rw [flatW_snoc _ _ hlt2] at p2
    refine KT.step rfl rfl (K.fieldAddrO rfl Try.fld66_2 Try.size62) ?_
    refine KT.storeG rfl rfl rfl rfl a2' (by simp) p2.cells.1 p2.cells.2 Try.size62 fun σ4 l4 u4 v4 => ?_
    rw [show (List.set (.d (DI s.length) :: y1 :: x2 :: (w6 (tk s)).map XV.d) (0 + 2) y2) = .d (DI s.length) :: y1 :: y2 :: (w6 (tk s)).map XV.d from rfl] at u4
    refine KT.nil ?_
    refine ⟨by kernel_rfl, ?_⟩
    refine blockK_n ?_
    refine thenK_n ?_
    refine KC.region ?_
    refine KT.step rfl rfl (K.add rfl rfl (wrap_id (by omega))) ?_
    refine KT.step rfl rfl (K.move rfl) ?_
    refine KT.nil ?_
    refine thenK_n ?_
    refine ⟨(σ4, y1, y2, i + 1), ⟨by simp only; omega, ?_, ?_, u4, ?_, ?_, ?_, ?_, ?_⟩, by simp only; omega, rfl, by simp [Go.Vm.look, extK]⟩
    · rw [v4 0 (by omega)]; exact d0
    · rw [v4 1 (by omega)]; exact d1
    · exact q1.keep fun j hj => v4 j (by rw [e1] at hj; cases hj; omega)
    · exact p2.keep fun j hj => v4 j (by rw [e2] at hj; cases hj; omega)
    · intro j hj; rw [e1] at hj; cases hj; omega
    · intro j hj; rw [e2] at hj; cases hj; omega
    · intro j hj h; rw [e1] at hj; rw [e2] at h; cases hj; cases h; rw [l2] at f2; omega
  · skip
    replace hc16 := of_decide_eq_false hc16
    obtain ⟨le, h0, h1, h2, o1, o2, n1, n2, ne⟩ := hp
    simp only at le h0 h1 h2 o1 o2 n1 n2 ne
    obtain rfl : i = pre.length := by omega
    rw [List.take_length] at o1
    rw [show post.take pre.length = post by rw [← hpp]; exact List.take_length] at o2
    obtain ⟨t1, rfl, t3⟩ := own_done o1 (by rw [flatW_len]; omega)
    obtain ⟨t2, rfl, t4⟩ := own_done o2 (by rw [flatW_len]; omega)
    refine KC.exit ?_
    refine thenK_x ?_
    refine thenK_x ?_
    refine blockK_e ?_
    refine thenK_n ?_
    refine KC.seq ?_
    refine KC.region ?_
    refine KT.step rfl rfl (K.loadOAgg (m := 9) rfl h2 (by simp) Try.agg66 Try.size66 (by simp [w6])) ?_
    refine KT.step rfl rfl (K.storeN (v := .agg (.d (DI s.length) :: .osl t1 0 pre.length 6 pre.length false :: .osl t2 0 post.length 6 post.length false :: (w6 (tk s)).map .d)) rfl rfl h1 (by simp [cellsX, w6]) (by simp [cellsX, w6, oneX, Value.oneCell']) Try.size66) ?_
    refine KT.nil ?_
    refine thenK_n ?_
    refine KC.ret ?_
    refine ⟨.inl rfl, _, resK_agg (m := 9) rfl rfl (by rw [List.getElem?_set, if_pos rfl, if_pos (List.getElem?_eq_some_iff.1 h1).1]) (by simp) Try.agg66 Try.size66 (by simp [w6, splice, cellsX]), ?_⟩
    refine sys_deep ?_ ?_
    · rw [List.getElem?_set, if_neg (fun e => by have := n1 t1 rfl; omega)]; exact t3
    · rw [List.getElem?_set, if_neg (fun e => by have := n2 t2 rfl; omega)]; exact t4
end Go.Proofs.Ytocgjopmlhpjdaa

