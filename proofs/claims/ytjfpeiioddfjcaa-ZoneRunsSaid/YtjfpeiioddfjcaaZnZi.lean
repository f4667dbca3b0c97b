import Derived.Test.YtjfpeiioddfjcaaZnZh
import Derived.Test.YtjfpeiioddfjcaaZnYc
/-
  Automata: the automaton that the program gets.
-/
namespace Go.Proofs.Ytjfpeiioddfjcaa
open Go.Vm Go.Zn
theorem plainTry_42 : plainFn Try.prog 42 = true := by kernel_rfl

theorem build62a (a : Int) : pureRun Try.prog (Instr.build 62 #[(0, .int .i64 a)]) = some (.agg #[.int .i64 a, .slice none 0 0, .slice none 0 0]) := by kernel_rfl
theorem build122a (a b r : Int) : pureRun Try.prog (Instr.build 122 #[(0, .int .i64 a), (1, .int .i64 b), (2, .slice none 0 0), (3, .int .i64 r)]) = some (.agg #[.int .i64 a, .int .i64 b, .slice none 0 0, .int .i64 r]) := by kernel_rfl
theorem gdC_sl (L : List G3) : SlD (gdC L) := by unfold gdC; split; exact .nil; exact .sl _ _ _
def iCs (I : List (List G3)) : List DV := I.map gdC
def edCs (e : Ed) : List DV := [DI e.1, DI e.2.1, gdC e.2.2.1, DI e.2.2.2]
def eCs (E : List Ed) : List DV := E.flatMap edCs
theorem eCs_len (E : List Ed) : (eCs E).length = E.length * 4 := by
  induction E with
  | nil => rfl
  | cons r rows ih => simp [eCs] at ih ⊢; rw [ih]; simp [edCs]; omega
def ofI (I : List (List G3)) : DV := if iCs (I.take 7) = [] then Dnil else .sl (iCs (I.take 7)) (I.take 7).length none
def ofE (E : List Ed) : DV := if eCs (E.take 10) = [] then Dnil else .sl (eCs (E.take 10)) (E.take 10).length none
theorem iCs_take {I : List (List G3)} {i : Nat} (h : i < I.length) : iCs (I.take (i + 1)) = iCs (I.take i) ++ [gdC I[i]] := by
  unfold iCs
  rw [List.take_add_one, List.getElem?_eq_getElem h, List.map_append]; rfl
theorem eCs_take {E : List Ed} {i : Nat} (h : i < E.length) : eCs (E.take (i + 1)) = eCs (E.take i) ++ edCs E[i] := by
  unfold eCs
  rw [List.take_add_one, List.getElem?_eq_getElem h, List.flatMap_append]
  show _ ++ (edCs E[i] ++ []) = _
  rw [List.append_nil]
theorem take_end {α : Type} {l : List α} {i n : Nat} (h : i = n ∨ i = l.length ∧ i ≤ n) : l.take i = l.take n := by
  rcases h with e | ⟨e, e2⟩
  · rw [e]
  · rw [List.take_of_length_le (by omega), List.take_of_length_le (by omega)]
theorem own_set {k : Nat} {σ : List VObj} {x : XV} {cells : List XV} {i : Nat} {o : VObj} (h : OwnK k σ x cells) (hx : ∀ j, idX x = some j → 3 ≤ j) (hi : i < 3) : OwnK k (σ.set i o) x cells :=
  h.keep fun j hj => set_nb (by have := hx j hj; omega)
theorem gdC_one (L : List G3) : [XV.d (gdC L)].all oneX = true := by
  show (oneX (.d (gdC L)) && true) = true
  rw [(gdC_sl L).one]; rfl
theorem edC_one {a b r : Int} (L : List G3) : [XV.d (DI a), .d (DI b), .d (gdC L), .d (DI r)].all oneX = true := by
  show (true && (true && (oneX (.d (gdC L)) && (true && true)))) = true
  rw [(gdC_sl L).one]; rfl
set_option maxHeartbeats 4000000 in
set_option maxRecDepth 10000 in
theorem of42 {iD eD : DV} {I : List (List G3)} {E : List Ed} {c : Int} (hI : GdsL iD I) (hE : Eds eD E) (hIl : I.length ≤ 9223372036854775807) (hEl : E.length ≤ 9223372036854775807) (hIr : ∀ L ∈ I, L.length ≤ 9223372036854775807) (hEr : ∀ e ∈ E, e.2.2.1.length ≤ 9223372036854775807) : DeepCall Try.prog 42 [.agg [DI c, iD, eD]] (.agg [DI c, ofI I, ofE E]) := by
  refine deepCall_K 7 Try.func42 rfl (Nat.le_of_ble_eq_true rfl) fun M W0 => ?_
  refine KC.seq ?_
  refine KC.region ?_
  refine KT.step rfl rfl (K.box rfl) ?_
  refine KT.step rfl rfl (K.alloc Try.zero62) ?_
  refine KT.nil ?_
  refine thenK_n ?_
  refine KC.seq ?_
  refine KC.region ?_
  refine KT.step rfl rfl (K.fieldAddrO rfl Try.fld56_0 Try.size3) ?_
  refine KT.step rfl rfl (K.loadO rfl rfl (by simp) rfl Try.agg3) ?_
  refine KT.step rfl rfl (K.buildL rfl (build62a _)) ?_
  refine KT.step rfl rfl (K.alloc Try.zero62) ?_
  refine KT.storeL (cs := [.d (DI c), .d Dnil, .d Dnil]) rfl rfl rfl rfl rfl rfl rfl Try.size62 ?_
  refine KT.nil ?_
  refine thenK_n ?_
  refine KC.seq ?_
  refine KC.seq ?_
  have y0a : ([⟨[.d (DI c), .d iD, .d eD], 0⟩, ⟨[.d (DI 0), .d Dnil, .d Dnil], 0⟩, ⟨[.d (DI c), .d Dnil, .d Dnil], 0⟩] : List VObj)[0]? = some ⟨[.d (DI c), .d iD, .d eD], 0⟩ := rfl
  refine KC.region ?_
  refine KT.step rfl rfl (K.fieldAddrO rfl Try.fld56_1 Try.size53) ?_
  refine KT.step rfl rfl (K.loadO rfl y0a (by simp) rfl Try.agg53) ?_
  refine KT.step rfl rfl (K.len rfl hI Try.underlying53) ?_
  refine KT.step rfl rfl (K.move rfl) ?_
  refine KT.nil ?_
  refine thenK_n ?_
  refine KC.block ?_
  refine KC.loop (fun p : List VObj × XV × Nat => p.1) (fun p => [(1, .optr 0 0), (2, .optr 1 0), (3, .optr 2 0), (12, .d iD), (13, .d (DI (I.length : Nat))), (14, .d (DI (p.2.2 : Nat)))])
    (fun p => (p.1[0]? = some ⟨[.d (DI c), .d iD, .d eD], 0⟩ ∧ p.1[1]? = some ⟨[.d (DI 0), .d Dnil, .d Dnil], 0⟩ ∧ p.1[2]? = some ⟨[.d (DI c), p.2.1, .d Dnil], 0⟩ ∧ 3 ≤ p.1.length) ∧ (p.2.2 ≤ I.length ∧ p.2.2 ≤ 7) ∧ OwnK 1 p.1 p.2.1 ((iCs (I.take p.2.2)).map .d) ∧ (p.2.2 = 0 → p.2.1 = .d Dnil) ∧ ∀ j, idX p.2.1 = some j → 3 ≤ j) (fun p => I.length - p.2.2) (_, .d Dnil, 0) ⟨⟨rfl, rfl, rfl, Nat.le_refl _⟩, ⟨Nat.zero_le _, Nat.zero_le _⟩, .nil, fun _ => rfl, fun j h => by cases h⟩ rfl (by simp [Go.Vm.look, extK, enterK]) ?_
  intro p hp
  obtain ⟨⟨y0, y1, y2, hA3⟩, hi, hown, hz0, hid⟩ := hp
  refine KC.seq ?_
  refine KC.region ?_
  refine KT.step rfl rfl (K.lss rfl rfl) ?_
  refine KT.nil ?_
  refine thenK_n ?_
  refine KC.seq ?_
  refine KC.cond rfl (fun hc15 => ?_) (fun hc15 => ?_)
  · skip
    replace hc15 := of_decide_eq_true hc15
    have hil : p.2.2 < I.length := by omega
    refine KC.skip ?_
    refine thenK_n ?_
    refine KC.seq ?_
    refine KC.block ?_
    refine KC.seq ?_
    refine KC.region ?_
    refine KT.step rfl rfl (K.move rfl) ?_
    refine KT.idx (m := p.2.2) rfl rfl rfl hI rfl hil Try.underlying53 Try.size117 fun c17 cs17 hq17 => ?_
    refine KT.step rfl rfl (K.load rfl Try.agg117) ?_
    refine KT.step rfl rfl (K.assign rfl) ?_
    refine KT.step rfl rfl (K.assign rfl) ?_
    refine KT.nil ?_
    refine thenK_n ?_
    refine KC.seq ?_
    refine KC.seq ?_
    refine KC.region ?_
    refine KT.step rfl rfl (K.move rfl) ?_
    refine KT.step rfl rfl (K.gtr rfl rfl) ?_
    refine KT.nil ?_
    refine thenK_n ?_
    refine KC.cond rfl (fun hc20 => ?_) (fun hc20 => ?_)
    · skip
      replace hc20 := of_decide_eq_true hc20
      refine KC.exit ?_
      refine thenK_x ?_
      refine blockK_x (by decide) ?_
      refine thenK_x ?_
      refine thenK_x ?_
      refine blockK_e ?_
      refine thenK_n ?_
      refine KC.seq ?_
      refine KC.seq ?_
      refine KC.region ?_
      refine KT.step rfl rfl (K.fieldAddrO rfl Try.fld56_2 Try.size54) ?_
      refine KT.step rfl rfl (K.loadO rfl y0 (by simp) rfl Try.agg54) ?_
      refine KT.step rfl rfl (K.lenEd rfl hE Try.underlying54) ?_
      refine KT.step rfl rfl (K.move rfl) ?_
      refine KT.nil ?_
      refine thenK_n ?_
      refine KC.block ?_
      have hI7 : I.take p.2.2 = I.take 7 := take_end (by omega)
      refine KC.loop (fun q : List VObj × XV × Nat => q.1) (fun q => [(1, .optr 0 0), (2, .optr 1 0), (3, .optr 2 0), (30, .d eD), (31, .d (DI (E.length : Nat))), (32, .d (DI (q.2.2 : Nat)))])
        (fun q => (q.1[0]? = some ⟨[.d (DI c), .d iD, .d eD], 0⟩ ∧ q.1[1]? = some ⟨[.d (DI 0), .d Dnil, .d Dnil], 0⟩ ∧ q.1[2]? = some ⟨[.d (DI c), p.2.1, q.2.1], 0⟩ ∧ 3 ≤ q.1.length) ∧ (q.2.2 ≤ E.length ∧ q.2.2 ≤ 10) ∧ OwnK 1 q.1 p.2.1 ((iCs (I.take 7)).map .d) ∧ OwnK 4 q.1 q.2.1 ((eCs (E.take q.2.2)).map .d) ∧ (q.2.2 = 0 → q.2.1 = .d Dnil) ∧ ∀ j, idX q.2.1 = some j → 3 ≤ j ∧ idX p.2.1 ≠ some j) (fun q => E.length - q.2.2) (p.1, .d Dnil, 0) ⟨⟨y0, y1, y2, hA3⟩, ⟨Nat.zero_le _, Nat.zero_le _⟩, hI7 ▸ hown, .nil, fun _ => rfl, fun j h => by cases h⟩ rfl (by simp [Go.Vm.look, extK, enterK]) ?_
      clear y0 y1 y2 hA3 hown
      intro q hq
      obtain ⟨⟨y0, y1, y2, hA3⟩, hi4, hown, hown4, hz4, hid4⟩ := hq
      refine KC.seq ?_
      refine KC.region ?_
      refine KT.step rfl rfl (K.lss rfl rfl) ?_
      refine KT.nil ?_
      refine thenK_n ?_
      refine KC.seq ?_
      refine KC.cond rfl (fun hc33 => ?_) (fun hc33 => ?_)
      · skip
        replace hc33 := of_decide_eq_true hc33
        have hil : q.2.2 < E.length := by omega
        refine KC.skip ?_
        refine thenK_n ?_
        refine KC.seq ?_
        refine KC.block ?_
        refine KC.seq ?_
        refine KC.region ?_
        refine KT.step rfl rfl (K.move rfl) ?_
        refine KT.idxEd (m := q.2.2) rfl rfl rfl hE rfl hil Try.underlying54 Try.size120 fun gd rest hgd => ?_
        refine KT.step rfl rfl (K.loadAgg (m := 4) rfl Try.agg120 Try.size120 (by simp)) ?_
        refine KT.step rfl rfl (K.alloc Try.zero120) ?_
        refine KT.step rfl rfl (K.assign rfl) ?_
        refine KT.storeL (cs := [.d (DI E[q.2.2].1), .d (DI E[q.2.2].2.1), .d gd, .d (DI E[q.2.2].2.2.2)]) rfl rfl rfl rfl rfl rfl (ed_one hgd) Try.size120 ?_
        refine KT.nil ?_
        refine thenK_n ?_
        refine KC.seq ?_
        refine KC.seq ?_
        have y7 : (q.1 ++ [(⟨[.d (DI E[q.2.2].1), .d (DI E[q.2.2].2.1), .d gd, .d (DI E[q.2.2].2.2.2)], 0⟩ : VObj)])[q.1.length]? = some ⟨[.d (DI E[q.2.2].1), .d (DI E[q.2.2].2.1), .d gd, .d (DI E[q.2.2].2.2.2)], 0⟩ := obj_app
        have y0 : (q.1 ++ [(⟨[.d (DI E[q.2.2].1), .d (DI E[q.2.2].2.1), .d gd, .d (DI E[q.2.2].2.2.2)], 0⟩ : VObj)])[0]? = some _ := get_left y0
        have y1 : (q.1 ++ [(⟨[.d (DI E[q.2.2].1), .d (DI E[q.2.2].2.1), .d gd, .d (DI E[q.2.2].2.2.2)], 0⟩ : VObj)])[1]? = some _ := get_left y1
        have y2 : (q.1 ++ [(⟨[.d (DI E[q.2.2].1), .d (DI E[q.2.2].2.1), .d gd, .d (DI E[q.2.2].2.2.2)], 0⟩ : VObj)])[2]? = some _ := get_left y2
        have hown := hown.pushed (⟨[.d (DI E[q.2.2].1), .d (DI E[q.2.2].2.1), .d gd, .d (DI E[q.2.2].2.2.2)], 0⟩ : VObj)
        have hown4 := hown4.pushed (⟨[.d (DI E[q.2.2].1), .d (DI E[q.2.2].2.1), .d gd, .d (DI E[q.2.2].2.2.2)], 0⟩ : VObj)
        have hA3 : 3 ≤ (q.1 ++ [(⟨[.d (DI E[q.2.2].1), .d (DI E[q.2.2].2.1), .d gd, .d (DI E[q.2.2].2.2.2)], 0⟩ : VObj)]).length := by rw [List.length_append]; omega
        generalize hB : q.1 ++ [(⟨[.d (DI E[q.2.2].1), .d (DI E[q.2.2].2.1), .d gd, .d (DI E[q.2.2].2.2.2)], 0⟩ : VObj)] = B at y0 y1 y2 y7 hown hown4 hA3 ⊢
        refine KC.region ?_
        refine KT.step rfl rfl (K.move rfl) ?_
        refine KT.step rfl rfl (K.gtr rfl rfl) ?_
        refine KT.nil ?_
        refine thenK_n ?_
        refine KC.cond rfl (fun hc38 => ?_) (fun hc38 => ?_)
        · skip
          replace hc38 := of_decide_eq_true hc38
          refine KC.exit ?_
          refine thenK_x ?_
          refine blockK_x (by decide) ?_
          refine thenK_x ?_
          refine thenK_x ?_
          refine blockK_e ?_
          refine thenK_n ?_
          refine KC.seq ?_
          have hones : [XV.d (DI c), p.2.1, q.2.1].all oneX = true := by
            show (true && (oneX p.2.1 && (oneX q.2.1 && true))) = true
            rw [hown.cells.2, hown4.cells.2]; rfl
          refine KC.region ?_
          refine KT.step rfl rfl (K.loadOAgg (m := 3) rfl y2 (by simp) Try.agg62 Try.size62 (by simp)) ?_
          refine KT.step rfl rfl (K.storeA (cs := [.d (DI c), p.2.1, q.2.1]) rfl rfl (cellsX_agg' _) y1 rfl hones Try.size62) ?_
          refine KT.nil ?_
          refine thenK_n ?_
          refine KC.ret ?_
          have hy1 : (B.set 1 (⟨[.d (DI c), p.2.1, q.2.1], 0⟩ : VObj))[1]? = some ⟨[.d (DI c), p.2.1, q.2.1], 0⟩ := by
            rw [List.getElem?_set, if_pos rfl, if_pos (List.getElem?_eq_some_iff.1 y1).1]
          have hE10 : E.take q.2.2 = E.take 10 := take_end (by omega)
          rw [hE10] at hown4
          have ox := fin_own (j := 4) (n := (I.take 7).length) (own_set (i := 1) (o := ⟨[.d (DI c), p.2.1, q.2.1], 0⟩) hown hid (by decide)) (by unfold iCs; simp) (by decide) (fun h => hz0 (by
            have h1 := congrArg List.length h
            unfold iCs at h1
            rw [List.length_map, List.length_nil, ← hI7, List.length_take] at h1
            omega))
          have oy := fin_own (j := 4) (n := (E.take 10).length) (own_set (i := 1) (o := ⟨[.d (DI c), p.2.1, q.2.1], 0⟩) hown4 (fun j hj => (hid4 j hj).1) (by decide)) (eCs_len _) (by decide) (fun h => hz4 (by
            have h1 := congrArg List.length h
            rw [eCs_len, List.length_nil, ← hE10, List.length_take] at h1
            omega))
          refine ⟨.inl rfl, _, resK_agg (m := 3) rfl rfl hy1 (show (0 : Nat) ≠ 2 by decide) Try.agg62 Try.size62 (by simp), ?_⟩
          show deepen _ (5 + 2) (aggX [.d (DI c), p.2.1, q.2.1]) = _
          rw [deepen_agg', List.mapM_cons, List.mapM_cons, List.mapM_cons, List.mapM_nil, ox, oy]
          rfl
        · skip
          replace hc38 := of_decide_eq_false hc38
          refine KC.skip ?_
          refine thenK_n ?_
          refine KC.draw Try.mixed ?_
          refine KT.step rfl rfl (K.fieldAddrO rfl Try.fld62_2 Try.size60) ?_
          refine KT.step rfl rfl (K.loadO rfl y2 (by simp) rfl Try.agg60) ?_
          refine KT.step rfl rfl (K.fieldAddrO rfl Try.fld120_0 Try.size3) ?_
          refine KT.step rfl rfl (K.loadO rfl y7 (by simp) rfl Try.agg3) ?_
          refine KT.step rfl rfl (K.fieldAddrO rfl Try.fld120_1 Try.size3) ?_
          refine KT.step rfl rfl (K.loadO rfl y7 (by simp) rfl Try.agg3) ?_
          refine KT.step rfl rfl (K.fieldAddrO rfl Try.fld120_2 Try.size117) ?_
          refine KT.step rfl rfl (K.loadO rfl y7 (by simp) rfl Try.agg117) ?_
          refine KT.step rfl rfl (K.call1 rfl plainTry_79 (lguards79 hgd (hEr _ (List.getElem_mem hil)))) ?_
          refine KT.step rfl rfl (K.fieldAddrO rfl Try.fld120_3 Try.size3) ?_
          refine KT.step rfl rfl (K.loadO rfl y7 (by simp) rfl Try.agg3) ?_
          refine KT.step rfl rfl (K.buildEd rfl rfl rfl rfl (gdC_sl _) Try.zero122 rfl Try.places122 build122a) ?_
          refine KT.step rfl rfl (K.buildC (k := 4) rfl (edV_cells (gdC_sl _)) rfl Try.underlying60 Try.size122 Try.zero122 (by decide)) ?_
          refine KT.appK (k := 4) rfl rfl rfl rfl (hown4.pushed _) (List.getElem?_concat_length ..) rfl (edC_one _) (by rw [List.length_map, eCs_len, List.length_take]; omega) Try.underlying60 Try.size122 (of_decide_eq_true (by kernel_rfl)) (by kernel_rfl) (by omega) fun σ3 x3 ho3 k3 w3 => ?_
          have y0' := (k3 0 (fun h => by have := (hid4 _ h).1; omega) (by rw [List.length_append]; omega)).trans (get_left y0)
          have y1' := (k3 1 (fun h => by have := (hid4 _ h).1; omega) (by rw [List.length_append]; omega)).trans (get_left y1)
          have y2' := (k3 2 (fun h => by have := (hid4 _ h).1; omega) (by rw [List.length_append]; omega)).trans (get_left y2)
          refine KT.step rfl rfl (K.fieldAddrO rfl Try.fld62_2 Try.size60) ?_
          refine KT.step rfl rfl (K.storeO rfl rfl y2' (by show 0 + 2 < 3; decide) ho3.cells.1 ho3.cells.2 Try.size60) ?_
          refine KT.nil ?_
          refine ⟨by kernel_rfl, ?_⟩
          refine blockK_n ?_
          refine thenK_n ?_
          refine KC.region ?_
          refine KT.step rfl rfl (K.add rfl rfl (wrap_id (by omega))) ?_
          refine KT.step rfl rfl (K.move rfl) ?_
          refine KT.nil ?_
          refine thenK_n ?_
          obtain ⟨y0, y1, y2⟩ := obj_set2 (o := ⟨[.d (DI c), p.2.1, x3], 0⟩) y0' y1' y2'
          have hA4 : 3 ≤ (σ3.set 2 (⟨[.d (DI c), p.2.1, x3], 0⟩ : VObj)).length := by have := (List.getElem?_eq_some_iff.1 y2).1; omega
          have hid5 : ∀ j, idX x3 = some j → 3 ≤ j ∧ idX p.2.1 ≠ some j := fun j hj => by
            obtain ⟨j', h1, h2⟩ := w3
            rw [hj] at h1; cases h1
            rw [List.length_append] at h2
            exact ⟨by omega, fun h => by have := hown.lt h; omega⟩
          have hown' : OwnK 1 σ3 p.2.1 ((iCs (I.take 7)).map .d) := (hown.pushed _).keep fun j hj => k3 j (fun h => (hid4 j h).2 hj) (by have := hown.lt hj; rw [List.length_append]; omega)
          refine ⟨(σ3.set 2 ⟨[.d (DI c), p.2.1, x3], 0⟩, x3, q.2.2 + 1), ⟨⟨y0, y1, y2, hA4⟩, by simp only; omega, own_set hown' hid (by decide), ?_, fun h => by simp at h, hid5⟩, by simp only; omega, rfl, by simp [Go.Vm.look, extK]⟩
          show OwnK 4 (σ3.set 2 ⟨[.d (DI c), p.2.1, x3], 0⟩) x3 ((eCs (E.take (q.2.2 + 1))).map .d)
          rw [eCs_take hil, List.map_append]
          exact own_set ho3 (fun j hj => (hid5 j hj).1) (by decide)
      · skip
        replace hc33 := of_decide_eq_false hc33
        refine KC.exit ?_
        refine thenK_x ?_
        refine thenK_x ?_
        refine blockK_e ?_
        refine thenK_n ?_
        refine KC.seq ?_
        have hones : [XV.d (DI c), p.2.1, q.2.1].all oneX = true := by
          show (true && (oneX p.2.1 && (oneX q.2.1 && true))) = true
          rw [hown.cells.2, hown4.cells.2]; rfl
        refine KC.region ?_
        refine KT.step rfl rfl (K.loadOAgg (m := 3) rfl y2 (by simp) Try.agg62 Try.size62 (by simp)) ?_
        refine KT.step rfl rfl (K.storeA (cs := [.d (DI c), p.2.1, q.2.1]) rfl rfl (cellsX_agg' _) y1 rfl hones Try.size62) ?_
        refine KT.nil ?_
        refine thenK_n ?_
        refine KC.ret ?_
        have hy1 : (q.1.set 1 (⟨[.d (DI c), p.2.1, q.2.1], 0⟩ : VObj))[1]? = some ⟨[.d (DI c), p.2.1, q.2.1], 0⟩ := by
          rw [List.getElem?_set, if_pos rfl, if_pos (List.getElem?_eq_some_iff.1 y1).1]
        have hE10 : E.take q.2.2 = E.take 10 := take_end (by omega)
        rw [hE10] at hown4
        have ox := fin_own (j := 4) (n := (I.take 7).length) (own_set (i := 1) (o := ⟨[.d (DI c), p.2.1, q.2.1], 0⟩) hown hid (by decide)) (by unfold iCs; simp) (by decide) (fun h => hz0 (by
          have h1 := congrArg List.length h
          unfold iCs at h1
          rw [List.length_map, List.length_nil, ← hI7, List.length_take] at h1
          omega))
        have oy := fin_own (j := 4) (n := (E.take 10).length) (own_set (i := 1) (o := ⟨[.d (DI c), p.2.1, q.2.1], 0⟩) hown4 (fun j hj => (hid4 j hj).1) (by decide)) (eCs_len _) (by decide) (fun h => hz4 (by
          have h1 := congrArg List.length h
          rw [eCs_len, List.length_nil, ← hE10, List.length_take] at h1
          omega))
        refine ⟨.inl rfl, _, resK_agg (m := 3) rfl rfl hy1 (show (0 : Nat) ≠ 2 by decide) Try.agg62 Try.size62 (by simp), ?_⟩
        show deepen _ (5 + 2) (aggX [.d (DI c), p.2.1, q.2.1]) = _
        rw [deepen_agg', List.mapM_cons, List.mapM_cons, List.mapM_cons, List.mapM_nil, ox, oy]
        rfl
    · skip
      replace hc20 := of_decide_eq_false hc20
      refine KC.skip ?_
      refine thenK_n ?_
      refine KC.draw Try.mixed ?_
      refine KT.step rfl rfl (K.fieldAddrO rfl Try.fld62_1 Try.size59) ?_
      refine KT.step rfl rfl (K.loadO rfl y2 (by simp) rfl Try.agg59) ?_
      refine KT.step rfl rfl (K.move rfl) ?_
      refine KT.step rfl rfl (K.call1 rfl plainTry_79 (lguards79 hq17 (hIr _ (List.getElem_mem hil)))) ?_
      refine KT.step rfl rfl (K.buildC (k := 1) rfl (gdC_sl _).cells rfl Try.underlying59 Try.size107 Try.one107.zero (by decide)) ?_
      refine KT.appK (k := 1) rfl rfl rfl rfl (hown.pushed _) (List.getElem?_concat_length ..) rfl (gdC_one _) (by rw [List.length_map]; unfold iCs; rw [List.length_map, List.length_take]; omega) Try.underlying59 Try.size107 (of_decide_eq_true (by kernel_rfl)) (by kernel_rfl) (by omega) fun σ2 x2 ho2 k2 w2 => ?_
      have y0' := (k2 0 (fun h => by have := hid _ h; omega) (by rw [List.length_append]; omega)).trans (get_left y0)
      have y1' := (k2 1 (fun h => by have := hid _ h; omega) (by rw [List.length_append]; omega)).trans (get_left y1)
      have y2' := (k2 2 (fun h => by have := hid _ h; omega) (by rw [List.length_append]; omega)).trans (get_left y2)
      refine KT.step rfl rfl (K.fieldAddrO rfl Try.fld62_1 Try.size59) ?_
      refine KT.step rfl rfl (K.storeO rfl rfl y2' (by show 0 + 1 < 3; decide) ho2.cells.1 ho2.cells.2 Try.size59) ?_
      refine KT.nil ?_
      refine ⟨by kernel_rfl, ?_⟩
      refine blockK_n ?_
      refine thenK_n ?_
      refine KC.region ?_
      refine KT.step rfl rfl (K.add rfl rfl (wrap_id (by omega))) ?_
      refine KT.step rfl rfl (K.move rfl) ?_
      refine KT.nil ?_
      refine thenK_n ?_
      obtain ⟨y0, y1, y2⟩ := obj_set2 (o := ⟨[.d (DI c), x2, .d Dnil], 0⟩) y0' y1' y2'
      have hA4 : 3 ≤ (σ2.set 2 (⟨[.d (DI c), x2, .d Dnil], 0⟩ : VObj)).length := by have := (List.getElem?_eq_some_iff.1 y2).1; omega
      have hid2 : ∀ j, idX x2 = some j → 3 ≤ j := fun j hj => by
        obtain ⟨j', h1, h2⟩ := w2
        rw [hj] at h1; cases h1
        rw [List.length_append] at h2; omega
      refine ⟨(σ2.set 2 ⟨[.d (DI c), x2, .d Dnil], 0⟩, x2, p.2.2 + 1), ⟨⟨y0, y1, y2, hA4⟩, by simp only; omega, ?_, fun h => by simp at h, hid2⟩, by simp only; omega, rfl, by simp [Go.Vm.look, extK]⟩
      show OwnK 1 (σ2.set 2 ⟨[.d (DI c), x2, .d Dnil], 0⟩) x2 ((iCs (I.take (p.2.2 + 1))).map .d)
      rw [iCs_take hil, List.map_append]
      exact own_set ho2 hid2 (by decide)
  · skip
    replace hc15 := of_decide_eq_false hc15
    refine KC.exit ?_
    refine thenK_x ?_
    refine thenK_x ?_
    refine blockK_e ?_
    refine thenK_n ?_
    refine KC.seq ?_
    refine KC.seq ?_
    refine KC.region ?_
    refine KT.step rfl rfl (K.fieldAddrO rfl Try.fld56_2 Try.size54) ?_
    refine KT.step rfl rfl (K.loadO rfl y0 (by simp) rfl Try.agg54) ?_
    refine KT.step rfl rfl (K.lenEd rfl hE Try.underlying54) ?_
    refine KT.step rfl rfl (K.move rfl) ?_
    refine KT.nil ?_
    refine thenK_n ?_
    refine KC.block ?_
    have hI7 : I.take p.2.2 = I.take 7 := take_end (by omega)
    refine KC.loop (fun q : List VObj × XV × Nat => q.1) (fun q => [(1, .optr 0 0), (2, .optr 1 0), (3, .optr 2 0), (30, .d eD), (31, .d (DI (E.length : Nat))), (32, .d (DI (q.2.2 : Nat)))])
      (fun q => (q.1[0]? = some ⟨[.d (DI c), .d iD, .d eD], 0⟩ ∧ q.1[1]? = some ⟨[.d (DI 0), .d Dnil, .d Dnil], 0⟩ ∧ q.1[2]? = some ⟨[.d (DI c), p.2.1, q.2.1], 0⟩ ∧ 3 ≤ q.1.length) ∧ (q.2.2 ≤ E.length ∧ q.2.2 ≤ 10) ∧ OwnK 1 q.1 p.2.1 ((iCs (I.take 7)).map .d) ∧ OwnK 4 q.1 q.2.1 ((eCs (E.take q.2.2)).map .d) ∧ (q.2.2 = 0 → q.2.1 = .d Dnil) ∧ ∀ j, idX q.2.1 = some j → 3 ≤ j ∧ idX p.2.1 ≠ some j) (fun q => E.length - q.2.2) (p.1, .d Dnil, 0) ⟨⟨y0, y1, y2, hA3⟩, ⟨Nat.zero_le _, Nat.zero_le _⟩, hI7 ▸ hown, .nil, fun _ => rfl, fun j h => by cases h⟩ rfl (by simp [Go.Vm.look, extK, enterK]) ?_
    clear y0 y1 y2 hA3 hown
    intro q hq
    obtain ⟨⟨y0, y1, y2, hA3⟩, hi4, hown, hown4, hz4, hid4⟩ := hq
    refine KC.seq ?_
    refine KC.region ?_
    refine KT.step rfl rfl (K.lss rfl rfl) ?_
    refine KT.nil ?_
    refine thenK_n ?_
    refine KC.seq ?_
    refine KC.cond rfl (fun hc33 => ?_) (fun hc33 => ?_)
    · skip
      replace hc33 := of_decide_eq_true hc33
      have hil : q.2.2 < E.length := by omega
      refine KC.skip ?_
      refine thenK_n ?_
      refine KC.seq ?_
      refine KC.block ?_
      refine KC.seq ?_
      refine KC.region ?_
      refine KT.step rfl rfl (K.move rfl) ?_
      refine KT.idxEd (m := q.2.2) rfl rfl rfl hE rfl hil Try.underlying54 Try.size120 fun gd rest hgd => ?_
      refine KT.step rfl rfl (K.loadAgg (m := 4) rfl Try.agg120 Try.size120 (by simp)) ?_
      refine KT.step rfl rfl (K.alloc Try.zero120) ?_
      refine KT.step rfl rfl (K.assign rfl) ?_
      refine KT.storeL (cs := [.d (DI E[q.2.2].1), .d (DI E[q.2.2].2.1), .d gd, .d (DI E[q.2.2].2.2.2)]) rfl rfl rfl rfl rfl rfl (ed_one hgd) Try.size120 ?_
      refine KT.nil ?_
      refine thenK_n ?_
      refine KC.seq ?_
      refine KC.seq ?_
      have y7 : (q.1 ++ [(⟨[.d (DI E[q.2.2].1), .d (DI E[q.2.2].2.1), .d gd, .d (DI E[q.2.2].2.2.2)], 0⟩ : VObj)])[q.1.length]? = some ⟨[.d (DI E[q.2.2].1), .d (DI E[q.2.2].2.1), .d gd, .d (DI E[q.2.2].2.2.2)], 0⟩ := obj_app
      have y0 : (q.1 ++ [(⟨[.d (DI E[q.2.2].1), .d (DI E[q.2.2].2.1), .d gd, .d (DI E[q.2.2].2.2.2)], 0⟩ : VObj)])[0]? = some _ := get_left y0
      have y1 : (q.1 ++ [(⟨[.d (DI E[q.2.2].1), .d (DI E[q.2.2].2.1), .d gd, .d (DI E[q.2.2].2.2.2)], 0⟩ : VObj)])[1]? = some _ := get_left y1
      have y2 : (q.1 ++ [(⟨[.d (DI E[q.2.2].1), .d (DI E[q.2.2].2.1), .d gd, .d (DI E[q.2.2].2.2.2)], 0⟩ : VObj)])[2]? = some _ := get_left y2
      have hown := hown.pushed (⟨[.d (DI E[q.2.2].1), .d (DI E[q.2.2].2.1), .d gd, .d (DI E[q.2.2].2.2.2)], 0⟩ : VObj)
      have hown4 := hown4.pushed (⟨[.d (DI E[q.2.2].1), .d (DI E[q.2.2].2.1), .d gd, .d (DI E[q.2.2].2.2.2)], 0⟩ : VObj)
      have hA3 : 3 ≤ (q.1 ++ [(⟨[.d (DI E[q.2.2].1), .d (DI E[q.2.2].2.1), .d gd, .d (DI E[q.2.2].2.2.2)], 0⟩ : VObj)]).length := by rw [List.length_append]; omega
      generalize hB : q.1 ++ [(⟨[.d (DI E[q.2.2].1), .d (DI E[q.2.2].2.1), .d gd, .d (DI E[q.2.2].2.2.2)], 0⟩ : VObj)] = B at y0 y1 y2 y7 hown hown4 hA3 ⊢
      refine KC.region ?_
      refine KT.step rfl rfl (K.move rfl) ?_
      refine KT.step rfl rfl (K.gtr rfl rfl) ?_
      refine KT.nil ?_
      refine thenK_n ?_
      refine KC.cond rfl (fun hc38 => ?_) (fun hc38 => ?_)
      · skip
        replace hc38 := of_decide_eq_true hc38
        refine KC.exit ?_
        refine thenK_x ?_
        refine blockK_x (by decide) ?_
        refine thenK_x ?_
        refine thenK_x ?_
        refine blockK_e ?_
        refine thenK_n ?_
        refine KC.seq ?_
        have hones : [XV.d (DI c), p.2.1, q.2.1].all oneX = true := by
          show (true && (oneX p.2.1 && (oneX q.2.1 && true))) = true
          rw [hown.cells.2, hown4.cells.2]; rfl
        refine KC.region ?_
        refine KT.step rfl rfl (K.loadOAgg (m := 3) rfl y2 (by simp) Try.agg62 Try.size62 (by simp)) ?_
        refine KT.step rfl rfl (K.storeA (cs := [.d (DI c), p.2.1, q.2.1]) rfl rfl (cellsX_agg' _) y1 rfl hones Try.size62) ?_
        refine KT.nil ?_
        refine thenK_n ?_
        refine KC.ret ?_
        have hy1 : (B.set 1 (⟨[.d (DI c), p.2.1, q.2.1], 0⟩ : VObj))[1]? = some ⟨[.d (DI c), p.2.1, q.2.1], 0⟩ := by
          rw [List.getElem?_set, if_pos rfl, if_pos (List.getElem?_eq_some_iff.1 y1).1]
        have hE10 : E.take q.2.2 = E.take 10 := take_end (by omega)
        rw [hE10] at hown4
        have ox := fin_own (j := 4) (n := (I.take 7).length) (own_set (i := 1) (o := ⟨[.d (DI c), p.2.1, q.2.1], 0⟩) hown hid (by decide)) (by unfold iCs; simp) (by decide) (fun h => hz0 (by
          have h1 := congrArg List.length h
          unfold iCs at h1
          rw [List.length_map, List.length_nil, ← hI7, List.length_take] at h1
          omega))
        have oy := fin_own (j := 4) (n := (E.take 10).length) (own_set (i := 1) (o := ⟨[.d (DI c), p.2.1, q.2.1], 0⟩) hown4 (fun j hj => (hid4 j hj).1) (by decide)) (eCs_len _) (by decide) (fun h => hz4 (by
          have h1 := congrArg List.length h
          rw [eCs_len, List.length_nil, ← hE10, List.length_take] at h1
          omega))
        refine ⟨.inl rfl, _, resK_agg (m := 3) rfl rfl hy1 (show (0 : Nat) ≠ 2 by decide) Try.agg62 Try.size62 (by simp), ?_⟩
        show deepen _ (5 + 2) (aggX [.d (DI c), p.2.1, q.2.1]) = _
        rw [deepen_agg', List.mapM_cons, List.mapM_cons, List.mapM_cons, List.mapM_nil, ox, oy]
        rfl
      · skip
        replace hc38 := of_decide_eq_false hc38
        refine KC.skip ?_
        refine thenK_n ?_
        refine KC.draw Try.mixed ?_
        refine KT.step rfl rfl (K.fieldAddrO rfl Try.fld62_2 Try.size60) ?_
        refine KT.step rfl rfl (K.loadO rfl y2 (by simp) rfl Try.agg60) ?_
        refine KT.step rfl rfl (K.fieldAddrO rfl Try.fld120_0 Try.size3) ?_
        refine KT.step rfl rfl (K.loadO rfl y7 (by simp) rfl Try.agg3) ?_
        refine KT.step rfl rfl (K.fieldAddrO rfl Try.fld120_1 Try.size3) ?_
        refine KT.step rfl rfl (K.loadO rfl y7 (by simp) rfl Try.agg3) ?_
        refine KT.step rfl rfl (K.fieldAddrO rfl Try.fld120_2 Try.size117) ?_
        refine KT.step rfl rfl (K.loadO rfl y7 (by simp) rfl Try.agg117) ?_
        refine KT.step rfl rfl (K.call1 rfl plainTry_79 (lguards79 hgd (hEr _ (List.getElem_mem hil)))) ?_
        refine KT.step rfl rfl (K.fieldAddrO rfl Try.fld120_3 Try.size3) ?_
        refine KT.step rfl rfl (K.loadO rfl y7 (by simp) rfl Try.agg3) ?_
        refine KT.step rfl rfl (K.buildEd rfl rfl rfl rfl (gdC_sl _) Try.zero122 rfl Try.places122 build122a) ?_
        refine KT.step rfl rfl (K.buildC (k := 4) rfl (edV_cells (gdC_sl _)) rfl Try.underlying60 Try.size122 Try.zero122 (by decide)) ?_
        refine KT.appK (k := 4) rfl rfl rfl rfl (hown4.pushed _) (List.getElem?_concat_length ..) rfl (edC_one _) (by rw [List.length_map, eCs_len, List.length_take]; omega) Try.underlying60 Try.size122 (of_decide_eq_true (by kernel_rfl)) (by kernel_rfl) (by omega) fun σ3 x3 ho3 k3 w3 => ?_
        have y0' := (k3 0 (fun h => by have := (hid4 _ h).1; omega) (by rw [List.length_append]; omega)).trans (get_left y0)
        have y1' := (k3 1 (fun h => by have := (hid4 _ h).1; omega) (by rw [List.length_append]; omega)).trans (get_left y1)
        have y2' := (k3 2 (fun h => by have := (hid4 _ h).1; omega) (by rw [List.length_append]; omega)).trans (get_left y2)
        refine KT.step rfl rfl (K.fieldAddrO rfl Try.fld62_2 Try.size60) ?_
        refine KT.step rfl rfl (K.storeO rfl rfl y2' (by show 0 + 2 < 3; decide) ho3.cells.1 ho3.cells.2 Try.size60) ?_
        refine KT.nil ?_
        refine ⟨by kernel_rfl, ?_⟩
        refine blockK_n ?_
        refine thenK_n ?_
        refine KC.region ?_
        refine KT.step rfl rfl (K.add rfl rfl (wrap_id (by omega))) ?_
        refine KT.step rfl rfl (K.move rfl) ?_
        refine KT.nil ?_
        refine thenK_n ?_
        obtain ⟨y0, y1, y2⟩ := obj_set2 (o := ⟨[.d (DI c), p.2.1, x3], 0⟩) y0' y1' y2'
        have hA4 : 3 ≤ (σ3.set 2 (⟨[.d (DI c), p.2.1, x3], 0⟩ : VObj)).length := by have := (List.getElem?_eq_some_iff.1 y2).1; omega
        have hid5 : ∀ j, idX x3 = some j → 3 ≤ j ∧ idX p.2.1 ≠ some j := fun j hj => by
          obtain ⟨j', h1, h2⟩ := w3
          rw [hj] at h1; cases h1
          rw [List.length_append] at h2
          exact ⟨by omega, fun h => by have := hown.lt h; omega⟩
        have hown' : OwnK 1 σ3 p.2.1 ((iCs (I.take 7)).map .d) := (hown.pushed _).keep fun j hj => k3 j (fun h => (hid4 j h).2 hj) (by have := hown.lt hj; rw [List.length_append]; omega)
        refine ⟨(σ3.set 2 ⟨[.d (DI c), p.2.1, x3], 0⟩, x3, q.2.2 + 1), ⟨⟨y0, y1, y2, hA4⟩, by simp only; omega, own_set hown' hid (by decide), ?_, fun h => by simp at h, hid5⟩, by simp only; omega, rfl, by simp [Go.Vm.look, extK]⟩
        show OwnK 4 (σ3.set 2 ⟨[.d (DI c), p.2.1, x3], 0⟩) x3 ((eCs (E.take (q.2.2 + 1))).map .d)
        rw [eCs_take hil, List.map_append]
        exact own_set ho3 (fun j hj => (hid5 j hj).1) (by decide)
    · skip
      replace hc33 := of_decide_eq_false hc33
      refine KC.exit ?_
      refine thenK_x ?_
      refine thenK_x ?_
      refine blockK_e ?_
      refine thenK_n ?_
      refine KC.seq ?_
      have hones : [XV.d (DI c), p.2.1, q.2.1].all oneX = true := by
        show (true && (oneX p.2.1 && (oneX q.2.1 && true))) = true
        rw [hown.cells.2, hown4.cells.2]; rfl
      refine KC.region ?_
      refine KT.step rfl rfl (K.loadOAgg (m := 3) rfl y2 (by simp) Try.agg62 Try.size62 (by simp)) ?_
      refine KT.step rfl rfl (K.storeA (cs := [.d (DI c), p.2.1, q.2.1]) rfl rfl (cellsX_agg' _) y1 rfl hones Try.size62) ?_
      refine KT.nil ?_
      refine thenK_n ?_
      refine KC.ret ?_
      have hy1 : (q.1.set 1 (⟨[.d (DI c), p.2.1, q.2.1], 0⟩ : VObj))[1]? = some ⟨[.d (DI c), p.2.1, q.2.1], 0⟩ := by
        rw [List.getElem?_set, if_pos rfl, if_pos (List.getElem?_eq_some_iff.1 y1).1]
      have hE10 : E.take q.2.2 = E.take 10 := take_end (by omega)
      rw [hE10] at hown4
      have ox := fin_own (j := 4) (n := (I.take 7).length) (own_set (i := 1) (o := ⟨[.d (DI c), p.2.1, q.2.1], 0⟩) hown hid (by decide)) (by unfold iCs; simp) (by decide) (fun h => hz0 (by
        have h1 := congrArg List.length h
        unfold iCs at h1
        rw [List.length_map, List.length_nil, ← hI7, List.length_take] at h1
        omega))
      have oy := fin_own (j := 4) (n := (E.take 10).length) (own_set (i := 1) (o := ⟨[.d (DI c), p.2.1, q.2.1], 0⟩) hown4 (fun j hj => (hid4 j hj).1) (by decide)) (eCs_len _) (by decide) (fun h => hz4 (by
        have h1 := congrArg List.length h
        rw [eCs_len, List.length_nil, ← hE10, List.length_take] at h1
        omega))
      refine ⟨.inl rfl, _, resK_agg (m := 3) rfl rfl hy1 (show (0 : Nat) ≠ 2 by decide) Try.agg62 Try.size62 (by simp), ?_⟩
      show deepen _ (5 + 2) (aggX [.d (DI c), p.2.1, q.2.1]) = _
      rw [deepen_agg', List.mapM_cons, List.mapM_cons, List.mapM_cons, List.mapM_nil, ox, oy]
      rfl
end Go.Proofs.Ytjfpeiioddfjcaa

