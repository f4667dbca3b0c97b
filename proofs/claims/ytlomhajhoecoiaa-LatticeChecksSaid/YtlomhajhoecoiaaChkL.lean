/-
  CONTRACTS for LatticeChecks: the determinant of the program.
-/
import Derived.Test.YtlomhajhoecoiaaChkK
import Derived.Test.YtlomhajhoecoiaaVmZ
namespace Go.Proofs.Ytlomhajhoecoiaa
open Go.Vm Go.Big Go.Det
theorem plainTry_115 : plainFn Try.prog 115 = true := by kernel_rfl
theorem plainTry_111 : plainFn Try.prog 111 = true := by kernel_rfl
theorem plainTry_96 : plainFn Try.prog 96 = true := by kernel_rfl

theorem vec2 {α : Type} {Q : DV → α → Prop} {a b : DV} {x y : α} {cap : Option Nat} (ha : Q a x) (hb : Q b y) : Vec Q (.sl [a, b] 2 cap) [x, y] := .sl (l := [x, y]) (by simp) fun i c z hc hz => by
  match i with
  | 0 => simp at hc hz; subst hc hz; exact ha
  | 1 => simp at hc hz; subst hc hz; exact hb
  | i + 2 => simp at hc
def withoutD (m : List (List Int)) (j : Nat) : DV := .sl (m.map fun r => catD (r.eraseIdx j)) m.length (some m.length)
theorem withoutD_mat (m : List (List Int)) (j : Nat) : Mat (withoutD m j) (m.map fun r => r.eraseIdx j) := by
  have : Mat (.sl (m.map fun r => catD (r.eraseIdx j)) (m.map fun r => r.eraseIdx j).length (some m.length)) (m.map fun r => r.eraseIdx j) := .sl (by simp) fun i c x hc hx => by
    rw [List.getElem?_map] at hc hx
    cases h : m[i]? with
    | none => rw [h] at hc; simp at hc
    | some r =>
      rw [h] at hc hx
      simp at hc hx
      subst hc hx
      exact catD_ints _
  rw [List.length_map] at this
  exact this
def woF (m : List (List Int)) (j k : Nat) : XV := .d (catD ((m.getD k []).eraseIdx j))
theorem woF_range (m : List (List Int)) (j : Nat) : (List.range m.length).map (woF m j) = (m.map fun r => catD (r.eraseIdx j)).map XV.d := by
  refine List.ext_getElem? fun k => ?_
  by_cases h : k < m.length
  · simp [woF, h]
  · rw [List.getElem?_eq_none (by simp; omega), List.getElem?_eq_none (by simp; omega)]
set_option maxRecDepth 10000 in
theorem without115 {d : DV} {m : List (List Int)} {j n : Nat} (hd : Mat d m) (hl : m.length ≤ 1000) (hr : ∀ r ∈ m, r.length = n) (hj : j < n) (hn : n ≤ 1000) (h2 : m.length = 0 ∨ 2 ≤ n) : DeepCall Try.prog 115 [d, DI (j : Int)] (withoutD m j) := by
  have hrow : ∀ i, (hi : i < m.length) → m[i].length = n := fun i hi => hr _ (List.getElem_mem hi)
  refine deepCall_K 5 Try.func115 rfl (Nat.le_of_ble_eq_true rfl) fun M W0 => ?_
  refine KC.seq ?_
  refine KC.region ?_
  refine KT.step rfl rfl (K.assign rfl) ?_
  refine KT.nil ?_
  refine thenK_n ?_
  refine KC.seq ?_
  refine KC.region ?_
  refine KT.step rfl rfl (K.move rfl) ?_
  refine KT.step rfl rfl (K.len rfl hd Try.underlying22) ?_
  refine KT.step rfl rfl (K.make rfl rfl (Nat.le_refl _) (by omega) Try.underlying22 Try.one35) ?_
  rw [updL_zero (f := woF m j)]
  refine KT.step rfl rfl (K.assign rfl) ?_
  refine KT.nil ?_
  refine thenK_n ?_
  refine KC.seq ?_
  refine KC.seq ?_
  refine KC.region ?_
  refine KT.step rfl rfl (K.move rfl) ?_
  refine KT.step rfl rfl (K.len rfl hd Try.underlying22) ?_
  refine KT.step rfl rfl (K.move rfl) ?_
  refine KT.nil ?_
  refine thenK_n ?_
  refine KC.block ?_
  refine KC.loop (fun p : List VObj × Nat => p.1) (fun p => [(0, .d d), (1, .d (DI (j : Int))), (5, .osl 0 0 m.length 1 m.length true), (11, .d d), (12, .d (DI m.length)), (13, .d (DI (p.2 : Nat)))]) (fun p => p.2 ≤ m.length ∧ p.1[0]? = some ⟨updL m.length (woF m j) (.d Dnil) p.2, 0⟩) (fun p => m.length - p.2) ([⟨updL m.length (woF m j) (.d Dnil) 0, 0⟩], 0) ⟨Nat.zero_le _, rfl⟩ rfl (by simp [Go.Vm.look, extK, enterK]) ?_
  intro p hp
  obtain ⟨σ0, i⟩ := p
  obtain ⟨hi, h0⟩ := hp
  simp only at hi h0 ⊢
  have g0 := (List.getElem?_eq_some_iff.1 h0).1
  refine KC.seq ?_
  refine KC.region ?_
  refine KT.step rfl rfl (K.lss rfl rfl) ?_
  refine KT.nil ?_
  refine thenK_n ?_
  refine KC.seq ?_
  refine KC.cond rfl (fun hc14 => ?_) (fun hc14 => ?_)
  · skip
    replace hc14 := of_decide_eq_true hc14
    have hil : i < m.length := by omega
    refine KC.skip ?_
    refine thenK_n ?_
    refine KC.seq ?_
    refine KC.block ?_
    refine KC.seq ?_
    refine KC.region ?_
    refine KT.step rfl rfl (K.move rfl) ?_
    refine KT.idx rfl rfl rfl hd rfl hil Try.underlying22 Try.size35 fun c16 cs16 hq16 => ?_
    refine KT.step rfl rfl (K.load rfl Try.agg35) ?_
    refine KT.step rfl rfl (K.assign rfl) ?_
    refine KT.step rfl rfl (K.assign rfl) ?_
    refine KT.nil ?_
    refine thenK_n ?_
    refine KC.draw Try.mixed ?_
    refine KT.step rfl rfl (K.move rfl) ?_
    refine KT.step rfl rfl (K.move rfl) ?_
    refine KT.step rfl rfl (K.move rfl) ?_
    refine KT.step rfl rfl (K.move rfl) ?_
    refine KT.step rfl rfl (K.takeV (m := j) rfl hq16 rfl (by rw [hrow i hil]; omega) Try.underlying35 Try.size3) ?_
    refine KT.step rfl rfl (K.move rfl) ?_
    refine KT.step rfl rfl (K.move rfl) ?_
    refine KT.step rfl rfl (K.add rfl rfl (show IntKind.i64.wrap ((j : Int) + 1) = ((j + 1 : Nat) : Int) from by rw [wrap_id (by omega)]; omega)) ?_
    refine KT.step rfl rfl (K.dropV (m := j + 1) rfl hq16 rfl (by rw [hrow i hil]; omega) (by rw [hrow i hil]; omega) Try.underlying35 Try.size3) ?_
    refine KT.step rfl rfl (K.build2s rfl rfl (SlD.of (takeV_vec hq16 (m := j) (by rw [hrow i hil]; omega))).cells (SlD.of (dropV_vec hq16 (m := j + 1) (by rw [hrow i hil]; omega))).cells Try.underlying22 Try.one35) ?_
    have hz0 : (freezeIds (σ0 ++ [(⟨[.d (takeV j c16), .d (dropV (j + 1) c16)], 0⟩ : VObj)]) [σ0.length])[σ0.length]? = some ⟨[.d (takeV j c16), .d (dropV (j + 1) c16)], 1⟩ := by
      simp [freezeIds, List.getElem?_mapIdx]
    have hdp : (([.osl σ0.length 0 2 1 2 true] : List XV).mapM (deepen (freezeIds (σ0 ++ [(⟨[.d (takeV j c16), .d (dropV (j + 1) c16)], 0⟩ : VObj)]) [σ0.length]) 5)) = some [.sl [takeV j c16, dropV (j + 1) c16] 2 (some 2)] := by
      rw [List.mapM_cons, deepen_cells (R := 2) (ds := [takeV j c16, dropV (j + 1) c16]) hz0 rfl rfl]; rfl
    have hmat : Mat (.sl [takeV j c16, dropV (j + 1) c16] 2 (some 2)) [m[i].take j, m[i].drop (j + 1)] := vec2 (takeV_vec hq16 (by rw [hrow i hil]; omega)) (dropV_vec hq16 (by rw [hrow i hil]; omega))
    have ecat : [m[i].take j, m[i].drop (j + 1)].flatten = m[i].eraseIdx j := by simp [List.eraseIdx_eq_take_drop_succ]
    have elen : (m[i].eraseIdx j).length = n - 1 := by rw [List.length_eraseIdx_of_lt (by rw [hrow i hil]; exact hj), hrow i hil]
    have hcat := concat102 hmat (by simp) (by rw [ecat, elen]; omega) (by rw [ecat, elen]; omega)
    rw [ecat] at hcat
    have ho : (freezeIds (σ0 ++ [(⟨[.d (takeV j c16), .d (dropV (j + 1) c16)], 0⟩ : VObj)]) [σ0.length])[0]? = some ⟨updL m.length (woF m j) (.d Dnil) i, 0⟩ := by
      rw [freezeIds_other (by simp; omega), List.getElem?_append_left g0]; exact h0
    refine KT.step rfl rfl (K.callZ [σ0.length] 5 rfl plainTry_102 hdp hcat) ?_
    refine KT.step rfl rfl (K.idxO rfl rfl (by omega) Try.underlying22 Try.size35) ?_
    refine KT.storeG rfl rfl rfl rfl ho (by rw [updL_len]; omega) rfl rfl Try.size35 fun σ1 l1 u1 v1 => ?_
    refine KT.nil ?_
    refine ⟨by kernel_rfl, ?_⟩
    refine blockK_n ?_
    refine thenK_n ?_
    refine KC.region ?_
    refine KT.step rfl rfl (K.add rfl rfl (wrap_id (by omega))) ?_
    refine KT.step rfl rfl (K.move rfl) ?_
    refine KT.nil ?_
    refine thenK_n ?_
    refine ⟨(σ1, i + 1), ⟨by simp only; omega, ?_⟩, by simp only; omega, rfl, by simp [Go.Vm.look, extK]⟩
    rw [← updL_set hil, u1, Nat.zero_add]
    simp [woF, hil]
  · skip
    replace hc14 := of_decide_eq_false hc14
    obtain rfl : i = m.length := by omega
    refine KC.exit ?_
    refine thenK_x ?_
    refine thenK_x ?_
    refine blockK_e ?_
    refine thenK_n ?_
    refine KC.seq ?_
    refine KC.region ?_
    refine KT.step rfl rfl (K.move rfl) ?_
    refine KT.step rfl rfl (K.assign rfl) ?_
    refine KT.nil ?_
    refine thenK_n ?_
    refine KC.ret ?_
    refine ⟨.inl rfl, _, rfl, ?_⟩
    rw [updL_full (Nat.le_refl _), woF_range] at h0
    rw [deepen_cells (ds := m.map fun r => catD (r.eraseIdx j)) (by simp [freezeAll, h0]) rfl (by simp)]
    rfl

theorem longZ_cells (z : Int) : cellsX (.d (longZ z)) = (words (W z)).map XV.d := rfl
def termP (n : Nat) (rows : List (List Int)) (j : Nat) : Int := if j % 2 = 1 then 0 - detP n (drow rows j) * (rows.headD []).getD j 0 else detP n (drow rows j) * (rows.headD []).getD j 0
theorem words_len (X : Nat → Nat) : ((words X).map XV.d).length = 4 := by simp [words]
theorem splice_words {cells : List XV} (X : Nat → Nat) (h : cells.length = 4) : splice cells 0 ((words X).map XV.d) = (words X).map XV.d := by
  simp [splice, words, h]
theorem one_words (X : Nat → Nat) : ((words X).map XV.d).all oneX = true := by simp [words, oneX, Value.oneCell']
set_option maxRecDepth 10000 in
theorem detP_zero {d : DV} (hd : Mat d []) : DeepCall Try.prog 111 [d] (longZ 1) := by
  refine deepCall_K 5 Try.func111 rfl (Nat.le_of_ble_eq_true rfl) fun M W0 => ?_
  refine KC.seq ?_
  refine KC.region ?_
  refine KT.step rfl rfl (K.alloc Try.zero108) ?_
  refine KT.nil ?_
  refine thenK_n ?_
  refine KC.seq ?_
  refine KC.seq ?_
  refine KC.region ?_
  refine KT.step rfl rfl (K.move rfl) ?_
  refine KT.step rfl rfl (K.len rfl hd Try.underlying22) ?_
  refine KT.step rfl rfl (K.eql rfl rfl) ?_
  refine KT.nil ?_
  refine thenK_n ?_
  refine KC.cond rfl (fun hc9 => ?_) (fun hc9 => ?_)
  · skip
    refine KC.seq ?_
    refine KC.region ?_
    refine KT.step rfl rfl (K.call1 rfl plainTry_112 (longOf112 (by decide) (by decide))) ?_
    refine KT.step rfl rfl (K.storeN rfl rfl rfl (by simp [cellsX, words, Value.cells]) rfl Try.size108) ?_
    refine KT.nil ?_
    refine thenK_n ?_
    refine KC.ret ?_
    refine thenK_r ?_
    refine ⟨.inl rfl, _, resK_agg (m := 4) rfl rfl rfl (by simp) Try.agg108 Try.size108 (Nat.le_refl 4), ?_⟩
    rfl
  · cases hc9
set_option maxRecDepth 10000 in
theorem detP_succ {d : DV} {rows : List (List Int)} {n : Nat} (hd : Mat d rows) (hl : rows.length = n + 1) (hr : ∀ r ∈ rows, r.length = n + 1) (hn : n ≤ 10) (hb : ∀ r ∈ rows, ∀ x ∈ r, -9223372036854775808 ≤ x ∧ x ≤ 9223372036854775807)
    (ih : ∀ j, j < n + 1 → DeepCall Try.prog 111 [withoutD (rows.drop 1) j] (longZ (detP n (drow rows j)))) : DeepCall Try.prog 111 [d] (longZ (detP (n + 1) rows)) := by
  have h0l : 0 < rows.length := by omega
  have hrow0 : rows[0].length = n + 1 := hr _ (List.getElem_mem h0l)
  have hsum : detP (n + 1) rows = sumZ (termP n rows) rows[0].length := by
    rw [show detP (n + 1) rows = sumZ (termP n rows) (rows.headD []).length from rfl, show rows.headD [] = rows[0] by cases rows with | nil => simp at h0l | cons a l => rfl]
  refine deepCall_K 5 Try.func111 rfl (Nat.le_of_ble_eq_true rfl) fun M W0 => ?_
  refine KC.seq ?_
  refine KC.region ?_
  refine KT.step rfl rfl (K.alloc Try.zero108) ?_
  refine KT.nil ?_
  refine thenK_n ?_
  refine KC.seq ?_
  refine KC.seq ?_
  refine KC.region ?_
  refine KT.step rfl rfl (K.move rfl) ?_
  refine KT.step rfl rfl (K.len rfl hd Try.underlying22) ?_
  refine KT.step rfl rfl (K.eql rfl rfl) ?_
  refine KT.nil ?_
  refine thenK_n ?_
  refine KC.cond rfl (fun hc9 => ?_) (fun hc9 => ?_)
  · skip
    exfalso; replace hc9 := of_decide_eq_true hc9; omega
  · skip
    replace hc9 := of_decide_eq_false hc9
    refine KC.skip ?_
    refine thenK_n ?_
    refine KC.seq ?_
    refine KC.region ?_
    refine KT.step rfl rfl (K.alloc Try.zero108) ?_
    refine KT.nil ?_
    refine thenK_n ?_
    refine KC.seq ?_
    refine KC.seq ?_
    refine KC.region ?_
    refine KT.step rfl rfl (K.move rfl) ?_
    refine KT.idx rfl rfl rfl hd rfl h0l Try.underlying22 Try.size35 fun c12 cs12 hq12 => ?_
    refine KT.step rfl rfl (K.load rfl Try.agg35) ?_
    refine KT.step rfl rfl (K.len rfl hq12 Try.underlying35) ?_
    refine KT.step rfl rfl (K.move rfl) ?_
    refine KT.nil ?_
    refine thenK_n ?_
    refine KC.block ?_
    refine KC.loop (fun p : List VObj × Nat => p.1) (fun p => [(0, .d d), (2, .optr 0 0), (3, .optr 1 0), (13, .d c12), (14, .d (DI rows[0].length)), (15, .d (DI (p.2 : Nat)))]) (fun p => p.2 ≤ rows[0].length ∧ p.1[0]? = some ⟨outW (fun _ => 0) 0, 0⟩ ∧ p.1[1]? = some ⟨(words (W (sumZ (termP n rows) p.2))).map .d, 0⟩) (fun p => rows[0].length - p.2) ([⟨outW (fun _ => 0) 0, 0⟩, ⟨(words (W (sumZ (termP n rows) 0))).map .d, 0⟩], 0) ⟨Nat.zero_le _, rfl, rfl⟩ (by rw [sumZ, words_zero]; rfl) (by simp [Go.Vm.look, extK, enterK]) ?_
    intro p hp
    obtain ⟨σ0, j⟩ := p
    obtain ⟨hj, h0, h1⟩ := hp
    simp only at hj h0 h1 ⊢
    have g1 := (List.getElem?_eq_some_iff.1 h1).1
    refine KC.seq ?_
    refine KC.region ?_
    refine KT.step rfl rfl (K.lss rfl rfl) ?_
    refine KT.nil ?_
    refine thenK_n ?_
    refine KC.seq ?_
    refine KC.cond rfl (fun hc16 => ?_) (fun hc16 => ?_)
    · skip
      replace hc16 := of_decide_eq_true hc16
      have hjl : j < rows[0].length := by omega
      have hbx := hb rows[0] (List.getElem_mem h0l) rows[0][j] (List.getElem_mem hjl)
      have hget : (rows.headD []).getD j 0 = rows[0][j] := by
        rw [show rows.headD [] = rows[0] by cases rows with | nil => simp at h0l | cons a l => rfl]
        simp [hjl]
      refine KC.skip ?_
      refine thenK_n ?_
      refine KC.seq ?_
      refine KC.block ?_
      refine KC.seq ?_
      refine KC.region ?_
      refine KT.step rfl rfl (K.move rfl) ?_
      refine KT.idxI rfl rfl rfl hq12 rfl hjl Try.underlying35 Try.size3 fun cs18 => ?_
      refine KT.step rfl rfl (K.load rfl Try.agg3) ?_
      refine KT.step rfl rfl (K.assign rfl) ?_
      refine KT.step rfl rfl (K.assign rfl) ?_
      refine KT.nil ?_
      refine thenK_n ?_
      refine KC.seq ?_
      refine KC.region ?_
      refine KT.step rfl rfl (K.move rfl) ?_
      refine KT.step rfl rfl (K.dropV (m := 1) rfl hd rfl (by omega) (by omega) Try.underlying22 Try.size35) ?_
      refine KT.step rfl rfl (K.move rfl) ?_
      refine KT.step rfl rfl (K.call2 rfl rfl plainTry_115 (without115 (n := n + 1) (dropV_vec hd (m := 1) (by omega)) (by simp; omega) (fun r h => hr r (List.mem_of_mem_drop h)) (by omega) (by omega) (by simp; omega))) ?_
      refine KT.step rfl rfl (K.call1 rfl plainTry_111 (ih j (by omega))) ?_
      refine KT.step rfl rfl (K.move rfl) ?_
      refine KT.step rfl rfl (K.call2 rfl rfl plainTry_116 (timesZ116 _ hbx.1 hbx.2)) ?_
      refine KT.step rfl rfl (K.alloc Try.zero108) ?_
      refine KT.storeH (cs := (words (W (detP n (drow rows j) * rows[0][j]))).map XV.d) rfl rfl rfl rfl (List.getElem?_concat_length ..) rfl (by simp [words, Value.cells]) (one_words _) Try.size108 fun σ2 l2 u2 v2 => ?_
      rw [splice_words _ (by rfl)] at u2
      simp only [List.length_append, List.length_cons, List.length_nil] at l2
      have y0 : σ2[0]? = _ := (v2 0 (by omega)).trans ((List.getElem?_append_left (by omega)).trans h0)
      have y1 : σ2[1]? = _ := (v2 1 (by omega)).trans ((List.getElem?_append_left (by omega)).trans h1)
      have zz := u2
      refine KT.nil ?_
      refine thenK_n ?_
      refine KC.seq ?_
      refine KC.seq ?_
      refine KC.region ?_
      refine KT.step rfl rfl (K.move rfl) ?_
      refine KT.step rfl rfl (K.rem rfl rfl (by omega) (show Int.tmod (j : Int) 2 = ((j % 2 : Nat) : Int) from by rw [Int.tmod_eq_emod_of_nonneg (by omega)]; rfl)) ?_
      refine KT.step rfl rfl (K.eql rfl rfl) ?_
      refine KT.nil ?_
      refine thenK_n ?_
      refine KC.cond rfl (fun hc29 => ?_) (fun hc29 => ?_)
      · skip
        replace hc29 := of_decide_eq_true hc29
        have hterm : 0 - detP n (drow rows j) * rows[0][j] = termP n rows j := by unfold termP; rw [if_pos (by omega), hget]; simp
        refine KC.region ?_
        refine KT.step rfl rfl (K.loadLong (Z := W (detP n (drow rows j) * rows[0][j])) rfl u2) ?_
        refine KT.step rfl rfl (K.call1 rfl plainTry_117 (negZ117 _)) ?_
        refine KT.storeH (cs := (words (W (0 - detP n (drow rows j) * rows[0][j]))).map XV.d) rfl rfl rfl rfl u2 rfl (by rw [words_len, words_len]; omega) (one_words _) Try.size108 fun σ3 l3 u3 v3 => ?_
        rw [splice_words _ (words_len _)] at u3
        replace y0 := (v3 0 (by omega)).trans y0
        replace y1 := (v3 1 (by omega)).trans y1
        have zz := u3
        refine KT.nil ?_
        refine thenK_n ?_
        refine KC.region ?_
        rw [hterm] at zz
        refine KT.step rfl rfl (K.loadLong (Z := W (sumZ (termP n rows) j)) rfl y1) ?_
        refine KT.step rfl rfl (K.loadLong (Z := W (termP n rows j)) rfl zz) ?_
        refine KT.step rfl rfl (K.call2 rfl rfl plainTry_118 (plusZ118 _ _)) ?_
        refine KT.storeH (cs := (words (W (sumZ (termP n rows) j + termP n rows j))).map XV.d) rfl rfl rfl rfl y1 rfl (by rw [words_len, words_len]; omega) (one_words _) Try.size108 fun σ7 l7 u7 v7 => ?_
        rw [splice_words _ (words_len _)] at u7
        replace y0 := (v7 0 (by omega)).trans y0
        refine KT.nil ?_
        refine blockK_n ?_
        refine thenK_n ?_
        refine KC.region ?_
        refine KT.step rfl rfl (K.add rfl rfl (wrap_id (by omega))) ?_
        refine KT.step rfl rfl (K.move rfl) ?_
        refine KT.nil ?_
        refine thenK_n ?_
        refine ⟨(σ7, j + 1), ⟨by simp only; omega, y0, ?_⟩, by simp only; omega, rfl, by simp [Go.Vm.look, extK]⟩
        rw [u7]
        rfl
      · skip
        replace hc29 := of_decide_eq_false hc29
        have hterm : detP n (drow rows j) * rows[0][j] = termP n rows j := by unfold termP; rw [if_neg (by omega), hget]
        refine KC.skip ?_
        refine thenK_n ?_
        refine KC.region ?_
        rw [hterm] at zz
        refine KT.step rfl rfl (K.loadLong (Z := W (sumZ (termP n rows) j)) rfl y1) ?_
        refine KT.step rfl rfl (K.loadLong (Z := W (termP n rows j)) rfl zz) ?_
        refine KT.step rfl rfl (K.call2 rfl rfl plainTry_118 (plusZ118 _ _)) ?_
        refine KT.storeH (cs := (words (W (sumZ (termP n rows) j + termP n rows j))).map XV.d) rfl rfl rfl rfl y1 rfl (by rw [words_len, words_len]; omega) (one_words _) Try.size108 fun σ7 l7 u7 v7 => ?_
        rw [splice_words _ (words_len _)] at u7
        replace y0 := (v7 0 (by omega)).trans y0
        refine KT.nil ?_
        refine blockK_n ?_
        refine thenK_n ?_
        refine KC.region ?_
        refine KT.step rfl rfl (K.add rfl rfl (wrap_id (by omega))) ?_
        refine KT.step rfl rfl (K.move rfl) ?_
        refine KT.nil ?_
        refine thenK_n ?_
        refine ⟨(σ7, j + 1), ⟨by simp only; omega, y0, ?_⟩, by simp only; omega, rfl, by simp [Go.Vm.look, extK]⟩
        rw [u7]
        rfl
    · skip
      replace hc16 := of_decide_eq_false hc16
      obtain rfl : j = rows[0].length := by omega
      refine KC.exit ?_
      refine thenK_x ?_
      refine thenK_x ?_
      refine blockK_e ?_
      refine thenK_n ?_
      refine KC.seq ?_
      refine KC.region ?_
      refine KT.step rfl rfl (K.loadLong (Z := W (sumZ (termP n rows) rows[0].length)) rfl h1) ?_
      refine KT.storeH (cs := (words (W (sumZ (termP n rows) rows[0].length))).map XV.d) rfl rfl rfl rfl h0 rfl (by rw [words_len, outW_len]; omega) (one_words _) Try.size108 fun σ7 l7 u7 v7 => ?_
      rw [splice_words _ (outW_len _ _)] at u7
      refine KT.nil ?_
      refine thenK_n ?_
      refine KC.ret ?_
      rw [hsum]
      refine ⟨.inl rfl, _, resK_agg (m := 4) rfl rfl u7 (by simp) Try.agg108 Try.size108 (by simp [words]), ?_⟩
      rw [words_agg]
      rfl

theorem determinant111 : ∀ (n : Nat), n ≤ 5 → ∀ (rows : List (List Int)) (d : DV), Mat d rows → rows.length = n → (∀ r ∈ rows, r.length = n) → (∀ r ∈ rows, ∀ x ∈ r, -9223372036854775808 ≤ x ∧ x ≤ 9223372036854775807) → DeepCall Try.prog 111 [d] (longZ (detP n rows))
  | 0, _, rows, d, hd, hl, _, _ => by
    obtain rfl : rows = [] := List.length_eq_zero_iff.1 hl
    exact detP_zero hd
  | n + 1, hn, rows, d, hd, hl, hr, hb => by
    refine detP_succ hd hl hr (by omega) hb fun j hj => ?_
    have hlen : ∀ r ∈ drow rows j, r.length = n := fun r h => by
      obtain ⟨r', h1, rfl⟩ := List.mem_map.1 h
      have h2 := hr r' (List.mem_of_mem_drop h1)
      rw [List.length_eraseIdx_of_lt (by omega), h2]; omega
    exact determinant111 n (by omega) (drow rows j) (withoutD (rows.drop 1) j) (withoutD_mat _ _) (by simp [drow, hl]) hlen fun r h x hx => by
      obtain ⟨r', h1, rfl⟩ := List.mem_map.1 h
      exact hb r' (List.mem_of_mem_drop h1) x (List.mem_of_mem_eraseIdx hx)
theorem W_inj {a b : Int} (ha : a.natAbs < 2 ^ 255) (hb : b.natAbs < 2 ^ 255) (h : ∀ i, i < 4 → W a i = W b i) : a = b := by
  have q : ∀ z : Int, z.natAbs < 2 ^ 255 → ∃ Q1 Q2 Q3 : Int, Q1 = z / 2 ^ 64 ∧ Q2 = Q1 / 2 ^ 64 ∧ Q3 = Q2 / 2 ^ 64 ∧ W z 0 = (z % 2 ^ 64).toNat ∧ W z 1 = (Q1 % 2 ^ 64).toNat ∧ W z 2 = (Q2 % 2 ^ 64).toNat ∧ W z 3 = (Q3 % 2 ^ 64).toNat ∧ -2 ^ 63 ≤ Q3 ∧ Q3 < 2 ^ 63 := fun z hz => by
    refine ⟨z / 2 ^ (64 * 1), z / 2 ^ (64 * 2), z / 2 ^ (64 * 3), rfl, div_chain z 1, div_chain z 2, by simp [W], rfl, rfl, rfl, ?_, ?_⟩
    · exact (Int.le_ediv_iff_mul_le (by decide)).2 (by omega)
    · exact (Int.ediv_lt_iff_lt_mul (by decide)).2 (by omega)
  obtain ⟨p1, p2, p3, a1, a2, a3, w0, w1, w2, w3, a4, a5⟩ := q a ha
  obtain ⟨r1, r2, r3, b1, b2, b3, v0, v1, v2, v3, b4, b5⟩ := q b hb
  have h0 := h 0 (by omega)
  have h1 := h 1 (by omega)
  have h2 := h 2 (by omega)
  have h3 := h 3 (by omega)
  rw [w0, v0] at h0
  rw [w1, v1] at h1
  rw [w2, v2] at h2
  rw [w3, v3] at h3
  have e3 : p3 = r3 := by clear h0 h1 h2 a1 a2 a3 b1 b2 b3; omega
  have e2 : p2 = r2 := by clear h0 h1 h3 a1 a2 b1 b2; omega
  have e1 : p1 = r1 := by clear h0 h3 h2 a1 a3 b1 b3; omega
  clear h1 h2 h3 a2 a3 b2 b3
  omega
theorem longZ_inj {a b : Int} (ha : a.natAbs < 2 ^ 255) (hb : b.natAbs < 2 ^ 255) : (longZ a = longZ b) ↔ a = b := by
  refine ⟨fun h => W_inj ha hb fun i hi => ?_, fun h => by rw [h]⟩
  have h1 : words (W a) = words (W b) := DV.agg.inj h
  have h2 : U (W a i) = U (W b i) := by
    have g : ∀ X : Nat → Nat, (words X)[i]? = some (U (X i)) := fun X => by simp [words, hi]
    have := g (W a)
    rw [h1, g] at this
    exact (Option.some.inj this).symm
  simp only [U] at h2
  injection h2 with h2
  injection h2 with _ h2
  omega

def uniP (m : List (List Int)) (n : Nat) : Bool := decide (detP n m = 1) || decide (detP n m = -1)
theorem eqIn_u64 (d : Nat) (a b : Int) : pureRun Try.prog (Op.equalIn (d + 1) 103 (.int .u64 a) (.int .u64 b)) = some (a == b) := by
  unfold Op.equalIn
  rw [pureRun_bind, show pureRun Try.prog (underlying 103) = some (.int .u64) from by kernel_rfl]
  rfl
abbrev agg4 (X : Nat → Nat) : Value := .agg #[.int .u64 (X 0 : Int), .int .u64 (X 1 : Int), .int .u64 (X 2 : Int), .int .u64 (X 3 : Int)]
theorem part4 (X : Nat → Nat) (i : Nat) (hi : i < 4) : pureRun Try.prog (Go.part 103 #[.int .u64 (X 0 : Int), .int .u64 (X 1 : Int), .int .u64 (X 2 : Int), .int .u64 (X 3 : Int)] (i * 1)) = some (.int .u64 (X i)) := by
  unfold Go.part
  rw [pureRun_bind, show pureRun Try.prog (isAgg 103) = some false from by kernel_rfl]
  match i, hi with
  | 0, _ => rfl
  | 1, _ => rfl
  | 2, _ => rfl
  | 3, _ => rfl
theorem equal4 (d : Nat) (X Y : Nat → Nat) : pureRun Try.prog (Op.equalIn (d + 2) 108 (agg4 X) (agg4 Y)) = some ((X 0 : Int) == (Y 0 : Int) && (X 1 : Int) == (Y 1 : Int) && (X 2 : Int) == (Y 2 : Int) && (X 3 : Int) == (Y 3 : Int)) := by
  unfold Op.equalIn
  rw [pureRun_bind, show pureRun Try.prog (underlying 108) = some (.array 4 103) from by kernel_rfl]
  simp only [Option.bind_some]
  rw [pureRun_bind, show pureRun Try.prog (sizeOf 103) = some 1 from by kernel_rfl]
  simp only [Option.bind_some]
  skip
  simp only [Std.Legacy.Range.forIn_eq_forIn_range', Std.Legacy.Range.size]
  simp only [List.range', List.forIn_cons, Nat.reduceSub, Nat.reduceAdd, Nat.reduceDiv]
  have p0 := part4 X 0 (by omega)
  have p1 := part4 X 1 (by omega)
  have p2 := part4 X 2 (by omega)
  have p3 := part4 X 3 (by omega)
  have q0 := part4 Y 0 (by omega)
  have q1 := part4 Y 1 (by omega)
  have q2 := part4 Y 2 (by omega)
  have q3 := part4 Y 3 (by omega)
  cases h0 : ((X 0 : Int) == (Y 0 : Int)) <;> cases h1 : ((X 1 : Int) == (Y 1 : Int)) <;> cases h2 : ((X 2 : Int) == (Y 2 : Int)) <;> cases h3 : ((X 3 : Int) == (Y 3 : Int)) <;>
  simp only [pureRun_bind, p0, p1, p2, p3, q0, q1, q2, q3, Option.bind_some, eqIn_u64, h0, h1, h2, h3, Bool.not_true, Bool.not_false, if_true, Bool.false_eq_true, if_false, pureRun_pure, List.forIn_nil, Bool.and_true, Bool.and_false, Bool.true_and, Bool.false_and]
theorem eq_long (x y : Operand) (X Y : Nat → Nat) : pureRun Try.prog (do eqGuard .eql 108 x y (agg4 X) (agg4 Y); binOp .eql 108 (agg4 X) (agg4 Y) : Sem Value) = some (.bool ((X 0 : Int) == (Y 0 : Int) && (X 1 : Int) == (Y 1 : Int) && (X 2 : Int) == (Y 2 : Int) && (X 3 : Int) == (Y 3 : Int))) := by
  rw [pureRun_bind, show pureRun Try.prog (eqGuard .eql 108 x y (agg4 X) (agg4 Y)) = some () from by
    show pureRun Try.prog (do if !(← program).eqGuardType (← program).depth 108 then return
                              if ← Op.eqGuardIn Op.maxDepth 108 (agg4 X) (agg4 Y) then unsupported (.noEntry "binop/eql: two nil values of an interface type with methods, in a part of a struct or an array")) = some ()
    rw [pureRun_bind, show pureRun Try.prog program = some Try.prog from rfl]
    simp only [Option.bind_some]
    rw [pureRun_bind, show pureRun Try.prog program = some Try.prog from rfl]
    simp only [Option.bind_some]
    rw [show Try.prog.eqGuardType Try.prog.depth 108 = false from by kernel_rfl]
    rfl]
  simp only [Option.bind_some]
  show pureRun Try.prog (do pure (Value.bool (← Op.equal 108 (agg4 X) (agg4 Y)))) = _
  rw [pureRun_bind]
  show (pureRun Try.prog (Op.equalIn (9998 + 2) 108 (agg4 X) (agg4 Y))).bind _ = _
  rw [equal4]
  rfl
theorem neq_long (x y : Operand) (X Y : Nat → Nat) : pureRun Try.prog (do eqGuard .neq 108 x y (agg4 X) (agg4 Y); binOp .neq 108 (agg4 X) (agg4 Y) : Sem Value) = some (.bool (!((X 0 : Int) == (Y 0 : Int) && (X 1 : Int) == (Y 1 : Int) && (X 2 : Int) == (Y 2 : Int) && (X 3 : Int) == (Y 3 : Int)))) := by
  rw [pureRun_bind, show pureRun Try.prog (eqGuard .neq 108 x y (agg4 X) (agg4 Y)) = some () from by
    show pureRun Try.prog (do if !(← program).eqGuardType (← program).depth 108 then return
                              if ← Op.eqGuardIn Op.maxDepth 108 (agg4 X) (agg4 Y) then unsupported (.noEntry "binop/eql: two nil values of an interface type with methods, in a part of a struct or an array")) = some ()
    rw [pureRun_bind, show pureRun Try.prog program = some Try.prog from rfl]
    simp only [Option.bind_some]
    rw [pureRun_bind, show pureRun Try.prog program = some Try.prog from rfl]
    simp only [Option.bind_some]
    rw [show Try.prog.eqGuardType Try.prog.depth 108 = false from by kernel_rfl]
    rfl]
  simp only [Option.bind_some]
  show pureRun Try.prog (do pure (Value.bool (!(← Op.equal 108 (agg4 X) (agg4 Y))))) = _
  rw [pureRun_bind]
  show (pureRun Try.prog (Op.equalIn (9998 + 2) 108 (agg4 X) (agg4 Y))).bind _ = _
  rw [equal4]
  rfl
theorem W_beq {a b : Int} (ha : a.natAbs < 2 ^ 255) (hb : b.natAbs < 2 ^ 255) : ((W a 0 : Int) == (W b 0 : Int) && (W a 1 : Int) == (W b 1 : Int) && (W a 2 : Int) == (W b 2 : Int) && (W a 3 : Int) == (W b 3 : Int)) = decide (a = b) := by
  by_cases h : a = b
  · subst h; simp
  · rw [decide_eq_false h]
    refine Bool.eq_false_iff.2 fun h2 => h (W_inj ha hb fun i hi => ?_)
    simp only [Bool.and_eq_true, beq_iff_eq] at h2
    obtain ⟨⟨⟨h3, h4⟩, h5⟩, h6⟩ := h2
    match i, hi with
    | 0, _ => exact Int.ofNat.inj h3
    | 1, _ => exact Int.ofNat.inj h4
    | 2, _ => exact Int.ofNat.inj h5
    | 3, _ => exact Int.ofNat.inj h6
section
variable {σ : List VObj} {kn : Kn} {dst : Option Tmp} {ty : TypeId} {pos : String} {af : Array Edge} {g : Option (Nat × Bool)}
theorem K.longEq {x y : Operand} {u : TypeId} {a b : Int} (hx : evK kn x = some (.d (longZ a))) (hy : evK kn y = some (.d (longZ b))) (ha : a.natAbs < 2 ^ 255) (hb : b.natAbs < 2 ^ 255) :
    KEv Try.prog ⟨dst, .binOp .eql 108 x y u, ty, pos, af, g⟩ σ kn (.d (DB (decide (a = b)))) σ 0 :=
  K.bin2 hx hy rfl (by unfold opEqNil; rw [show isSliceT Try.prog 108 = false from by kernel_rfl]; rfl) (a := agg4 (W a)) (b := agg4 (W b)) rfl rfl (by rw [eq_long, W_beq ha hb])
theorem K.longNeq {x y : Operand} {u : TypeId} {a b : Int} (hx : evK kn x = some (.d (longZ a))) (hy : evK kn y = some (.d (longZ b))) (ha : a.natAbs < 2 ^ 255) (hb : b.natAbs < 2 ^ 255) :
    KEv Try.prog ⟨dst, .binOp .neq 108 x y u, ty, pos, af, g⟩ σ kn (.d (DB (!decide (a = b)))) σ 0 :=
  K.bin2 hx hy rfl (by unfold opEqNil; rw [show isSliceT Try.prog 108 = false from by kernel_rfl]; rfl) (a := agg4 (W a)) (b := agg4 (W b)) rfl rfl (by rw [neq_long, W_beq ha hb])
end
set_option maxRecDepth 10000 in
theorem unimodular96 {d : DV} {m : List (List Int)} {n : Nat} (hd : Mat d m) (hl : m.length = n) (hr : ∀ r ∈ m, r.length = n) (hn : n ≤ 5) (he : Ent (2 ^ 40) m) : DeepCall Try.prog 96 [d] (DB (uniP m n)) := by
  have hb : (detP n m).natAbs < 2 ^ 255 := Nat.lt_of_le_of_lt (Nat.le_trans (detP_bd (L := 5) n m he (fun r h => by rw [hr r h]; exact hn)) (Nat.le_of_lt (wide_pow hn))) (by decide)
  have hx : ∀ r ∈ m, ∀ x ∈ r, -9223372036854775808 ≤ x ∧ x ≤ 9223372036854775807 := fun r h x hx => by have := he r h x hx; omega
  refine deepCall_K 5 Try.func96 rfl (Nat.le_of_ble_eq_true rfl) fun M W0 => ?_
  refine KC.seq ?_
  refine KC.region ?_
  refine KT.step rfl rfl (K.assign rfl) ?_
  refine KT.nil ?_
  refine thenK_n ?_
  refine KC.seq ?_
  refine KC.region ?_
  refine KT.step rfl rfl (K.move rfl) ?_
  refine KT.step rfl rfl (K.call1 rfl plainTry_111 (determinant111 n hn m d hd hl hr hx)) ?_
  refine KT.step rfl rfl (K.alloc Try.zero108) ?_
  refine KT.step rfl rfl (K.storeN rfl rfl rfl (by simp [cellsX, words, Value.cells]) (one_words _) Try.size108) ?_
  refine KT.nil ?_
  refine thenK_n ?_
  refine KC.seq ?_
  refine KC.draw Try.mixed ?_
  refine KT.step rfl rfl (K.loadLong (Z := W (detP n m)) rfl rfl) ?_
  refine KT.step rfl rfl (K.call1 rfl plainTry_112 (longOf112 (by decide) (by decide))) ?_
  refine KT.step rfl rfl (K.longEq rfl rfl hb (by decide)) ?_
  refine KT.step rfl rfl (K.move rfl) ?_
  refine KT.bcase (fun hb9 => ?_) (fun hb9 => ?_)
  · skip
    refine KT.skip rfl rfl ?_
    refine KT.skip rfl rfl ?_
    refine KT.skip rfl rfl ?_
    refine KT.step rfl rfl (K.pick rfl (fun _ => rfl) (fun h => by cases h)) ?_
    refine KT.step rfl rfl (K.assign rfl) ?_
    refine KT.nil ?_
    refine ⟨by kernel_rfl, ?_⟩
    refine thenK_n ?_
    refine KC.ret ?_
    refine ⟨.inl rfl, _, rfl, fin_b ?_⟩
    unfold uniP
    first
      | (rw [hb9]; rfl)
      | (rw [hb9]; simp)
  · skip
    refine KT.step rfl rfl (K.loadLong (Z := W (detP n m)) rfl rfl) ?_
    refine KT.step rfl rfl (K.call1 rfl plainTry_112 (longOf112 (by decide) (by decide))) ?_
    refine KT.step rfl rfl (K.longEq rfl rfl hb (by decide)) ?_
    refine KT.step rfl rfl (K.pick rfl (fun h => by cases h) (fun _ => rfl)) ?_
    refine KT.step rfl rfl (K.assign rfl) ?_
    refine KT.nil ?_
    refine ⟨by kernel_rfl, ?_⟩
    refine thenK_n ?_
    refine KC.ret ?_
    refine ⟨.inl rfl, _, rfl, fin_b ?_⟩
    unfold uniP
    first
      | (rw [hb9]; rfl)
      | (rw [hb9]; simp)
end Go.Proofs.Ytlomhajhoecoiaa
