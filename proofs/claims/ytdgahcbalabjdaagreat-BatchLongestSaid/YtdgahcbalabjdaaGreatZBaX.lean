import Derived.Test.YtdgahcbalabjdaaGreatZBaW
import Derived.Test.YtdgahcbalabjdaaGreatFlX
/-
  Batch: what the laws share.
-/
namespace Go.Proofs.YtdgahcbalabjdaaGreat
open Go.Vm Go.Ht Go.Ba
theorem plainTryz_6 : plainFn Tryz.prog 6 = true := by kernel_rfl
theorem plainTryz_7 : plainFn Tryz.prog 7 = true := by kernel_rfl
theorem plainTryz_13 : plainFn Tryz.prog 13 = true := by kernel_rfl
theorem clone_fin {cs : List DV} {len : Nat} {cap : Option Nat} (hn : cs.length = len) (h0 : len ≠ 0) :
    deepen (freezeAll [(⟨[], 0⟩ : VObj), ⟨(cs.take len).map .d, 0⟩]) 5 (.osl 1 0 len 1 len false) = some (cloneD (.sl cs len cap)) := by
  have e : cs.take len = cs := List.take_of_length_le (by omega)
  rw [e]
  rw [deepen_osl (ob := ⟨cs.map .d, 1⟩) rfl rfl (by simp [hn])]
  have h2 : ((cs.map XV.d).drop 0).take (len * 1) = cs.map XV.d := by
    rw [List.drop_zero, Nat.mul_one, List.take_of_length_le (by simp [hn])]
  rw [show ((⟨cs.map XV.d, 1⟩ : VObj).cells.drop 0).take (len * 1) = cs.map XV.d from h2, mapM_deep]
  simp [cloneD, h0, e]
set_option maxRecDepth 10000 in
theorem clone41_nil : DeepCall Tryz.prog 13 [Dnil] Dnil := by
  refine deepCall_K 5 Tryz.func13 rfl (Nat.le_of_ble_eq_true rfl) fun M W0 => ?_
  refine KC.seq ?_
  refine KC.region ?_
  refine KT.step rfl rfl (K.assign rfl) ?_
  refine KT.nil ?_
  refine thenK_n ?_
  refine KC.seq ?_
  refine KC.seq ?_
  refine KC.region ?_
  refine KT.step rfl rfl (K.move rfl) ?_
  refine KT.step rfl rfl (K.eqNilNil rfl Tryz.underlying36) ?_
  refine KT.nil ?_
  refine thenK_n ?_
  refine KC.cond rfl (fun hc4 => ?_) (fun hc4 => ?_)
  · skip
    refine KC.seq ?_
    refine KC.region ?_
    refine KT.step rfl rfl (K.assign rfl) ?_
    refine KT.nil ?_
    refine thenK_n ?_
    refine KC.ret ?_
    refine thenK_r ?_
    exact ⟨.inl rfl, _, rfl, fin_d rfl⟩
  · cases hc4

set_option maxRecDepth 10000 in
theorem clone41_zero {cs : List DV} {cap : Option Nat} : DeepCall Tryz.prog 13 [.sl cs 0 cap] (.sl [] 0 (some 0)) := by
  refine deepCall_K 5 Tryz.func13 rfl (Nat.le_of_ble_eq_true rfl) fun M W0 => ?_
  refine KC.seq ?_
  refine KC.region ?_
  refine KT.step rfl rfl (K.assign rfl) ?_
  refine KT.nil ?_
  refine thenK_n ?_
  refine KC.seq ?_
  refine KC.seq ?_
  refine KC.region ?_
  refine KT.step rfl rfl (K.move rfl) ?_
  refine KT.step rfl rfl (K.eqNil rfl Tryz.underlying36) ?_
  refine KT.nil ?_
  refine thenK_n ?_
  refine KC.cond rfl (fun hc4 => ?_) (fun hc4 => ?_)
  · cases hc4
  · skip
    refine KC.skip ?_
    refine thenK_n ?_
    refine KC.seq ?_
    refine KC.region ?_
    refine KT.step rfl rfl (K.build0 Tryz.underlying36 Tryz.one3) ?_
    refine KT.step rfl rfl (K.move rfl) ?_
    refine KT.step rfl rfl (K.appNone rfl rfl Tryz.underlying36 Tryz.one3) ?_
    refine KT.step rfl rfl (K.assign rfl) ?_
    refine KT.nil ?_
    refine thenK_n ?_
    refine KC.ret ?_
    exact ⟨.inl rfl, _, rfl, rfl⟩

set_option maxRecDepth 10000 in
theorem clone41_all {cs : List DV} {len : Nat} {cap : Option Nat} (hn : cs.length = len) (h1 : ((cs.take len).map XV.d).all oneX = true) (h0 : len ≠ 0) (hl : len ≤ 1073741824) : DeepCall Tryz.prog 13 [.sl cs len cap] (cloneD (.sl cs len cap)) := by
  refine deepCall_K 5 Tryz.func13 rfl (Nat.le_of_ble_eq_true rfl) fun M W0 => ?_
  refine KC.seq ?_
  refine KC.region ?_
  refine KT.step rfl rfl (K.assign rfl) ?_
  refine KT.nil ?_
  refine thenK_n ?_
  refine KC.seq ?_
  refine KC.seq ?_
  refine KC.region ?_
  refine KT.step rfl rfl (K.move rfl) ?_
  refine KT.step rfl rfl (K.eqNil rfl Tryz.underlying36) ?_
  refine KT.nil ?_
  refine thenK_n ?_
  refine KC.cond rfl (fun hc4 => ?_) (fun hc4 => ?_)
  · cases hc4
  · skip
    refine KC.skip ?_
    refine thenK_n ?_
    refine KC.seq ?_
    refine KC.region ?_
    refine KT.step rfl rfl (K.build0 Tryz.underlying36 Tryz.one3) ?_
    refine KT.step rfl rfl (K.move rfl) ?_
    refine KT.step rfl rfl (K.appAll rfl rfl rfl hn h1 h0 hl Tryz.underlying36 Tryz.one3) ?_
    refine KT.step rfl rfl (K.assign rfl) ?_
    refine KT.nil ?_
    refine thenK_n ?_
    refine KC.ret ?_
    exact ⟨.inl rfl, _, rfl, clone_fin hn h0⟩

theorem clone41 {d : DV} {l : List Int} (hd : Ints d l) (hl : l.length ≤ 1073741824) : DeepCall Tryz.prog 13 [d] (cloneD d) := by
  rcases litOf_vec hd with ⟨rfl, rfl⟩ | ⟨cs, cap, rfl, hn, hr⟩
  · exact clone41_nil
  · by_cases h0 : l.length = 0
    · rw [h0]; exact clone41_zero
    · refine clone41_all hn ?_ h0 hl
      rw [List.all_map, List.all_eq_true]
      intro x hx
      obtain ⟨i, hi, rfl⟩ := List.getElem_of_mem (List.mem_of_mem_take hx)
      rw [hr i cs[i] l[i] (List.getElem?_eq_getElem hi) (List.getElem?_eq_getElem (by omega))]
      rfl

/-- The first eight. -/
def list12 (l : List Int) (d : DV) : DV := cloneD (takeV (min l.length 12) d)
theorem list12_ints {d : DV} {l : List Int} (hd : Ints d l) : Ints (list12 l d) (l.take 12) := by
  have h := cloneD_vec (takeV_vec hd (m := min l.length 12) (by omega))
  have e : l.take (min l.length 12) = l.take 12 := by
    by_cases h8 : l.length ≤ 12
    · rw [List.take_of_length_le (by omega), List.take_of_length_le h8]
    · rw [show min l.length 12 = 12 by omega]
  rwa [e] at h
def row12 (m : List (List Int)) (d : DV) (i : Nat) : DV := list12 (m.getD i []) (getV d i)
def rows12 (m : List (List Int)) (d : DV) : DV := slOf ((List.range (min m.length 6)).map (row12 m d))

theorem row12_ints {d : DV} {m : List (List Int)} (hd : Mat d m) {i : Nat} (hi : i < m.length) : Ints (getV d i) (m.getD i []) := by
  have := getV_vec hd hi
  rwa [show m.getD i [] = m[i] by simp [hi]]

theorem rows12_mat {d : DV} {m : List (List Int)} (hd : Mat d m) : Mat (rows12 m d) ((m.take 6).map (List.take 12)) := by
  have hlen : ((List.range (min m.length 6)).map (row12 m d)).length = ((m.take 6).map (List.take 12)).length := by simp; omega
  unfold rows12
  generalize hg : (List.range (min m.length 6)).map (row12 m d) = ds at hlen
  cases ds with
  | nil =>
    have : (m.take 6).map (List.take 12) = [] := List.length_eq_zero_iff.1 hlen.symm
    rw [this]; exact .nil
  | cons a ds =>
    rw [show slOf (a :: ds) = .sl (a :: ds) (a :: ds).length none from rfl, hlen]
    refine .sl hlen fun i c x hc hx => ?_
    rw [← hg, List.getElem?_map] at hc
    by_cases hi : i < min m.length 6
    · rw [List.getElem?_range hi] at hc
      simp only [Option.map_some, Option.some.injEq] at hc
      rw [List.getElem?_map, List.getElem?_take, if_pos (by omega), List.getElem?_eq_getElem (by omega)] at hx
      simp only [Option.map_some, Option.some.injEq] at hx
      subst hc hx
      have := list12_ints (row12_ints hd (i := i) (by omega))
      have e : m.getD i [] = m[i] := by simp [show i < m.length by omega]
      unfold row12
      rw [e] at this ⊢; exact this
    · rw [List.getElem?_eq_none (by simp; omega)] at hc; cases hc
set_option maxRecDepth 10000 in
theorem rows17 {d : DV} {m : List (List Int)} (hd : Mat d m) (hl : m.length ≤ 9223372036854775807) (hr : ∀ i, i < m.length → (m.getD i []).length ≤ 9223372036854775807) : DeepCall Tryz.prog 7 [d] (rows12 m d) := by
  refine deepCall_K 5 Tryz.func7 rfl (Nat.le_of_ble_eq_true rfl) fun M W0 => ?_
  refine KC.seq ?_
  refine KC.region ?_
  refine KT.step rfl rfl (K.assign rfl) ?_
  refine KT.nil ?_
  refine thenK_n ?_
  refine KC.seq ?_
  refine KC.region ?_
  refine KT.step rfl rfl (K.assign rfl) ?_
  refine KT.nil ?_
  refine thenK_n ?_
  refine KC.seq ?_
  refine KC.seq ?_
  refine KC.region ?_
  refine KT.step rfl rfl (K.move rfl) ?_
  refine KT.step rfl rfl (K.len rfl (by assumption) Tryz.underlying25) ?_
  refine KT.step rfl rfl (K.move rfl) ?_
  refine KT.nil ?_
  refine thenK_n ?_
  refine KC.block ?_
  refine KC.loop (fun p : List VObj × XV × Nat => p.1) (fun p => [(0, .d d), (3, p.2.1), (6, .d d), (7, .d (DI m.length)), (8, .d (DI p.2.2))]) (fun p => p.2.2 ≤ m.length ∧ p.2.2 ≤ 6 ∧ Own p.1 p.2.1 (((List.range p.2.2).map (row12 m d)).map .d) ∧ (p.2.2 = 0 → p.2.1 = .d Dnil)) (fun p => m.length - p.2.2) ([], .d Dnil, 0) ⟨Nat.zero_le _, Nat.zero_le _, .nil, fun _ => rfl⟩ rfl (by simp [Go.Vm.look, extK, enterK]) ?_
  intro p hp
  obtain ⟨σ0, x0, i⟩ := p
  obtain ⟨hi, hi8, hown, hnil⟩ := hp
  simp only at hi hi8 hown hnil ⊢
  refine KC.seq ?_
  refine KC.region ?_
  refine KT.step rfl rfl (K.lss rfl rfl) ?_
  refine KT.nil ?_
  refine thenK_n ?_
  refine KC.seq ?_
  refine KC.cond rfl (fun hc9 => ?_) (fun hc9 => ?_)
  · skip
    simp at hc9
    have hlt : i < m.length := by omega
    have hrow := row12_ints hd hlt
    have hrl := hr i hlt
    refine KC.skip ?_
    refine thenK_n ?_
    refine KC.seq ?_
    refine KC.block ?_
    refine KC.seq ?_
    refine KC.region ?_
    refine KT.step rfl rfl (K.move rfl) ?_
    refine KT.step rfl rfl (K.idxV rfl (by assumption) rfl (by omega) Tryz.underlying25 Tryz.size36) ?_
    refine KT.step rfl rfl (K.load rfl Tryz.agg36) ?_
    refine KT.step rfl rfl (K.assign rfl) ?_
    refine KT.step rfl rfl (K.assign rfl) ?_
    refine KT.nil ?_
    refine thenK_n ?_
    refine KC.seq ?_
    refine KC.seq ?_
    refine KC.region ?_
    refine KT.step rfl rfl (K.move rfl) ?_
    refine KT.step rfl rfl (K.gtr rfl rfl) ?_
    refine KT.nil ?_
    refine thenK_n ?_
    refine KC.cond rfl (fun hc14 => ?_) (fun hc14 => ?_)
    · skip
      simp at hc14
      refine KC.exit ?_
      refine thenK_x ?_
      refine blockK_x (by decide) ?_
      refine thenK_x ?_
      refine thenK_x ?_
      refine blockK_e ?_
      refine thenK_n ?_
      refine KC.seq ?_
      refine KC.region ?_
      refine KT.step rfl rfl (K.move rfl) ?_
      refine KT.step rfl rfl (K.assign rfl) ?_
      refine KT.nil ?_
      refine thenK_n ?_
      refine KC.ret ?_
      have : i = min m.length 6 := by omega
      subst this
      refine ⟨.inl rfl, _, rfl, fin_own hown fun h => hnil ?_⟩
      simpa using h
    · skip
      simp at hc14
      refine KC.skip ?_
      refine thenK_n ?_
      refine KC.region ?_
      refine KT.step rfl rfl (K.move rfl) ?_
      refine KT.step rfl rfl (K.move rfl) ?_
      refine KT.step rfl rfl (K.move rfl) ?_
      refine KT.step rfl rfl (K.len rfl (by assumption) Tryz.underlying36) ?_
      refine KT.step rfl rfl (K.minN (b := 12) rfl rfl) ?_
      refine KT.step rfl rfl (K.takeV rfl (by assumption) rfl (by omega) Tryz.underlying36 Tryz.size3) ?_
      refine KT.step rfl rfl (K.call1 rfl plainTryz_13 (clone41 (takeV_vec hrow (by omega)) (by simp; omega))) ?_
      refine KT.step rfl rfl (K.build1' (v := .d (row12 m d i)) rfl (cellsX_clone (takeV_vec hrow (m := min (m.getD i []).length 12) (by omega))).1 Tryz.underlying25 Tryz.one36) ?_
      refine KT.app (v := .d (row12 m d i)) rfl rfl rfl rfl (Own.pushed hown _) (by simp) (cellsX_clone (takeV_vec hrow (m := min (m.getD i []).length 12) (by omega))).2 (by simp; omega) Tryz.underlying25 Tryz.one36 fun σ1 x1 ho1 => ?_
      refine KT.step rfl rfl (K.assign rfl) ?_
      refine KT.nil ?_
      refine blockK_n ?_
      refine thenK_n ?_
      refine KC.region ?_
      refine KT.step rfl rfl (K.add rfl rfl (wrap_id (by omega))) ?_
      refine KT.step rfl rfl (K.move rfl) ?_
      refine KT.nil ?_
      refine thenK_n ?_
      refine ⟨(σ1, x1, i + 1), ⟨by simp only; omega, by simp only; omega, ?_, fun h => by simp at h⟩, by simp only; omega, rfl, by simp [Go.Vm.look, extK]⟩
      rw [List.range_succ, List.map_append, List.map_append]
      exact ho1
  · skip
    simp at hc9
    refine KC.exit ?_
    refine thenK_x ?_
    refine thenK_x ?_
    refine blockK_e ?_
    refine thenK_n ?_
    refine KC.seq ?_
    refine KC.region ?_
    refine KT.step rfl rfl (K.move rfl) ?_
    refine KT.step rfl rfl (K.assign rfl) ?_
    refine KT.nil ?_
    refine thenK_n ?_
    refine KC.ret ?_
    have : i = min m.length 6 := by omega
    subst this
    refine ⟨.inl rfl, _, rfl, fin_own hown fun h => hnil ?_⟩
    simpa using h

/-- Jobs as they are copied. -/
def cutJ (J : List (List (Int × Int))) : List (List (Int × Int)) := (J.take 5).map (List.take 6)
def jobsV (R : List (List (Int × Int))) : DV := match R with | [] => Dnil | _ => .sl (R.map (flV c2)) R.length none
theorem jobsV_ok (R : List (List (Int × Int))) : JbD (jobsV R) R := by
  cases R with
  | nil => exact .nil
  | cons a R =>
    exact .sl (by simp) fun i c y hc hy => by
      rw [List.getElem?_map, hy] at hc
      cases hc
      exact flV_ok y
theorem own_jobs {σ : List VObj} {x : XV} {k : Nat} {R : List (List (Int × Int))} (h : OwnK 1 σ x ((R.map (flV c2)).map .d)) (hne : R = [] → x = .d Dnil) : deepen (freezeAll σ) (k + 2) x = some (jobsV R) := by
  cases R with
  | nil => rw [hne rfl]; rfl
  | cons a R =>
    generalize hc : ((a :: R).map (flV c2)).map XV.d = cs at h
    have hcl := congrArg List.length hc
    rw [List.length_map, List.length_map] at hcl
    cases h with
    | nil => simp at hcl
    | @sl id n cells h hn =>
      subst hc
      rw [List.length_map, List.length_map, Nat.mul_one] at hn
      subst hn
      have f2 : (freezeAll σ)[id]? = some ⟨((a :: R).map (flV c2)).map .d, 1⟩ := by simp [freezeAll, h]
      rw [deepen_osl f2 rfl (by simp), List.drop_zero, Nat.mul_one, List.take_of_length_le (by simp), mapM_deep]; rfl
theorem cut_take {J : List (List (Int × Int))} {i : Nat} (hi : i < J.length) : ((J.take (i + 1)).map (List.take 6)) = (J.take i).map (List.take 6) ++ [J[i].take 6] := by
  rw [List.take_succ_eq_append_getElem hi, List.map_append]; rfl
theorem deepen_agg2 {σ : List VObj} {k : Nat} {a r : DV} {x : XV} (e : deepen σ (k + 2) x = some r) : deepen σ (k + 3) (aggX [.d a, x]) = some (.agg [a, r]) := by
  cases x with
  | d y => cases e; rfl
  | yl => cases e
  | lp => cases e
  | _ =>
    show (([.d a, _] : List XV).mapM (deepen σ (k + 2))).map DV.agg = _
    rw [List.mapM_cons, List.mapM_cons, e]; rfl
theorem deepen_shop {σ : List VObj} {x : XV} {k : Nat} {N : Int} {R : List (List (Int × Int))} (h : OwnK 1 σ x ((R.map (flV c2)).map .d)) (hne : R = [] → x = .d Dnil) : deepen (freezeAll σ) (k + 3) (aggX [.d (DI N), x]) = some (.agg [DI N, jobsV R]) := by
  exact deepen_agg2 (own_jobs (k := k) h hne)
theorem build32_p (x : Int) : opBuild Tryz.prog 31 [(0, .d (DI x))] = some (.d (.agg [DI x, Dnil])) := by kernel_rfl
set_option maxHeartbeats 2000000 in
set_option maxRecDepth 10000 in
theorem of16 {N : Int} {jd : DV} {J : List (List (Int × Int))} (hd : JbD jd J) (_ : J.length ≤ 9223372036854775807) (hr : ∀ j ∈ J, j.length ≤ 9223372036854775807) : DeepCall Tryz.prog 6 [.agg [DI N, jd]] (.agg [DI N, jobsV (cutJ J)]) := by
  refine deepCall_K 9 Tryz.func6 rfl (Nat.le_of_ble_eq_true rfl) fun M W0 => ?_
  refine KC.seq ?_
  refine KC.region ?_
  refine KT.step rfl rfl (K.box rfl) ?_
  refine KT.step rfl rfl (K.alloc Tryz.zero31) ?_
  refine KT.nil ?_
  refine thenK_n ?_
  refine KC.seq ?_
  refine KC.region ?_
  refine KT.step rfl rfl (K.fieldAddrO rfl Tryz.fld24_0 Tryz.size3) ?_
  refine KT.step rfl rfl (K.loadO rfl rfl (by simp) rfl Tryz.agg3) ?_
  refine KT.step rfl rfl (K.buildS rfl (build32_p _)) ?_
  refine KT.step rfl rfl (K.alloc Tryz.zero31) ?_
  refine KT.putAll (cs := [.d (DI N), .d Dnil]) rfl rfl rfl rfl rfl rfl rfl rfl Tryz.size31 ?_
  refine KT.nil ?_
  refine thenK_n ?_
  refine KC.seq ?_
  refine KC.seq ?_
  refine KC.region ?_
  refine KT.step rfl rfl (K.fieldAddrO rfl Tryz.fld24_1 Tryz.size22) ?_
  refine KT.step rfl rfl (K.loadO (y := .d jd) rfl rfl (by simp) rfl Tryz.agg22) ?_
  refine KT.step rfl rfl (K.len rfl hd Tryz.underlying22) ?_
  refine KT.step rfl rfl (K.move rfl) ?_
  refine KT.nil ?_
  refine thenK_n ?_
  refine KC.block ?_
  refine KC.loop (fun p : List VObj × XV × Nat => p.1) (fun p => [(2, .optr 1 0), (3, .optr 2 0), (13, .d jd), (14, .d (DI (J.length : Nat))), (15, .d (DI (p.2.2 : Nat)))]) (fun p => p.2.2 ≤ J.length ∧ p.2.2 ≤ 5 ∧ p.1[1]? = some ⟨[.d (DI 0), .d Dnil], 0⟩ ∧ p.1[2]? = some ⟨[.d (DI N), p.2.1], 0⟩ ∧ OwnK 1 p.1 p.2.1 ((((J.take p.2.2).map (List.take 6)).map (flV c2)).map XV.d) ∧ (∀ j, idX p.2.1 = some j → 3 ≤ j) ∧ ((J.take p.2.2).map (List.take 6) = [] → p.2.1 = .d Dnil)) (fun p => J.length - p.2.2) (_, .d Dnil, 0) ⟨Nat.zero_le _, Nat.zero_le _, rfl, rfl, .nil, fun j hj => (by cases hj), fun _ => rfl⟩ rfl (by simp [Go.Vm.look, extK, enterK]) ?_
  intro p hp
  obtain ⟨σ0, x0, i⟩ := p
  obtain ⟨hi, hi5', yz, y2, o0, d0, n0⟩ := hp
  simp only at hi hi5' yz y2 o0 d0 n0 ⊢
  refine KC.seq ?_
  refine KC.region ?_
  refine KT.step rfl rfl (K.lss rfl rfl) ?_
  refine KT.nil ?_
  refine thenK_n ?_
  refine KC.seq ?_
  refine KC.cond rfl (fun hc16 => ?_) (fun hc16 => ?_)
  · skip
    replace hc16 := of_decide_eq_true hc16
    have hil : i < J.length := by omega
    have hri := hr _ (List.getElem_mem hil)
    refine KC.skip ?_
    refine thenK_n ?_
    refine KC.seq ?_
    refine KC.block ?_
    refine KC.seq ?_
    refine KC.region ?_
    refine KT.step rfl rfl (K.move rfl) ?_
    refine KT.idx rfl rfl rfl hd rfl (by omega) Tryz.underlying22 Tryz.size57 fun c18 cs18 hj => ?_
    refine KT.step rfl rfl (K.load rfl Tryz.agg57) ?_
    refine KT.step rfl rfl (K.assign rfl) ?_
    refine KT.step rfl rfl (K.assign rfl) ?_
    refine KT.nil ?_
    refine thenK_n ?_
    refine KC.seq ?_
    refine KC.seq ?_
    refine KC.region ?_
    refine KT.step rfl rfl (K.move rfl) ?_
    refine KT.step rfl rfl (K.gtr rfl rfl) ?_
    refine KT.nil ?_
    refine thenK_n ?_
    refine KC.cond rfl (fun hc21 => ?_) (fun hc21 => ?_)
    · skip
      replace hc21 := of_decide_eq_true hc21
      refine KC.exit ?_
      refine thenK_x ?_
      refine blockK_x (by decide) ?_
      refine thenK_x ?_
      refine thenK_x ?_
      refine blockK_e ?_
      refine thenK_n ?_
      refine KC.seq ?_
      refine KC.region ?_
      refine KT.step rfl rfl (K.loadOAgg (m := 2) (ob := ⟨[.d (DI N), x0], 0⟩) rfl y2 (by simp) Tryz.agg31 Tryz.size31 (by simp)) ?_
      have eex : i = J.length ∨ i = 5 := by omega
      refine KT.putAll (cs := [.d (DI N), x0]) rfl rfl rfl rfl yz (cells_agg _) rfl (by simp [o0.cells.2]; rfl) Tryz.size31 ?_
      have hF9 := o0.keep (σ' := σ0.set 1 ⟨[.d (DI N), x0], 0⟩) fun j hj => List.getElem?_set_ne (by have := d0 j hj; omega)
      refine KT.nil ?_
      refine thenK_n ?_
      refine KC.ret ?_
      have ec : (J.take i).map (List.take 6) = cutJ J := by
        unfold cutJ
        rcases eex with e | e
        · rw [e, List.take_of_length_le (Nat.le_refl _), List.take_of_length_le (by omega)]
        · rw [e]
      rw [ec] at hF9 n0
      exact ⟨.inl rfl, _, resK_agg (m := 2) rfl rfl (List.getElem?_set_self (lt_of_get yz)) (by simp) Tryz.agg31 Tryz.size31 (by simp), deepen_shop (k := 6) hF9 n0⟩
    · skip
      replace hc21 := of_decide_eq_false hc21
      have hi5 : i ≤ 4 := by omega
      refine KC.skip ?_
      refine thenK_n ?_
      refine KC.seq ?_
      refine KC.region ?_
      refine KT.step rfl rfl (K.assign rfl) ?_
      refine KT.nil ?_
      refine thenK_n ?_
      refine KC.seq ?_
      refine KC.seq ?_
      refine KC.region ?_
      refine KT.step rfl rfl (K.move rfl) ?_
      refine KT.step rfl rfl (K.lenF rfl hj Tryz.underlying57) ?_
      refine KT.step rfl rfl (K.move rfl) ?_
      refine KT.nil ?_
      refine thenK_n ?_
      refine KC.block ?_
      refine KC.loop (fun p : List VObj × XV × Nat => p.1) (fun p => [(2, .optr 1 0), (3, .optr 2 0), (13, .d jd), (14, .d (DI (J.length : Nat))), (15, .d (DI (i : Nat))), (22, .d c18), (23, .d (DI (J[i].length : Nat))), (24, .d (DI (p.2.2 : Nat))), (6, p.2.1)]) (fun p => p.2.2 ≤ J[i].length ∧ (∀ j, j < σ0.length → p.1[j]? = σ0[j]?) ∧ OwnK 2 p.1 p.2.1 (((J[i].take (min p.2.2 6)).flatMap c2).map .d) ∧ (∀ j, idX p.2.1 = some j → σ0.length ≤ j) ∧ (J[i].take (min p.2.2 6) = [] → p.2.1 = .d Dnil)) (fun p => J[i].length - p.2.2) (_, .d Dnil, 0) ⟨Nat.zero_le _, fun j hj => rfl, .nil, fun j hj => (by cases hj), fun _ => rfl⟩ rfl (by simp [Go.Vm.look, extK]) ?_
      intro p hp
      obtain ⟨σ1, y1, k⟩ := p
      obtain ⟨hk, kp, o1, d1, n1⟩ := hp
      simp only at hk kp o1 d1 n1 ⊢
      refine KC.seq ?_
      refine KC.region ?_
      refine KT.step rfl rfl (K.lss rfl rfl) ?_
      refine KT.nil ?_
      refine thenK_n ?_
      refine KC.seq ?_
      refine KC.cond rfl (fun hc25 => ?_) (fun hc25 => ?_)
      · skip
        replace hc25 := of_decide_eq_true hc25
        have hkl : k < J[i].length := by omega
        refine KC.skip ?_
        refine thenK_n ?_
        refine KC.seq ?_
        refine KC.block ?_
        refine KC.seq ?_
        refine KC.region ?_
        refine KT.step rfl rfl (K.move rfl) ?_
        refine KT.step rfl rfl (K.idxF c2_len (m := k) rfl hj rfl (by omega) Tryz.underlying57 Tryz.size59) ?_
        refine KT.step rfl rfl (K.loadFl (cs := c2 J[i][k]) rfl rfl Tryz.agg59 Tryz.size59) ?_
        refine KT.step rfl rfl (K.alloc Tryz.zero59) ?_
        refine KT.step rfl rfl (K.assign rfl) ?_
        refine KT.storeL (cs := (c2 J[i][k]).map .d) rfl rfl rfl rfl rfl rfl rfl Tryz.size59 ?_
        refine KT.nil ?_
        refine thenK_n ?_
        refine KC.seq ?_
        refine KC.region ?_
        refine KT.step rfl rfl (K.move rfl) ?_
        refine KT.step rfl rfl (K.lss rfl rfl) ?_
        refine KT.nil ?_
        refine thenK_n ?_
        refine KC.cond rfl (fun hc30 => ?_) (fun hc30 => ?_)
        · skip
          replace hc30 := of_decide_eq_true hc30
          refine KC.region ?_
          refine KT.step rfl rfl (K.move rfl) ?_
          refine KT.step rfl rfl (K.fieldAddrO rfl Tryz.fld59_0 Tryz.size3) ?_
          refine KT.step rfl rfl (K.loadO rfl (List.getElem?_concat_length ..) (by simp) rfl Tryz.agg3) ?_
          refine KT.step rfl rfl (K.fieldAddrO rfl Tryz.fld59_1 Tryz.size3) ?_
          refine KT.step rfl rfl (K.loadO rfl (List.getElem?_concat_length ..) (by simp) rfl Tryz.agg3) ?_
          refine KT.step rfl rfl (K.buildS rfl (build75_2 _ _)) ?_
          refine KT.step rfl rfl (K.buildK (k := 2) (ds := c2 J[i][k]) rfl rfl Tryz.underlying44 Tryz.size60 Tryz.zero60 (by decide)) ?_
          refine KT.appK (k := 2) rfl rfl rfl rfl ((o1.pushed _).pushed _) (List.getElem?_concat_length ..) rfl rfl (by rw [cells_len, List.length_take]; omega) Tryz.underlying44 Tryz.size60 (of_decide_eq_true (by kernel_rfl)) (by kernel_rfl) (by decide) fun σ4 x4 ho4 k4 w4 => ?_
          obtain ⟨j4, w5, w6⟩ := w4
          rw [List.length_append, List.length_append] at w6
          rw [← flat_snoc] at ho4
          refine KT.step rfl rfl (K.assign rfl) ?_
          refine KT.nil ?_
          refine blockK_n ?_
          refine thenK_n ?_
          refine KC.region ?_
          refine KT.step rfl rfl (K.add rfl rfl (wrap_id (by omega))) ?_
          refine KT.step rfl rfl (K.move rfl) ?_
          refine KT.nil ?_
          refine thenK_n ?_
          have hk6 : k < 6 := by omega
          have et : J[i].take (min (k + 1) 6) = J[i].take (min k 6) ++ [J[i][k]] := by
            rw [Nat.min_eq_left (by omega), Nat.min_eq_left (by omega), List.take_succ_eq_append_getElem hkl]
          have hle : σ0.length ≤ σ1.length := Nat.le_of_not_lt fun h => by
            have h1 := kp (σ1.length) h
            rw [List.getElem?_eq_none (Nat.le_refl _), List.getElem?_eq_getElem h] at h1; cases h1
          refine ⟨(σ4, x4, k + 1), ⟨by simp only; omega, fun j hj => ?_, by simp only [et]; exact ho4, fun j hj => ?_, fun h => ?_⟩, by simp only; omega, rfl, by simp [Go.Vm.look, extK]⟩
          · simp only
            rw [← kp j hj, k4 j (fun h => by have := d1 j h; omega) (by rw [List.length_append, List.length_append]; omega), List.getElem?_append_left (by rw [List.length_append]; omega), List.getElem?_append_left (by omega)]
          · simp only at hj; rw [w5] at hj; cases hj; omega
          · simp only [et] at h; simp at h
        · skip
          replace hc30 := of_decide_eq_false hc30
          refine KC.skip ?_
          refine blockK_n ?_
          refine thenK_n ?_
          refine KC.region ?_
          refine KT.step rfl rfl (K.add rfl rfl (wrap_id (by omega))) ?_
          refine KT.step rfl rfl (K.move rfl) ?_
          refine KT.nil ?_
          refine thenK_n ?_
          have et : J[i].take (min (k + 1) 6) = J[i].take (min k 6) := by rw [Nat.min_eq_right (by omega), Nat.min_eq_right (by omega)]
          have hle : σ0.length ≤ σ1.length := Nat.le_of_not_lt fun h => by
            have h1 := kp (σ1.length) h
            rw [List.getElem?_eq_none (Nat.le_refl _), List.getElem?_eq_getElem h] at h1; cases h1
          refine ⟨(σ1 ++ [⟨(c2 J[i][k]).map .d, 0⟩], y1, k + 1), ⟨by simp only; omega, fun j hj => ?_, by simp only [et]; exact o1.pushed _, d1, by simp only [et]; exact n1⟩, by simp only; omega, rfl, by simp [Go.Vm.look, extK]⟩
          simp only
          rw [← kp j hj, List.getElem?_append_left (by omega)]
      · skip
        replace hc25 := of_decide_eq_false hc25
        have u1 : σ1[1]? = some ⟨[.d (DI 0), .d Dnil], 0⟩ := (kp 1 (by have := lt_of_get y2; omega)).trans yz
        have u2 : σ1[2]? = some ⟨[.d (DI N), x0], 0⟩ := (kp 2 (lt_of_get y2)).trans y2
        have ox := o0.keep fun j hj => kp j (o0.lt hj)
        have hmk : J[i].take (min k 6) = J[i].take 6 := by
          by_cases h6 : k ≤ 6
          · rw [Nat.min_eq_left h6, List.take_of_length_le (by omega), List.take_of_length_le (by omega)]
          · rw [Nat.min_eq_right (by omega)]
        rw [hmk] at o1 n1
        refine KC.exit ?_
        refine thenK_x ?_
        refine thenK_x ?_
        refine blockK_e ?_
        refine thenK_n ?_
        refine KC.region ?_
        refine KT.step rfl rfl (K.fieldAddrO rfl Tryz.fld31_1 Tryz.size29) ?_
        refine KT.step rfl rfl (K.loadO rfl u2 (by simp) rfl Tryz.agg29) ?_
        refine KT.step rfl rfl (K.move rfl) ?_
        refine KT.step rfl rfl (K.buildC (k := 1) (cs := [y1]) rfl o1.cells.1 rfl Tryz.underlying29 Tryz.size44 Tryz.one44.zero (by decide)) ?_
        refine KT.appK (k := 1) rfl rfl rfl rfl (ox.pushed _) (List.getElem?_concat_length ..) rfl (by simp [o1.cells.2]) (by rw [List.length_map, List.length_map, List.length_map, List.length_take]; omega) Tryz.underlying29 Tryz.size44 (of_decide_eq_true (by kernel_rfl)) (by kernel_rfl) (by decide) fun σ4 x4 ho4 k4 w4 => ?_
        obtain ⟨j4, w5, w6⟩ := w4
        rw [List.length_append] at w6
        have r4 : ∀ (j : Nat) (o : VObj), idX x0 ≠ some j → σ1[j]? = some o → σ4[j]? = some o := fun j o h1 h2 => (k4 j h1 (by have := lt_of_get h2; rw [List.length_append]; omega)).trans (get_left h2)
        refine KT.step rfl rfl (K.fieldAddrO rfl Tryz.fld31_1 Tryz.size29) ?_
        refine KT.storeG rfl rfl rfl rfl (r4 2 _ (fun h => by have := d0 2 h; omega) u2) (by simp) ho4.cells.1 ho4.cells.2 Tryz.size29 fun σ5 l5 u5 v5 => ?_
        have p1 := (v5 1 (by decide)).trans (r4 1 _ (fun h => by have := d0 1 h; omega) u1)
        have ho5 := ho4.keep (σ' := σ5) fun j hj => v5 j (by rw [w5] at hj; cases hj; have := lt_of_get u2; omega)
        have o5 : OwnK 2 σ5 y1 (((J[i].take 6).flatMap c2).map .d) := o1.keep fun j hj => by
          have hjl := o1.lt hj
          have hjd := d1 j hj
          rw [v5 j (by have := lt_of_get y2; omega), k4 j (fun h => by have := o0.lt h; omega) (by rw [List.length_append]; omega), List.getElem?_append_left hjl]
        have hlen2 := lt_of_get u2
        refine KT.nil ?_
        refine blockK_n ?_
        refine thenK_n ?_
        refine KC.tellP ho5 o5 (fun h => n1 h) (fun r h1 h2 => by rw [w5] at h2; cases h2; have := o1.lt h1; omega) fun σ6 ho6 l6 k6 => ?_
        refine KC.region ?_
        refine KT.step rfl rfl (K.add rfl rfl (wrap_id (by omega))) ?_
        refine KT.step rfl rfl (K.move rfl) ?_
        refine KT.nil ?_
        refine thenK_n ?_
        refine ⟨(σ6, x4, i + 1), ⟨by simp only; omega, by simp only; omega, ?_, ?_, ?_, fun j hj => ?_, fun h => ?_⟩, by simp only; omega, rfl, by simp [Go.Vm.look, extK]⟩
        · exact (k6 1 (fun h => by have := d1 1 h; have := lt_of_get y2; omega) (fun h => by rw [w5] at h; cases h; omega)).trans p1
        · exact (k6 2 (fun h => by have := d1 2 h; have := lt_of_get y2; omega) (fun h => by rw [w5] at h; cases h; omega)).trans u5
        · simp only [cut_take hil]
          rw [List.map_append, List.map_append]; exact ho6
        · simp only at hj; rw [w5] at hj; cases hj; omega
        · simp only [cut_take hil] at h; simp at h
  · skip
    replace hc16 := of_decide_eq_false hc16
    refine KC.exit ?_
    refine thenK_x ?_
    refine thenK_x ?_
    refine blockK_e ?_
    refine thenK_n ?_
    refine KC.seq ?_
    refine KC.region ?_
    refine KT.step rfl rfl (K.loadOAgg (m := 2) (ob := ⟨[.d (DI N), x0], 0⟩) rfl y2 (by simp) Tryz.agg31 Tryz.size31 (by simp)) ?_
    have eex : i = J.length ∨ i = 5 := by omega
    refine KT.putAll (cs := [.d (DI N), x0]) rfl rfl rfl rfl yz (cells_agg _) rfl (by simp [o0.cells.2]; rfl) Tryz.size31 ?_
    have hF9 := o0.keep (σ' := σ0.set 1 ⟨[.d (DI N), x0], 0⟩) fun j hj => List.getElem?_set_ne (by have := d0 j hj; omega)
    refine KT.nil ?_
    refine thenK_n ?_
    refine KC.ret ?_
    have ec : (J.take i).map (List.take 6) = cutJ J := by
      unfold cutJ
      rcases eex with e | e
      · rw [e, List.take_of_length_le (Nat.le_refl _), List.take_of_length_le (by omega)]
      · rw [e]
    rw [ec] at hF9 n0
    exact ⟨.inl rfl, _, resK_agg (m := 2) rfl rfl (List.getElem?_set_self (lt_of_get yz)) (by simp) Tryz.agg31 Tryz.size31 (by simp), deepen_shop (k := 6) hF9 n0⟩
end Go.Proofs.YtdgahcbalabjdaaGreat

