import Derived.Test.YtmfbakipfobaeaaHtB
import Derived.Test.YtmfbakipfobaeaaVmSo
/-
  Heat: the system of streams.
-/
namespace Go.Proofs.Ytmfbakipfobaeaa
open Go.Vm Go.Ht
theorem plainTry_45 : plainFn Try.prog 45 = true := by kernel_rfl
def lays189_ren : Go.Shelf.Ren := ⟨fun | 189 => 63 | 125 => 78 | 257 => 77 | 128 => 91 | 129 => 92 | 294 => 82 | 295 => 83 | 296 => 84 | 297 => 85 | 298 => 86 | 299 => 87 | 216 => 88 | 300 => 89 | 301 => 90 | 328 => 93 | 329 => 94 | 330 => 95 | 331 => 96 | 332 => 97 | 215 => 98 | 343 => 99 | n => n, fun | 28 => 23 | 3 => 3 | 46 => 66 | 0 => 0 | 51 => 128 | 53 => 130 | 4 => 4 | 183 => 122 | 182 => 121 | 131 => 47 | 5 => 5 | 9 => 9 | 218 => 131 | 222 => 135 | 228 => 137 | 229 => 39 | n => n, fun | n => n⟩
theorem lays189 : Go.Proofs.Lays.n189 Try.prog lays189_ren where
  mixed := by kernel_rfl
  f125 := Try.func78.trans (congrArg some (by kernel_rfl))
  f128 := Try.func91.trans (congrArg some (by kernel_rfl))
  f129 := Try.func92.trans (congrArg some (by kernel_rfl))
  f189 := Try.func63.trans (congrArg some (by kernel_rfl))
  f215 := Try.func98.trans (congrArg some (by kernel_rfl))
  f216 := Try.func88.trans (congrArg some (by kernel_rfl))
  f257 := Try.func77.trans (congrArg some (by kernel_rfl))
  f294 := Try.func82.trans (congrArg some (by kernel_rfl))
  f295 := Try.func83.trans (congrArg some (by kernel_rfl))
  f296 := Try.func84.trans (congrArg some (by kernel_rfl))
  f297 := Try.func85.trans (congrArg some (by kernel_rfl))
  f298 := Try.func86.trans (congrArg some (by kernel_rfl))
  f299 := Try.func87.trans (congrArg some (by kernel_rfl))
  f300 := Try.func89.trans (congrArg some (by kernel_rfl))
  f301 := Try.func90.trans (congrArg some (by kernel_rfl))
  f328 := Try.func93.trans (congrArg some (by kernel_rfl))
  f329 := Try.func94.trans (congrArg some (by kernel_rfl))
  f330 := Try.func95.trans (congrArg some (by kernel_rfl))
  f331 := Try.func96.trans (congrArg some (by kernel_rfl))
  f332 := Try.func97.trans (congrArg some (by kernel_rfl))
  f343 := Try.func99.trans (congrArg some (by kernel_rfl))
  t0 := Try.underlying0
  a0 := Try.isAgg0
  z0 := Try.sizeOf0
  v0 := Try.zeroValue0
  t3 := Try.underlying3
  a3 := Try.isAgg3
  z3 := Try.sizeOf3
  v3 := Try.zeroValue3
  t4 := Try.underlying4
  a4 := Try.isAgg4
  z4 := Try.sizeOf4
  v4 := Try.zeroValue4
  t5 := Try.underlying5
  a5 := Try.isAgg5
  z5 := Try.sizeOf5
  v5 := Try.zeroValue5
  t9 := Try.underlying9
  a9 := Try.isAgg9
  z9 := Try.sizeOf9
  v9 := Try.zeroValue9
  t28 := Try.underlying23
  a28 := Try.isAgg23
  z28 := Try.sizeOf23
  v28 := Try.zeroValue23
  t46 := Try.underlying66
  a46 := Try.isAgg66
  z46 := Try.sizeOf66
  v46 := Try.zeroValue66
  t51 := Try.underlying128
  a51 := Try.isAgg128
  z51 := Try.sizeOf128
  v51 := Try.zeroValue128
  t53 := Try.underlying130
  a53 := Try.isAgg130
  z53 := Try.sizeOf130
  v53 := Try.zeroValue130
  t131 := Try.underlying47
  a131 := Try.isAgg47
  z131 := Try.sizeOf47
  v131 := Try.zeroValue47
  t182 := Try.underlying121
  a182 := Try.isAgg121
  z182 := Try.sizeOf121
  v182 := Try.zeroValue121
  t183 := Try.underlying122
  a183 := Try.isAgg122
  z183 := Try.sizeOf122
  v183 := Try.zeroValue122
  t218 := Try.underlying131
  a218 := Try.isAgg131
  z218 := Try.sizeOf131
  v218 := Try.zeroValue131
  t222 := Try.underlying135
  a222 := Try.isAgg135
  z222 := Try.sizeOf135
  v222 := Try.zeroValue135
  t228 := Try.underlying137
  a228 := Try.isAgg137
  z228 := Try.sizeOf137
  v228 := Try.zeroValue137
  t229 := Try.underlying39
  a229 := Try.isAgg39
  z229 := Try.sizeOf39
  v229 := Try.zeroValue39
theorem build75z : pureRun Try.prog (Instr.build 75 #[]) = some (.agg #[.slice none 0 0, .slice none 0 0]) := by kernel_rfl
theorem get_set {σ : List VObj} {i j : Nat} {o : VObj} {x : Option VObj} (h : i ≠ j) (hx : σ[j]? = x) : (σ.set i o)[j]? = x := by rw [List.getElem?_set_ne h]; exact hx
theorem reverseN {σ : List VObj} {id lo n : Nat} {ex : Bool} {zs : List Int} (e : zs.length = n) (ho : σ[id]? = some ⟨xs zs, 0⟩) (hn : zs.length ≤ 1000000) : OwnCall Try.prog 64 σ [.osl id 0 n 1 lo ex] (σ.set id ⟨xs zs.reverse, 0⟩) (.tup []) := by
  subst e; exact reverse64 ho hn
theorem compactN {σ : List VObj} {id lo n : Nat} {ex : Bool} {zs : List Int} (e : zs.length = n) (ho : σ[id]? = some ⟨xs zs, 0⟩) (hlo : zs.length ≤ lo) (hn : zs.length ≤ 1000000) :
    OwnCall Try.prog 65 σ [.osl id 0 n 1 lo ex] (σ.set id ⟨xs (compact zs ++ List.replicate (zs.length - (compact zs).length) 0), 0⟩) (.osl id 0 (compact zs).length 1 lo ex) := by
  subst e; exact compact65 ho hlo hn
theorem sort63 {σ : List VObj} {id lo : Nat} {ex : Bool} {zs : List Int} (ho : σ[id]? = some ⟨xs zs, 0⟩) (hn : zs.length ≤ 1000000) : OwnCall Try.prog 63 σ [.osl id 0 zs.length 1 lo ex] (σ.set id ⟨xs (sortI zs), 0⟩) (.d (.lit (.tuple #[]))) := by
  have h := sort_own lays189 (σ := σ) (id := id) (lo := lo) (ex := ex) (zs := zs) (rest := []) (by rw [List.append_nil]; exact ho) (by omega)
  rw [List.append_nil] at h
  exact h
/-- The result of read. -/
def readV (gap : Int) (l : List Sm) : DV := .agg [.sl (l.flatMap (c5 gap)) l.length none, .sl (ints (lvls gap l)) (lvls gap l).length none]
def readE : DV := .agg [Dnil, Dnil]
theorem flat_take {α : Type} {f : α → List DV} {l : List α} {i : Nat} (h : i < l.length) : (l.take (i + 1)).flatMap f = (l.take i).flatMap f ++ f l[i] := by
  rw [List.take_succ_eq_append_getElem h, List.flatMap_append]; simp
theorem ends_take {gap : Int} {l : List Sm} {i : Nat} (h : i < l.length) : xs (ends gap (l.take (i + 1))) = xs (ends gap (l.take i)) ++ [.d (DI (up gap l[i])), .d (DI (lo gap l[i]))] := by
  unfold ends
  rw [List.take_succ_eq_append_getElem h, List.flatMap_append, xs_app]; simp [xs]
theorem own_xs {σ : List VObj} {x : XV} {zs : List Int} (h : OwnK 1 σ x (xs zs)) (hne : zs ≠ []) : ∃ id, x = .osl id 0 zs.length 1 zs.length false ∧ σ[id]? = some ⟨xs zs, 0⟩ := by
  generalize hc : xs zs = cs at h
  cases h with
  | nil => have := congrArg List.length hc; rw [xs_len] at this; exact absurd (List.length_eq_zero_iff.1 this) hne
  | @sl id n cells h hn =>
    subst hc
    rw [xs_len, Nat.mul_one] at hn
    subst hn
    exact ⟨id, rfl, h⟩
theorem own_flat {α : Type} {k : Nat} {f : α → List DV} (hf : ∀ a, (f a).length = k) (hk : 0 < k) {σ : List VObj} {x : XV} {l : List α} (h : OwnK k σ x ((l.flatMap f).map .d)) (hne : l ≠ []) : ∃ id, x = .osl id 0 l.length k l.length false ∧ σ[id]? = some ⟨(l.flatMap f).map .d, 0⟩ := by
  generalize hc : (l.flatMap f).map XV.d = cs at h
  have hcl := congrArg List.length hc
  rw [List.length_map, flat_len hf] at hcl
  cases h with
  | nil =>
    have h0 : 0 < l.length := List.length_pos_iff.2 hne
    have : 0 < l.length * k := Nat.mul_pos h0 hk
    simp at hcl; omega
  | @sl id n cells h hn =>
    subst hc
    rw [List.length_map, flat_len hf] at hn
    have := Nat.mul_right_cancel hk hn
    subst this
    exact ⟨id, rfl, h⟩
theorem fin_read {σ : List VObj} {k ia ib N : Nat} {l : List Sm} {gap : Int} {lv zz : List Int} {b : Bool} (h1 : σ[ia]? = some ⟨(l.flatMap (c5 gap)).map .d, 0⟩) (h2 : σ[ib]? = some ⟨xs (lv ++ zz), 0⟩) :
    deepen (freezeAll σ) (k + 4) (.tup [aggX [.osl ia 0 l.length 5 l.length false, .osl ib 0 lv.length 1 N false], .d (DB b)]) = some (.tup [.agg [.sl (l.flatMap (c5 gap)) l.length none, .sl (ints lv) lv.length none], DB b]) := by
  refine deepen_tup2 (k := k + 2) ?_
  show (([XV.osl ia 0 l.length 5 l.length false, XV.osl ib 0 lv.length 1 N false] : List XV).mapM (deepen (freezeAll σ) (k + 2))).map DV.agg = _
  have f1 : (freezeAll σ)[ia]? = some ⟨(l.flatMap (c5 gap)).map .d, 1⟩ := by simp [freezeAll, h1]
  have f2 : (freezeAll σ)[ib]? = some ⟨xs (lv ++ zz), 1⟩ := by simp [freezeAll, h2]
  have g1 : deepen (freezeAll σ) (k + 2) (.osl ia 0 l.length 5 l.length false) = some (.sl (l.flatMap (c5 gap)) l.length none) := by
    rw [deepen_osl f1 rfl (by rw [List.length_map, flat_len (c5_len gap)]; omega), List.drop_zero, List.take_of_length_le (by rw [List.length_map, flat_len (c5_len gap)]; exact Nat.le_refl _), mapM_deep]; rfl
  have g2 : deepen (freezeAll σ) (k + 2) (.osl ib 0 lv.length 1 N false) = some (.sl (ints lv) lv.length none) := by
    rw [deepen_osl f2 rfl (by rw [xs_len, List.length_append]; omega), List.drop_zero, Nat.mul_one, xs_app, List.take_append_of_le_length (by rw [xs_len]; exact Nat.le_refl _), List.take_of_length_le (by rw [xs_len]; exact Nat.le_refl _), xs_ints, mapM_deep]; rfl
  rw [List.mapM_cons, List.mapM_cons, g1, g2]; rfl
set_option maxHeartbeats 4000000 in
set_option maxRecDepth 10000 in
theorem read45 {d : DV} {l : List Sm} {gap : Int} (hd : StD d l) (hl : l.length ≤ 9223372036854775807) : DeepCall Try.prog 45 [d, DI gap] (.tup [if okH l gap then readV gap l else readE, DB (okH l gap)]) := by
  refine deepCall_K 7 Try.func45 rfl (Nat.le_of_ble_eq_true rfl) fun M W0 => ?_
  refine KC.seq ?_
  refine KC.region ?_
  refine KT.step rfl rfl (K.alloc Try.zero75) ?_
  refine KT.step rfl rfl (K.assign rfl) ?_
  refine KT.nil ?_
  refine thenK_n ?_
  refine KC.seq ?_
  refine KC.seq ?_
  refine KC.region ?_
  refine KT.step rfl rfl (K.move rfl) ?_
  refine KT.step rfl rfl (K.lenF rfl hd Try.underlying27) ?_
  refine KT.step rfl rfl (K.call3 rfl rfl rfl plainTry_46 (in46 _ _ _)) ?_
  refine KT.step rfl rfl (K.not rfl) ?_
  refine KT.step rfl rfl (K.move rfl) ?_
  refine KT.bcase (fun hb14 => ?_) (fun hb14 => ?_)
  · skip
    refine KT.skip rfl rfl ?_
    refine KT.skip rfl rfl ?_
    refine KT.skip rfl rfl ?_
    refine KT.step rfl rfl (K.pick rfl (fun _ => rfl) (fun h => by cases h)) ?_
    refine KT.nil ?_
    refine thenK_n ?_
    refine KC.cond rfl (fun hc18 => ?_) (fun hc18 => ?_)
    · skip
      refine KC.seq ?_
      refine KC.region ?_
      refine KT.step rfl rfl (K.buildL rfl build75z) ?_
      refine KT.putAll rfl rfl rfl rfl rfl rfl rfl rfl Try.size75 ?_
      refine KT.step rfl rfl (K.assign rfl) ?_
      refine KT.nil ?_
      refine thenK_n ?_
      refine KC.ret ?_
      refine thenK_r ?_
      have hno : okH l gap = false := by
        rw [← Bool.not_eq_true, okH_iff]
        simp at hb14; omega
      refine ⟨.inl rfl, _, resK_ct [Dnil, Dnil] rfl rfl rfl (by decide) Try.agg75 Try.size75 rfl rfl, ?_⟩
      rw [hno]; rfl
    · cases hc18
  · skip
    have hg1 : 1 ≤ l.length ∧ l.length ≤ 8 := by simp at hb14; omega
    obtain ⟨hg1, hg8⟩ := hg1
    refine KT.step rfl rfl (K.move rfl) ?_
    refine KT.step rfl rfl (K.call3 rfl rfl rfl plainTry_46 (in46 _ _ _)) ?_
    refine KT.step rfl rfl (K.not rfl) ?_
    refine KT.step rfl rfl (K.pick rfl (fun h => by cases h) (fun _ => rfl)) ?_
    refine KT.nil ?_
    refine thenK_n ?_
    refine KC.cond rfl (fun hc18 => ?_) (fun hc18 => ?_)
    · skip
      refine KC.seq ?_
      refine KC.region ?_
      refine KT.step rfl rfl (K.buildL rfl build75z) ?_
      refine KT.putAll rfl rfl rfl rfl rfl rfl rfl rfl Try.size75 ?_
      refine KT.step rfl rfl (K.assign rfl) ?_
      refine KT.nil ?_
      refine thenK_n ?_
      refine KC.ret ?_
      refine thenK_r ?_
      have hno : okH l gap = false := by
        rw [← Bool.not_eq_true, okH_iff]
        simp at hc18; omega
      refine ⟨.inl rfl, _, resK_ct [Dnil, Dnil] rfl rfl rfl (by decide) Try.agg75 Try.size75 rfl rfl, ?_⟩
      rw [hno]; rfl
    · skip
      have hg : 0 ≤ gap ∧ gap ≤ 20 := by simpa using hc18
      refine KC.skip ?_
      refine thenK_n ?_
      refine KC.seq ?_
      refine KC.region ?_
      refine KT.step rfl rfl (K.alloc Try.zero75) ?_
      refine KT.nil ?_
      refine thenK_n ?_
      refine KC.seq ?_
      refine KC.seq ?_
      refine KC.region ?_
      refine KT.step rfl rfl (K.move rfl) ?_
      refine KT.step rfl rfl (K.lenF rfl hd Try.underlying27) ?_
      refine KT.step rfl rfl (K.move rfl) ?_
      refine KT.nil ?_
      refine thenK_n ?_
      refine KC.block ?_
      refine KC.loop (fun p : List VObj × XV × XV × Nat => p.1) (fun p => [(1, .d (DI gap)), (4, .optr 0 0), (6, .optr 1 0), (20, .d d), (21, .d (DI (l.length : Nat))), (22, .d (DI (p.2.2.2 : Nat)))]) (fun p : List VObj × XV × XV × Nat => p.2.2.2 ≤ l.length ∧ p.1[0]? = some ⟨[.d Dnil, .d Dnil], 0⟩ ∧ p.1[1]? = some ⟨[p.2.1, p.2.2.1], 0⟩ ∧ OwnK 5 p.1 p.2.1 (((l.take p.2.2.2).flatMap (c5 gap)).map .d) ∧ OwnK 1 p.1 p.2.2.1 (xs (ends gap (l.take p.2.2.2))) ∧ (∀ j, idX p.2.1 = some j → 2 ≤ j) ∧ (∀ j, idX p.2.2.1 = some j → 2 ≤ j) ∧ (∀ j, idX p.2.1 = some j → idX p.2.2.1 ≠ some j) ∧ (∀ s ∈ l.take p.2.2.2, s.ok = true)) (fun p => l.length - p.2.2.2) (_, .d Dnil, .d Dnil, 0) ⟨Nat.zero_le _, rfl, rfl, .nil, .nil, fun j hj => (by cases hj), fun j hj => (by cases hj), fun j hj => (by cases hj), fun s hs => by simp at hs⟩ rfl (by simp [Go.Vm.look, extK, enterK]) ?_
      intro p hp
      obtain ⟨σ0, xa, xb, i⟩ := p
      obtain ⟨hi, y0, y1, o1, o2, d1, d2, d3, hall⟩ := hp
      simp only at hi y0 y1 o1 o2 d1 d2 d3 hall ⊢
      refine KC.seq ?_
      refine KC.region ?_
      refine KT.step rfl rfl (K.lss rfl rfl) ?_
      refine KT.nil ?_
      refine thenK_n ?_
      refine KC.seq ?_
      refine KC.cond rfl (fun hc23 => ?_) (fun hc23 => ?_)
      · skip
        replace hc23 := of_decide_eq_true hc23
        have hil : i < l.length := by omega
        refine KC.skip ?_
        refine thenK_n ?_
        refine KC.seq ?_
        refine KC.block ?_
        refine KC.seq ?_
        refine KC.region ?_
        refine KT.step rfl rfl (K.idxF c3_len (m := i) rfl hd rfl hil Try.underlying27 Try.size78) ?_
        refine KT.step rfl rfl (K.loadFl (cs := c3 l[i]) rfl rfl Try.agg78 Try.size78) ?_
        refine KT.step rfl rfl (K.alloc Try.zero78) ?_
        refine KT.storeL (cs := (c3 l[i]).map .d) rfl rfl rfl rfl rfl rfl rfl Try.size78 ?_
        refine KT.nil ?_
        refine thenK_n ?_
        refine KC.seq ?_
        refine KC.seq ?_
        refine KC.region ?_
        refine KT.step rfl rfl (K.loadOA (c3 l[i]) rfl (List.getElem?_concat_length ..) (by decide) Try.agg78 Try.size78 rfl) ?_
        refine KT.step rfl rfl (K.call1 rfl plainTry_61 (valid61 l[i])) ?_
        refine KT.step rfl rfl (K.not rfl) ?_
        refine KT.nil ?_
        refine thenK_n ?_
        refine KC.cond rfl (fun hc28 => ?_) (fun hc28 => ?_)
        · skip
          replace hc28 : l[i].ok = false := by simpa using hc28
          refine KC.seq ?_
          refine KC.region ?_
          refine KT.step rfl rfl (K.buildL rfl build75z) ?_
          refine KT.putAll rfl rfl rfl rfl (get_left y0) rfl rfl rfl Try.size75 ?_
          refine KT.step rfl rfl (K.assign rfl) ?_
          refine KT.nil ?_
          refine thenK_n ?_
          refine KC.ret ?_
          refine thenK_r ?_
          refine blockK_r ?_
          refine thenK_r ?_
          refine thenK_r ?_
          refine blockK_r ?_
          refine thenK_r ?_
          have hno : okH l gap = false := by
            rw [← Bool.not_eq_true, okH_iff]
            rintro ⟨_, _, _, _, h⟩
            have := h _ (List.getElem_mem hil)
            rw [hc28] at this; cases this
          refine ⟨.inl rfl, _, resK_ct [Dnil, Dnil] rfl rfl (List.getElem?_set_self (lt_of_get (get_left y0))) (by decide) Try.agg75 Try.size75 rfl rfl, ?_⟩
          rw [hno]; rfl
        · skip
          replace hc28 : l[i].ok = true := by simpa using hc28
          refine KC.skip ?_
          refine thenK_n ?_
          refine KC.seq ?_
          refine KC.region ?_
          refine KT.step rfl rfl (K.loadOA (c3 l[i]) rfl (List.getElem?_concat_length ..) (by decide) Try.agg78 Try.size78 rfl) ?_
          refine KT.step rfl rfl (K.move rfl) ?_
          refine KT.step rfl rfl (K.call2 rfl rfl plainTry_62 (shifted62 hc28 hg.1 hg.2)) ?_
          refine KT.step rfl rfl (K.alloc Try.zero98) ?_
          refine KT.storeL (cs := (c5 gap l[i]).map .d) rfl rfl rfl rfl rfl rfl rfl Try.size98 ?_
          refine KT.nil ?_
          refine thenK_n ?_
          refine KC.seq ?_
          refine KC.region ?_
          refine KT.step rfl rfl (K.fieldAddrO rfl Try.fld75_0 Try.size73) ?_
          refine KT.step rfl rfl (K.loadO rfl (get_left (get_left y1)) (by simp) rfl Try.agg73) ?_
          refine KT.step rfl rfl (K.loadOA (c5 gap l[i]) rfl (List.getElem?_concat_length ..) (by decide) Try.agg98 Try.size98 rfl) ?_
          refine KT.step rfl rfl (K.buildK (k := 5) (ds := c5 gap l[i]) rfl rfl Try.underlying73 Try.size98 Try.zero98 (by decide)) ?_
          refine KT.appK (k := 5) rfl rfl rfl rfl (((o1.pushed _).pushed _).pushed _) (List.getElem?_concat_length ..) rfl rfl (by rw [List.length_map, flat_len (c5_len gap), List.length_take]; omega) Try.underlying73 Try.size98 (of_decide_eq_true (by kernel_rfl)) (by kernel_rfl) (by decide) fun σ2 x2 ho2 k2 w2 => ?_
          obtain ⟨j2, w3, w4⟩ := w2
          simp only [List.length_append, List.length_cons, List.length_nil] at w4
          have z0 := (k2 0 (fun h => by have := d1 0 h; omega) (by simp only [List.length_append, List.length_cons, List.length_nil]; omega)).trans (get_left (get_left (get_left y0)))
          have z1 := (k2 1 (fun h => by have := d1 1 h; omega) (by simp only [List.length_append, List.length_cons, List.length_nil]; omega)).trans (get_left (get_left (get_left y1)))
          have z9 : σ2[(σ0 ++ [(⟨(c3 l[i]).map .d, 0⟩ : VObj)]).length]? = some ⟨(c5 gap l[i]).map .d, 0⟩ := by
            rw [List.length_append]
            exact (k2 (σ0.length + 1) (fun h => by have := o1.lt h; omega) (by simp only [List.length_append, List.length_cons, List.length_nil]; omega)).trans (get_left snoc2)
          have o2a : OwnK 1 σ2 xb (xs (ends gap (l.take i))) := o2.keep fun j hj => by
            have hjl := o2.lt hj
            rw [k2 j (fun h => d3 j h hj) (by simp only [List.length_append, List.length_cons, List.length_nil]; omega), List.getElem?_append_left (by simp only [List.length_append, List.length_cons, List.length_nil]; omega), List.getElem?_append_left (by simp only [List.length_append, List.length_cons, List.length_nil]; omega), List.getElem?_append_left hjl]
          refine KT.step rfl rfl (K.fieldAddrO rfl Try.fld75_0 Try.size73) ?_
          refine KT.storeG rfl rfl rfl rfl z1 (by simp) ho2.cells.1 ho2.cells.2 Try.size73 fun σ3 l3 u3 v3 => ?_
          replace z0 := (v3 0 (by decide)).trans z0
          replace z9 := (v3 (σ0 ++ [(⟨(c3 l[i]).map .d, 0⟩ : VObj)]).length (by rw [List.length_append]; have := lt_of_get y1; simp only [List.length_cons, List.length_nil]; omega)).trans z9
          have o2b : OwnK 1 σ3 xb (xs (ends gap (l.take i))) := o2a.keep fun j hj => v3 j (by have := d2 j hj; omega)
          have o1b := ho2.keep (σ' := σ3) fun j hj => v3 j (by rw [w3] at hj; cases hj; omega)
          refine KT.nil ?_
          refine thenK_n ?_
          refine KC.region ?_
          refine KT.step rfl rfl (K.fieldAddrO rfl Try.fld75_1 Try.size23) ?_
          refine KT.step rfl rfl (K.loadO rfl u3 (by simp) rfl Try.agg23) ?_
          refine KT.step rfl rfl (K.fieldAddrO rfl Try.fld98_1 Try.size3) ?_
          refine KT.step rfl rfl (K.loadO (y := .d (DI (up gap l[i]))) rfl z9 (by simp) rfl Try.agg3) ?_
          refine KT.step rfl rfl (K.fieldAddrO rfl Try.fld98_2 Try.size3) ?_
          refine KT.step rfl rfl (K.loadO (y := .d (DI (lo gap l[i]))) rfl z9 (by simp) rfl Try.agg3) ?_
          refine KT.step rfl rfl (K.build2s rfl rfl rfl rfl Try.underlying23 Try.one3) ?_
          refine KT.appM (k := 1) (q := 2) rfl rfl rfl rfl (o2b.pushed _) (List.getElem?_concat_length ..) rfl (by decide) (by decide) rfl (by rw [xs_len, ends_length, List.length_take]; omega) Try.underlying23 Try.size3 (of_decide_eq_true (by kernel_rfl)) (by kernel_rfl) (by decide) fun σ4 x4 ho4 k4 w5 => ?_
          obtain ⟨j4, w6, w7⟩ := w5
          simp only [List.length_append, List.length_cons, List.length_nil] at w7
          have g4 : ∀ j, idX xb ≠ some j → j < σ3.length → σ4[j]? = σ3[j]? := fun j h1 h2 => (k4 j h1 (by rw [List.length_append]; omega)).trans (List.getElem?_append_left h2)
          have q0 := (g4 0 (fun h => by have := d2 0 h; omega) (lt_of_get z0)).trans z0
          have q1 := (g4 1 (fun h => by have := d2 1 h; omega) (lt_of_get u3)).trans u3
          refine KT.step rfl rfl (K.fieldAddrO rfl Try.fld75_1 Try.size23) ?_
          refine KT.storeG rfl rfl rfl rfl q1 (by simp) ho4.cells.1 ho4.cells.2 Try.size3 fun σ5 l5 u5 v5 => ?_
          replace q0 := (v5 0 (by decide)).trans q0
          refine KT.nil ?_
          refine blockK_n ?_
          refine thenK_n ?_
          refine KC.region ?_
          refine KT.step rfl rfl (K.add rfl rfl (wrap_id (by omega))) ?_
          refine KT.step rfl rfl (K.move rfl) ?_
          refine KT.nil ?_
          refine thenK_n ?_
          refine ⟨(σ5, x2, x4, i + 1), ⟨by simp only; omega, q0, u5, ?_, ?_, fun j hj => ?_, fun j hj => ?_, fun j hj hj' => ?_, ?_⟩, by simp only; omega, rfl, by simp [Go.Vm.look, extK]⟩
          · simp only
            rw [flat_take hil, List.map_append]
            exact (o1b.keep fun j hj => g4 j (fun h => by rw [w3] at hj; cases hj; have := o2a.lt h; have := o2.lt h; omega) (by have := o1b.lt hj; omega)).keep fun j hj => v5 j (by rw [w3] at hj; cases hj; omega)
          · simp only
            rw [ends_take hil]
            exact ho4.keep fun j hj => v5 j (by rw [w6] at hj; cases hj; have := lt_of_get u3; omega)
          · simp only at hj
            rw [w3] at hj; cases hj; omega
          · simp only at hj
            rw [w6] at hj; cases hj; have := lt_of_get u3; have := lt_of_get z9; omega
          · simp only at hj hj'
            rw [w3] at hj; cases hj; rw [w6] at hj'; cases hj'
            have := o1b.lt (j := j2) w3; omega
          · intro s hs
            rw [List.take_succ_eq_append_getElem hil, List.mem_append, List.mem_singleton] at hs
            rcases hs with hs | rfl
            · exact hall s hs
            · exact hc28
      · skip
        replace hc23 := of_decide_eq_false hc23
        refine KC.exit ?_
        refine thenK_x ?_
        refine thenK_x ?_
        refine blockK_e ?_
        refine thenK_n ?_
        refine KC.seq ?_
        have et : l.take i = l := List.take_of_length_le (by omega)
        rw [et] at o1 o2 hall
        have hne : l ≠ [] := fun e => by rw [e] at hg1; simp at hg1
        obtain ⟨ib, eb, hsl⟩ := own_xs o2 (fun e => by have := congrArg List.length e; rw [ends_length] at this; simp at this; omega)
        subst eb
        obtain ⟨ia, ea, hsp⟩ := own_flat (c5_len gap) (by decide) o1 hne
        subst ea
        have hia : 1 < ia := d1 ia rfl
        have hib : 1 < ib := d2 ib rfl
        have hab : ib ≠ ia := fun e => d3 ia rfl (by rw [← e]; rfl)
        have hs1 : (sortI (ends gap l)).length = (ends gap l).length := length_sortI _
        have hs2 : (sortI (ends gap l)).reverse.length = (ends gap l).length := by rw [List.length_reverse, hs1]
        refine KC.region ?_
        refine KT.step rfl rfl (K.fieldAddrO rfl Try.fld75_1 Try.size23) ?_
        refine KT.step rfl rfl (K.loadO rfl y1 (by simp) rfl Try.agg23) ?_
        refine KT.step rfl rfl (K.callO rfl plainTry_63 (sort63 hsl (by rw [ends_length]; omega))) ?_
        refine KT.nil ?_
        refine thenK_n ?_
        refine KC.seq ?_
        refine KC.region ?_
        refine KT.step rfl rfl (K.fieldAddrO rfl Try.fld75_1 Try.size23) ?_
        refine KT.step rfl rfl (K.loadO rfl (get_set (Ne.symm (Nat.ne_of_lt hib)) y1) (by simp) rfl Try.agg23) ?_
        refine KT.step rfl rfl (K.callO rfl plainTry_64 (reverseN hs1 (List.getElem?_set_self (lt_of_get hsl)) (by rw [hs1, ends_length]; omega))) ?_
        refine KT.nil ?_
        refine thenK_n ?_
        refine KC.seq ?_
        rw [List.set_set]
        refine KC.region ?_
        refine KT.step rfl rfl (K.fieldAddrO rfl Try.fld75_1 Try.size23) ?_
        refine KT.step rfl rfl (K.loadO rfl (get_set (Ne.symm (Nat.ne_of_lt hib)) y1) (by simp) rfl Try.agg23) ?_
        refine KT.step rfl rfl (K.callO rfl plainTry_65 (compactN hs2 (List.getElem?_set_self (lt_of_get hsl)) (by rw [hs2]; exact Nat.le_refl _) (by rw [hs2, ends_length]; omega))) ?_
        refine KT.step rfl rfl (K.fieldAddrO rfl Try.fld75_1 Try.size23) ?_
        rw [List.set_set]
        refine KT.storeG rfl rfl rfl rfl (get_set (Ne.symm (Nat.ne_of_lt hib)) y1) (by simp) rfl rfl Try.size23 fun σ6 l6 u6 v6 => ?_
        have w0 := (v6 0 (by decide)).trans (get_set (by omega) y0)
        have wa := (v6 ia (by omega)).trans (get_set hab hsp)
        have wb := (v6 ib (by omega)).trans (List.getElem?_set_self (lt_of_get hsl))
        refine KT.nil ?_
        refine thenK_n ?_
        refine KC.seq ?_
        refine KC.region ?_
        refine KT.step rfl rfl (K.loadOAgg (m := 2) rfl u6 (by simp) Try.agg75 Try.size75 (by simp)) ?_
        refine KT.storeH (cs := [.osl ia 0 l.length 5 l.length false, .osl ib 0 (lvls gap l).length 1 (ends gap l).length false]) rfl rfl rfl rfl w0 rfl (by simp) rfl Try.size75 fun σ7 l7 u7 v7 => ?_
        replace u7 := u7.trans (congrArg (fun c => some (VObj.mk c 0)) (splice_all (by rfl)))
        replace wa := (v7 ia (by omega)).trans wa
        replace wb := (v7 ib (by omega)).trans wb
        refine KT.step rfl rfl (K.assign rfl) ?_
        refine KT.nil ?_
        refine thenK_n ?_
        refine KC.ret ?_
        have hyes : okH l gap = true := okH_iff.2 ⟨hg1, hg8, hg.1, hg.2, hall⟩
        refine ⟨.inl rfl, _, resK_cX _ rfl rfl u7 (by decide) Try.agg75 Try.size75 rfl rfl, ?_⟩
        rw [hyes]
        exact fin_read (k := 3) wa wb
end Go.Proofs.Ytmfbakipfobaeaa

