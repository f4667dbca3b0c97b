import Derived.Test.YtdgahcbalabjdaaGreatZBaE
import Derived.Test.YtdgahcbalabjdaaGreatCyN
/-
  Batch: slices.Values, Collect, Sorted.
-/
namespace Go.Proofs.YtdgahcbalabjdaaGreat
open Go.Vm Go.Ht Go.Ba
theorem plainTryz_34 : plainFn Tryz.prog 34 = true := by kernel_rfl
theorem plainTryz_62 : plainFn Tryz.prog 62 = true := by kernel_rfl
theorem plainTryz_75 : plainFn Tryz.prog 75 = true := by kernel_rfl
theorem plainTryz_60 : plainFn Tryz.prog 60 = true := by kernel_rfl
theorem plainTryz_61 : plainFn Tryz.prog 61 = true := by kernel_rfl
theorem plainTryz_33 : plainFn Tryz.prog 33 = true := by kernel_rfl
def lays189_ren : Go.Shelf.Ren := ⟨fun | 189 => 61 | 125 => 77 | 257 => 76 | 128 => 96 | 129 => 97 | 294 => 87 | 295 => 88 | 296 => 89 | 297 => 90 | 298 => 91 | 299 => 92 | 216 => 93 | 300 => 94 | 301 => 95 | 328 => 101 | 329 => 102 | 330 => 103 | 331 => 104 | 332 => 105 | 215 => 85 | 343 => 114 | n => n, fun | 28 => 36 | 3 => 3 | 46 => 113 | 0 => 0 | 51 => 125 | 53 => 128 | 4 => 4 | 183 => 134 | 182 => 133 | 131 => 139 | 5 => 5 | 9 => 9 | 218 => 146 | 222 => 150 | 228 => 157 | 229 => 158 | n => n, fun | n => n⟩
theorem lays189 : Go.Proofs.Lays.n189 Tryz.prog lays189_ren where
  mixed := by kernel_rfl
  f125 := Tryz.func77.trans (congrArg some (by kernel_rfl))
  f128 := Tryz.func96.trans (congrArg some (by kernel_rfl))
  f129 := Tryz.func97.trans (congrArg some (by kernel_rfl))
  f189 := Tryz.func61.trans (congrArg some (by kernel_rfl))
  f215 := Tryz.func85.trans (congrArg some (by kernel_rfl))
  f216 := Tryz.func93.trans (congrArg some (by kernel_rfl))
  f257 := Tryz.func76.trans (congrArg some (by kernel_rfl))
  f294 := Tryz.func87.trans (congrArg some (by kernel_rfl))
  f295 := Tryz.func88.trans (congrArg some (by kernel_rfl))
  f296 := Tryz.func89.trans (congrArg some (by kernel_rfl))
  f297 := Tryz.func90.trans (congrArg some (by kernel_rfl))
  f298 := Tryz.func91.trans (congrArg some (by kernel_rfl))
  f299 := Tryz.func92.trans (congrArg some (by kernel_rfl))
  f300 := Tryz.func94.trans (congrArg some (by kernel_rfl))
  f301 := Tryz.func95.trans (congrArg some (by kernel_rfl))
  f328 := Tryz.func101.trans (congrArg some (by kernel_rfl))
  f329 := Tryz.func102.trans (congrArg some (by kernel_rfl))
  f330 := Tryz.func103.trans (congrArg some (by kernel_rfl))
  f331 := Tryz.func104.trans (congrArg some (by kernel_rfl))
  f332 := Tryz.func105.trans (congrArg some (by kernel_rfl))
  f343 := Tryz.func114.trans (congrArg some (by kernel_rfl))
  t0 := Tryz.underlying0
  a0 := Tryz.isAgg0
  z0 := Tryz.sizeOf0
  v0 := Tryz.zeroValue0
  t3 := Tryz.underlying3
  a3 := Tryz.isAgg3
  z3 := Tryz.sizeOf3
  v3 := Tryz.zeroValue3
  t4 := Tryz.underlying4
  a4 := Tryz.isAgg4
  z4 := Tryz.sizeOf4
  v4 := Tryz.zeroValue4
  t5 := Tryz.underlying5
  a5 := Tryz.isAgg5
  z5 := Tryz.sizeOf5
  v5 := Tryz.zeroValue5
  t9 := Tryz.underlying9
  a9 := Tryz.isAgg9
  z9 := Tryz.sizeOf9
  v9 := Tryz.zeroValue9
  t28 := Tryz.underlying36
  a28 := Tryz.isAgg36
  z28 := Tryz.sizeOf36
  v28 := Tryz.zeroValue36
  t46 := Tryz.underlying113
  a46 := Tryz.isAgg113
  z46 := Tryz.sizeOf113
  v46 := Tryz.zeroValue113
  t51 := Tryz.underlying125
  a51 := Tryz.isAgg125
  z51 := Tryz.sizeOf125
  v51 := Tryz.zeroValue125
  t53 := Tryz.underlying128
  a53 := Tryz.isAgg128
  z53 := Tryz.sizeOf128
  v53 := Tryz.zeroValue128
  t131 := Tryz.underlying139
  a131 := Tryz.isAgg139
  z131 := Tryz.sizeOf139
  v131 := Tryz.zeroValue139
  t182 := Tryz.underlying133
  a182 := Tryz.isAgg133
  z182 := Tryz.sizeOf133
  v182 := Tryz.zeroValue133
  t183 := Tryz.underlying134
  a183 := Tryz.isAgg134
  z183 := Tryz.sizeOf134
  v183 := Tryz.zeroValue134
  t218 := Tryz.underlying146
  a218 := Tryz.isAgg146
  z218 := Tryz.sizeOf146
  v218 := Tryz.zeroValue146
  t222 := Tryz.underlying150
  a222 := Tryz.isAgg150
  z222 := Tryz.sizeOf150
  v222 := Tryz.zeroValue150
  t228 := Tryz.underlying157
  a228 := Tryz.isAgg157
  z228 := Tryz.sizeOf157
  v228 := Tryz.zeroValue157
  t229 := Tryz.underlying158
  a229 := Tryz.isAgg158
  z229 := Tryz.sizeOf158
  v229 := Tryz.zeroValue158
set_option maxRecDepth 10000 in
theorem values74 {d : DV} (hd : SlD d) : DeepCall Tryz.prog 34 [d] (.fn (.func 62) [] [.ptr [d]]) := by
  obtain ⟨cs0, hcs0⟩ : ∃ cs, cellsX (.d d) = cs := ⟨_, rfl⟩
  have hcs1 := hd.cells
  refine deepCall_K 5 Tryz.func34 rfl (Nat.le_of_ble_eq_true rfl) fun M W0 => ?_
  refine KC.seq ?_
  refine KC.region ?_
  refine KT.step rfl rfl (K.box rfl) ?_
  refine KT.step rfl rfl (K.assign rfl) ?_
  refine KT.nil ?_
  refine thenK_n ?_
  refine KC.seq ?_
  refine KC.region ?_
  refine KT.step rfl rfl (K.makeF (xs := [.optr 0 0]) (m := 0) rfl rfl rfl rfl) ?_
  refine KT.step rfl rfl (K.assign rfl) ?_
  refine KT.nil ?_
  refine thenK_n ?_
  refine KC.ret ?_
  refine ⟨.inl rfl, _, rfl, ?_⟩
  cases hd with
  | nil => rfl
  | sl => rfl
set_option maxRecDepth 10000 in
theorem valuesIter {d : DV} {l : List Int} (hd : Ints d l) (hl : l.length ≤ 9223372036854775807) : IterR Tryz.prog 62 [] [.d (.ptr [d])] (l.map fun z => [XV.d (DI z)]) := by
  intro M W0 id I J σ0 hid hlen hround hI0
  refine inCall_K Tryz.func62 rfl (Nat.le_of_ble_eq_true rfl) ?_
  refine KC.seq ?_
  refine KC.region ?_
  refine KT.step rfl rfl (K.load (cs := []) rfl Tryz.agg36) ?_
  refine KT.step rfl rfl (K.len rfl hd Tryz.underlying36) ?_
  refine KT.step rfl rfl (K.move rfl) ?_
  refine KT.nil ?_
  refine thenK_n ?_
  refine KC.block ?_
  refine KC.loop (fun p : List VObj × Nat => p.1) (fun p => [(0, .yl id), (1, .d (.ptr [d])), (5, .d d), (6, .d (DI (l.length : Nat))), (7, .d (DI (p.2 : Nat)))]) (fun p => p.2 ≤ l.length ∧ I p.2 p.1) (fun p => l.length - p.2) (σ0, 0) ⟨Nat.zero_le _, hI0⟩ rfl (by simp [Go.Vm.look, extK, enterK]) ?_
  intro p hp
  have hp1 := hp.1
  refine KC.seq ?_
  refine KC.region ?_
  refine KT.step rfl rfl (K.lss rfl rfl) ?_
  refine KT.nil ?_
  refine thenK_n ?_
  refine KC.seq ?_
  refine KC.cond rfl (fun hc8 => ?_) (fun hc8 => ?_)
  · skip
    replace hc8 := of_decide_eq_true hc8
    refine KC.skip ?_
    refine thenK_n ?_
    refine KC.seq ?_
    refine KC.block ?_
    refine KC.seq ?_
    refine KC.region ?_
    refine KT.idxI (m := p.2) rfl rfl rfl hd rfl (by omega) Tryz.underlying36 Tryz.size3 fun cs9 => ?_
    refine KT.step rfl rfl (K.load rfl Tryz.agg3) ?_
    refine KT.step rfl rfl (K.assign rfl) ?_
    refine KT.nil ?_
    refine thenK_n ?_
    refine KC.seq ?_
    refine KC.regionL ?_
    refine KL.step rfl rfl (K.move rfl) ?_
    refine KL.step rfl rfl (K.move rfl) ?_
    have hr := hround p.2 p.1 (by rw [List.length_map]; omega) hp.2
    rw [show ((l.map fun z => [XV.d (DI z)]))[p.2]'(by rw [List.length_map]; omega) = [XV.d (DI (l[p.2]'(by omega)))] by rw [List.getElem_map]] at hr
    refine KL.yld rfl rfl rfl (hlen _ _ hp.2) rfl (hr) fun σ1 b1 hq1 => ?_
    refine KL.step rfl rfl (K.not rfl) ?_
    refine KL.nil ?_
    refine thenK_n ?_
    refine KC.cond rfl (fun hc14 => ?_) (fun hc14 => ?_)
    · skip
      refine KC.ret ?_
      refine blockK_r ?_
      refine thenK_r ?_
      refine thenK_r ?_
      refine blockK_r ?_
      rcases hq1 with ⟨hb, _⟩ | ⟨_, h⟩
      · rw [hb] at hc14; cases hc14
      · exact ⟨.inl rfl, _, rfl, .inr h⟩
    · skip
      refine KC.skip ?_
      refine blockK_n ?_
      refine thenK_n ?_
      refine KC.region ?_
      refine KT.step rfl rfl (K.add rfl rfl (wrap_id (by omega))) ?_
      refine KT.step rfl rfl (K.move rfl) ?_
      refine KT.nil ?_
      refine thenK_n ?_
      refine ⟨(σ1, p.2 + 1), ⟨by simp only; omega, ?_⟩, by simp only; omega, rfl, by simp [Go.Vm.look, extK]⟩
      rcases hq1 with ⟨_, h⟩ | ⟨hb, _⟩
      · exact h
      · rw [hb] at hc14; cases hc14
  · skip
    replace hc8 := of_decide_eq_false hc8
    refine KC.exit ?_
    refine thenK_x ?_
    refine thenK_x ?_
    refine blockK_e ?_
    refine ⟨.inr rfl, _, rfl, .inl ?_⟩
    rw [List.length_map]
    have e : p.2 = l.length := by omega
    rw [← e]; exact hp.2
set_option maxRecDepth 10000 in
theorem appendSeq110 {M : Nat → Prop} {W0 : World} {σ : List VObj} {d : DV} {l : List Int} (hd : Ints d l) (hl : l.length ≤ 1000000) : InCall Tryz.prog M W0 75 σ [.d Dnil, .d (.fn (.func 62) [] [.ptr [d]])] (fun σ2 x2 => (∀ j, j < σ.length → σ2[j]? = σ[j]?) ∧ OwnK 1 σ2 x2 (xs l) ∧ (∀ j, idX x2 = some j → σ.length ≤ j) ∧ (l = [] → x2 = .d Dnil)) := by
  refine inCall_K Tryz.func75 rfl (Nat.le_of_ble_eq_true rfl) ?_
  refine KC.seq ?_
  refine KC.region ?_
  refine KT.step rfl rfl (K.box rfl) ?_
  refine KT.step rfl rfl (K.assign rfl) ?_
  refine KT.nil ?_
  refine thenK_n ?_
  refine KC.seq ?_
  refine KC.seq ?_
  refine KC.region ?_
  refine KT.step rfl rfl (K.move rfl) ?_
  refine KT.nil ?_
  refine thenK_n ?_
  refine KC.block ?_
  refine KC.rangeR rfl rfl plainTryz_62 (valuesIter hd (by omega)) (by intro x hx; obtain ⟨z, _, rfl⟩ := List.mem_map.1 hx; rfl) (by decide) (fun k => [(2, .optr σ.length 0), (7, .d (DI (l.getD k 0)))]) (fun k τ => ∃ x, τ[σ.length]? = some ⟨[x], 0⟩ ∧ OwnK 1 τ x (xs (l.take k)) ∧ (∀ j, idX x = some j → σ.length + 2 ≤ j) ∧ (l.take k = [] → x = .d Dnil) ∧ (∀ j, j < σ.length → τ[j]? = σ[j]?) ∧ σ.length + 2 ≤ τ.length) (fun _ => False) (by
    intro k hk p hp
    have hk' : k < l.length := by simpa using hk
    rw [List.getElem_map]
    have e1 : l.getD k 0 = l[k] := by simp [hk']
    simp only [e1] at hp
    simp only [List.mem_cons, List.not_mem_nil, or_false] at hp
    rcases hp with rfl | rfl <;> exact ⟨Nat.le_of_ble_eq_true rfl, rfl⟩) (⟨.d Dnil, (by rw [List.append_assoc, List.getElem?_append_right (Nat.le_refl _), Nat.sub_self]; rfl), .nil, (fun j hj => by cases hj), (fun _ => rfl), (fun j hj => by rw [List.append_assoc, List.getElem?_append_left hj]), (by simp)⟩) (fun k hk lo σk hlo hl hI => ?_) (fun τ hI => ?_) (fun τ h => h.elim)
  · skip
    have hk' : k < l.length := by simpa using hk
    obtain ⟨x, y0, o, dj, nx, ky, ly⟩ := hI
    have hLB : (σ ++ [(⟨[.d Dnil], 0⟩ : VObj)]).length = σ.length + 1 := by simp
    replace y0 : (σk.set (σ ++ [(⟨[.d Dnil], 0⟩ : VObj)]).length dead)[σ.length]? = some ⟨[x], 0⟩ := y0
    replace o : OwnK 1 (σk.set (σ ++ [(⟨[.d Dnil], 0⟩ : VObj)]).length dead) x (xs (l.take k)) := o
    replace ky : ∀ j, j < σ.length → (σk.set (σ ++ [(⟨[.d Dnil], 0⟩ : VObj)]).length dead)[j]? = σ[j]? := ky
    have hl9 : σk[(σ ++ [(⟨[.d Dnil], 0⟩ : VObj)]).length]? = some lo := hl
    rw [hLB] at y0 o ky hl9
    refine KC.region ?_
    refine KT.step rfl rfl (K.assign rfl) ?_
    refine KT.nil ?_
    refine ⟨rfl, rfl, fun lo2 hlo2 => ?_⟩
    have z0 := mask_get (j := σ.length + 1) (b := lo2) (by omega) y0
    have zk : ∀ j, j < σ.length → (σk.set (σ.length + 1) lo2)[j]? = σ[j]? := fun j hj => by
      have h := ky j hj
      rw [List.getElem?_set_ne (by omega)] at h ⊢; exact h
    have z4 : (σk.set (σ.length + 1) lo2)[σ.length + 1]? = some lo2 := List.getElem?_set_self (lt_of_get hl9)
    have o1 : OwnK 1 (σk.set (σ.length + 1) lo2) x (xs (l.take k)) := o.keep fun j hj => by
      have := dj j hj
      rw [List.getElem?_set_ne (by omega), List.getElem?_set_ne (by omega)]
    have ll : σ.length + 2 ≤ (σk.set (σ.length + 1) lo2).length := by simp at ly ⊢; exact ly
    revert z0 zk z4 o1 ll
    rw [← hLB]
    show _ → _ → _ → _ → _ → KC Tryz.prog M W0 _ _ (σk.set (σ ++ [(⟨[.d Dnil], 0⟩ : VObj)]).length lo2) _ _
    generalize σk.set (σ ++ [(⟨[.d Dnil], 0⟩ : VObj)]).length lo2 = σ1
    intro z0 zk z4 o1 ll
    refine KC.block ?_
    refine KC.region ?_
    refine KT.step rfl rfl (K.loadO rfl z0 (by simp) rfl Tryz.agg36) ?_
    refine KT.step rfl rfl (K.move rfl) ?_
    refine KT.step rfl rfl (K.buildC (k := 1) (cs := [.d (DI (l.getD k 0))]) rfl rfl rfl Tryz.underlying36 Tryz.size3 Tryz.one3.zero (by decide)) ?_
    refine KT.appK (k := 1) rfl rfl rfl rfl (o1.pushed _) (List.getElem?_concat_length ..) rfl rfl (by rw [xs_len, List.length_take]; omega) Tryz.underlying36 Tryz.size3 (of_decide_eq_true (by kernel_rfl)) (by kernel_rfl) (by decide) fun σ3 x3 ho3 k3 w3 => ?_
    obtain ⟨j3, w4, w5⟩ := w3
    rw [List.length_append] at w5
    have r3 : ∀ (j : Nat) (o : VObj), idX x ≠ some j → σ1[j]? = some o → σ3[j]? = some o := fun j o h1 h2 => (k3 j h1 (by have := lt_of_get h2; rw [List.length_append]; omega)).trans (get_left h2)
    have y0 := r3 σ.length _ (fun h => by have := dj _ h; omega) z0
    refine KT.storeG rfl rfl rfl rfl y0 (by simp) ho3.cells.1 ho3.cells.2 Tryz.size36 fun σ4 l4 u4 v4 => ?_
    refine KT.nil ?_
    refine blockK_n ?_
    have et := List.take_succ_eq_append_getElem hk'
    have e1 : l.getD k 0 = l[k] := by simp [hk']
    have y4 := (v4 (σ ++ [(⟨[.d Dnil], 0⟩ : VObj)]).length (by rw [hLB]; omega)).trans (r3 _ _ (fun h => by have := dj _ h; rw [hLB] at this; omega) z4)
    refine ⟨y4, .inl ⟨rfl, x3, ?_, ?_, fun j hj => ?_, fun h => ?_, fun j hj => ?_, ?_⟩⟩
    · show (σ4.set (σ ++ [(⟨[.d Dnil], 0⟩ : VObj)]).length dead)[σ.length]? = _
      rw [List.getElem?_set_ne (by rw [hLB]; omega)]; exact u4
    · show OwnK 1 (σ4.set (σ ++ [(⟨[.d Dnil], 0⟩ : VObj)]).length dead) x3 _
      rw [et, xs_app, ← e1]
      exact ho3.keep fun j hj => by
        rw [w4] at hj; cases hj
        rw [List.getElem?_set_ne (by rw [hLB]; omega)]; exact v4 _ (by omega)
    · rw [w4] at hj; cases hj; omega
    · have h2 := congrArg List.length h
      rw [List.length_take] at h2; simp only [List.length_nil] at h2; omega
    · show (σ4.set (σ ++ [(⟨[.d Dnil], 0⟩ : VObj)]).length dead)[j]? = _
      rw [List.getElem?_set_ne (by rw [hLB]; omega), v4 j (by omega)]
      rw [← zk j hj]
      exact (k3 j (fun h => by have := dj _ h; omega) (by rw [List.length_append]; omega)).trans (List.getElem?_append_left (by omega))
    · rw [List.length_set]; have := ho3.lt w4; omega
  · skip
    obtain ⟨x, y0, o, dj, nx, ky, ly⟩ := hI
    rw [List.length_map, List.take_length] at o
    rw [List.length_map, List.take_length] at nx
    refine blockK_n ?_
    refine thenK_n ?_
    refine KC.seq ?_
    refine KC.region ?_
    refine KT.step rfl rfl (K.loadO rfl y0 (by simp) rfl Tryz.agg36) ?_
    refine KT.step rfl rfl (K.assign rfl) ?_
    refine KT.nil ?_
    refine thenK_n ?_
    refine KC.ret ?_
    exact ⟨.inl rfl, _, rfl, ky, o, fun j hj => by have := dj j hj; omega, nx⟩
end Go.Proofs.YtdgahcbalabjdaaGreat

