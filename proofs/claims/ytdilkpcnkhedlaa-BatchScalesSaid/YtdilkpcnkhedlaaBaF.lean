import Derived.Test.YtdilkpcnkhedlaaBaE
import Derived.Test.YtdilkpcnkhedlaaVmOr
import Derived.Test.YtdilkpcnkhedlaaVmKe
/-
  Batch: slices.Values, Collect, Sorted.
-/
namespace Go.Proofs.Ytdilkpcnkhedlaa
open Go.Vm Go.Ht Go.Ba
theorem plainTry_81 : plainFn Try.prog 81 = true := by kernel_rfl
theorem plainTry_114 : plainFn Try.prog 114 = true := by kernel_rfl
theorem plainTry_131 : plainFn Try.prog 131 = true := by kernel_rfl
theorem plainTry_112 : plainFn Try.prog 112 = true := by kernel_rfl
theorem plainTry_126 : plainFn Try.prog 126 = true := by kernel_rfl
theorem plainTry_98 : plainFn Try.prog 98 = true := by kernel_rfl
def lays189_ren : Go.Shelf.Ren := ⟨fun | 189 => 126 | 125 => 117 | 257 => 146 | 128 => 141 | 129 => 142 | 294 => 163 | 295 => 164 | 296 => 165 | 297 => 166 | 298 => 167 | 299 => 168 | 216 => 169 | 300 => 170 | 301 => 171 | 328 => 176 | 329 => 159 | 330 => 160 | 331 => 177 | 332 => 178 | 215 => 115 | 343 => 180 | n => n, fun | 28 => 26 | 3 => 3 | 46 => 75 | 0 => 0 | 51 => 196 | 53 => 198 | 4 => 4 | 183 => 189 | 182 => 188 | 131 => 193 | 5 => 5 | 9 => 9 | 218 => 212 | 222 => 112 | 228 => 224 | 229 => 107 | n => n, fun | n => n⟩
theorem lays189 : Go.Proofs.Lays.n189 Try.prog lays189_ren where
  mixed := by kernel_rfl
  f125 := Try.func117.trans (congrArg some (by kernel_rfl))
  f128 := Try.func141.trans (congrArg some (by kernel_rfl))
  f129 := Try.func142.trans (congrArg some (by kernel_rfl))
  f189 := Try.func126.trans (congrArg some (by kernel_rfl))
  f215 := Try.func115.trans (congrArg some (by kernel_rfl))
  f216 := Try.func169.trans (congrArg some (by kernel_rfl))
  f257 := Try.func146.trans (congrArg some (by kernel_rfl))
  f294 := Try.func163.trans (congrArg some (by kernel_rfl))
  f295 := Try.func164.trans (congrArg some (by kernel_rfl))
  f296 := Try.func165.trans (congrArg some (by kernel_rfl))
  f297 := Try.func166.trans (congrArg some (by kernel_rfl))
  f298 := Try.func167.trans (congrArg some (by kernel_rfl))
  f299 := Try.func168.trans (congrArg some (by kernel_rfl))
  f300 := Try.func170.trans (congrArg some (by kernel_rfl))
  f301 := Try.func171.trans (congrArg some (by kernel_rfl))
  f328 := Try.func176.trans (congrArg some (by kernel_rfl))
  f329 := Try.func159.trans (congrArg some (by kernel_rfl))
  f330 := Try.func160.trans (congrArg some (by kernel_rfl))
  f331 := Try.func177.trans (congrArg some (by kernel_rfl))
  f332 := Try.func178.trans (congrArg some (by kernel_rfl))
  f343 := Try.func180.trans (congrArg some (by kernel_rfl))
  t0 := Try.underlying0
  a0 := Try.isAgg0
  z0 := Try.sizeOf0
  v0 := Try.zeroValue0
  t3 := Try.underlying3
  a3 := Try.isAgg3
  z3 := Try.sizeOf3
  v3 := Try.zeroValue3
  t4 := Try.underlying4
  a4 := Try.isAgg4
  z4 := Try.sizeOf4
  v4 := Try.zeroValue4
  t5 := Try.underlying5
  a5 := Try.isAgg5
  z5 := Try.sizeOf5
  v5 := Try.zeroValue5
  t9 := Try.underlying9
  a9 := Try.isAgg9
  z9 := Try.sizeOf9
  v9 := Try.zeroValue9
  t28 := Try.underlying26
  a28 := Try.isAgg26
  z28 := Try.sizeOf26
  v28 := Try.zeroValue26
  t46 := Try.underlying75
  a46 := Try.isAgg75
  z46 := Try.sizeOf75
  v46 := Try.zeroValue75
  t51 := Try.underlying196
  a51 := Try.isAgg196
  z51 := Try.sizeOf196
  v51 := Try.zeroValue196
  t53 := Try.underlying198
  a53 := Try.isAgg198
  z53 := Try.sizeOf198
  v53 := Try.zeroValue198
  t131 := Try.underlying193
  a131 := Try.isAgg193
  z131 := Try.sizeOf193
  v131 := Try.zeroValue193
  t182 := Try.underlying188
  a182 := Try.isAgg188
  z182 := Try.sizeOf188
  v182 := Try.zeroValue188
  t183 := Try.underlying189
  a183 := Try.isAgg189
  z183 := Try.sizeOf189
  v183 := Try.zeroValue189
  t218 := Try.underlying212
  a218 := Try.isAgg212
  z218 := Try.sizeOf212
  v218 := Try.zeroValue212
  t222 := Try.underlying112
  a222 := Try.isAgg112
  z222 := Try.sizeOf112
  v222 := Try.zeroValue112
  t228 := Try.underlying224
  a228 := Try.isAgg224
  z228 := Try.sizeOf224
  v228 := Try.zeroValue224
  t229 := Try.underlying107
  a229 := Try.isAgg107
  z229 := Try.sizeOf107
  v229 := Try.zeroValue107
set_option maxRecDepth 10000 in
theorem values81 {d : DV} (hd : SlD d) : DeepCall Try.prog 81 [d] (.fn (.func 114) [] [.ptr [d]]) := by
  obtain ⟨cs0, hcs0⟩ : ∃ cs, cellsX (.d d) = cs := ⟨_, rfl⟩
  have hcs1 := hd.cells
  refine deepCall_K 5 Try.func81 rfl (Nat.le_of_ble_eq_true rfl) fun M W0 => ?_
  refine KC.seq ?_
  refine KC.region ?_
  refine KT.step rfl rfl (K.box rfl) ?_
  refine KT.step rfl rfl (K.assign rfl) ?_
  refine KT.nil ?_
  refine thenK_n ?_
  refine KC.seq ?_
  refine KC.region ?_
  refine KT.step rfl rfl (K.makeF (xs := [.optr 0 0]) (m := 0) rfl rfl rfl rfl) ?_
  refine KT.step rfl rfl (K.assign rfl) ?_
  refine KT.nil ?_
  refine thenK_n ?_
  refine KC.ret ?_
  refine ⟨.inl rfl, _, rfl, ?_⟩
  cases hd with
  | nil => rfl
  | sl => rfl
set_option maxRecDepth 10000 in
theorem valuesIter {d : DV} {l : List Int} (hd : Ints d l) (hl : l.length ≤ 9223372036854775807) : IterR Try.prog 114 [] [.d (.ptr [d])] (l.map fun z => [XV.d (DI z)]) := by
  intro M W0 id I J σ0 hid hlen hround hI0
  refine inCall_K Try.func114 rfl (Nat.le_of_ble_eq_true rfl) ?_
  refine KC.seq ?_
  refine KC.region ?_
  refine KT.step rfl rfl (K.load (cs := []) rfl Try.agg26) ?_
  refine KT.step rfl rfl (K.len rfl hd Try.underlying26) ?_
  refine KT.step rfl rfl (K.move rfl) ?_
  refine KT.nil ?_
  refine thenK_n ?_
  refine KC.block ?_
  refine KC.loop (fun p : List VObj × Nat => p.1) (fun p => [(0, .yl id), (1, .d (.ptr [d])), (5, .d d), (6, .d (DI (l.length : Nat))), (7, .d (DI (p.2 : Nat)))]) (fun p => p.2 ≤ l.length ∧ I p.2 p.1) (fun p => l.length - p.2) (σ0, 0) ⟨Nat.zero_le _, hI0⟩ rfl (by simp [Go.Vm.look, extK, enterK]) ?_
  intro p hp
  have hp1 := hp.1
  refine KC.seq ?_
  refine KC.region ?_
  refine KT.step rfl rfl (K.lss rfl rfl) ?_
  refine KT.nil ?_
  refine thenK_n ?_
  refine KC.seq ?_
  refine KC.cond rfl (fun hc8 => ?_) (fun hc8 => ?_)
  · skip
    replace hc8 := of_decide_eq_true hc8
    refine KC.skip ?_
    refine thenK_n ?_
    refine KC.seq ?_
    refine KC.block ?_
    refine KC.seq ?_
    refine KC.region ?_
    refine KT.idxI (m := p.2) rfl rfl rfl hd rfl (by omega) Try.underlying26 Try.size3 fun cs9 => ?_
    refine KT.step rfl rfl (K.load rfl Try.agg3) ?_
    refine KT.step rfl rfl (K.assign rfl) ?_
    refine KT.nil ?_
    refine thenK_n ?_
    refine KC.seq ?_
    refine KC.regionL ?_
    refine KL.step rfl rfl (K.move rfl) ?_
    refine KL.step rfl rfl (K.move rfl) ?_
    have hr := hround p.2 p.1 (by rw [List.length_map]; omega) hp.2
    rw [show ((l.map fun z => [XV.d (DI z)]))[p.2]'(by rw [List.length_map]; omega) = [XV.d (DI (l[p.2]'(by omega)))] by rw [List.getElem_map]] at hr
    refine KL.yld rfl rfl rfl (hlen _ _ hp.2) rfl (hr) fun σ1 b1 hq1 => ?_
    refine KL.step rfl rfl (K.not rfl) ?_
    refine KL.nil ?_
    refine thenK_n ?_
    refine KC.cond rfl (fun hc14 => ?_) (fun hc14 => ?_)
    · skip
      refine KC.ret ?_
      refine blockK_r ?_
      refine thenK_r ?_
      refine thenK_r ?_
      refine blockK_r ?_
      rcases hq1 with ⟨hb, _⟩ | ⟨_, h⟩
      · rw [hb] at hc14; cases hc14
      · exact ⟨.inl rfl, _, rfl, .inr h⟩
    · skip
      refine KC.skip ?_
      refine blockK_n ?_
      refine thenK_n ?_
      refine KC.region ?_
      refine KT.step rfl rfl (K.add rfl rfl (wrap_id (by omega))) ?_
      refine KT.step rfl rfl (K.move rfl) ?_
      refine KT.nil ?_
      refine thenK_n ?_
      refine ⟨(σ1, p.2 + 1), ⟨by simp only; omega, ?_⟩, by simp only; omega, rfl, by simp [Go.Vm.look, extK]⟩
      rcases hq1 with ⟨_, h⟩ | ⟨hb, _⟩
      · exact h
      · rw [hb] at hc14; cases hc14
  · skip
    replace hc8 := of_decide_eq_false hc8
    refine KC.exit ?_
    refine thenK_x ?_
    refine thenK_x ?_
    refine blockK_e ?_
    refine ⟨.inr rfl, _, rfl, .inl ?_⟩
    rw [List.length_map]
    have e : p.2 = l.length := by omega
    rw [← e]; exact hp.2
set_option maxRecDepth 10000 in
theorem appendSeq131 {M : Nat → Prop} {W0 : World} {σ : List VObj} {d : DV} {l : List Int} (hd : Ints d l) (hl : l.length ≤ 1000000) : InCall Try.prog M W0 131 σ [.d Dnil, .d (.fn (.func 114) [] [.ptr [d]])] (fun σ2 x2 => (∀ j, j < σ.length → σ2[j]? = σ[j]?) ∧ OwnK 1 σ2 x2 (xs l) ∧ (∀ j, idX x2 = some j → σ.length ≤ j) ∧ (l = [] → x2 = .d Dnil)) := by
  refine inCall_K Try.func131 rfl (Nat.le_of_ble_eq_true rfl) ?_
  refine KC.seq ?_
  refine KC.region ?_
  refine KT.step rfl rfl (K.box rfl) ?_
  refine KT.step rfl rfl (K.assign rfl) ?_
  refine KT.nil ?_
  refine thenK_n ?_
  refine KC.seq ?_
  refine KC.seq ?_
  refine KC.region ?_
  refine KT.step rfl rfl (K.move rfl) ?_
  refine KT.nil ?_
  refine thenK_n ?_
  refine KC.block ?_
  refine KC.rangeR rfl rfl plainTry_114 (valuesIter hd (by omega)) (by intro x hx; obtain ⟨z, _, rfl⟩ := List.mem_map.1 hx; rfl) (by decide) (fun k => [(2, .optr σ.length 0), (7, .d (DI (l.getD k 0)))]) (fun k τ => ∃ x, τ[σ.length]? = some ⟨[x], 0⟩ ∧ OwnK 1 τ x (xs (l.take k)) ∧ (∀ j, idX x = some j → σ.length + 2 ≤ j) ∧ (l.take k = [] → x = .d Dnil) ∧ (∀ j, j < σ.length → τ[j]? = σ[j]?) ∧ σ.length + 2 ≤ τ.length) (fun _ => False) (by
    intro k hk p hp
    have hk' : k < l.length := by simpa using hk
    rw [List.getElem_map]
    have e1 : l.getD k 0 = l[k] := by simp [hk']
    simp only [e1] at hp
    simp only [List.mem_cons, List.not_mem_nil, or_false] at hp
    rcases hp with rfl | rfl <;> exact ⟨Nat.le_of_ble_eq_true rfl, rfl⟩) (⟨.d Dnil, (by rw [List.append_assoc, List.getElem?_append_right (Nat.le_refl _), Nat.sub_self]; rfl), .nil, (fun j hj => by cases hj), (fun _ => rfl), (fun j hj => by rw [List.append_assoc, List.getElem?_append_left hj]), (by simp)⟩) (fun k hk lo σk hlo hl hI => ?_) (fun τ hI => ?_) (fun τ h => h.elim)
  · skip
    have hk' : k < l.length := by simpa using hk
    obtain ⟨x, y0, o, dj, nx, ky, ly⟩ := hI
    have hLB : (σ ++ [(⟨[.d Dnil], 0⟩ : VObj)]).length = σ.length + 1 := by simp
    replace y0 : (σk.set (σ ++ [(⟨[.d Dnil], 0⟩ : VObj)]).length dead)[σ.length]? = some ⟨[x], 0⟩ := y0
    replace o : OwnK 1 (σk.set (σ ++ [(⟨[.d Dnil], 0⟩ : VObj)]).length dead) x (xs (l.take k)) := o
    replace ky : ∀ j, j < σ.length → (σk.set (σ ++ [(⟨[.d Dnil], 0⟩ : VObj)]).length dead)[j]? = σ[j]? := ky
    have hl9 : σk[(σ ++ [(⟨[.d Dnil], 0⟩ : VObj)]).length]? = some lo := hl
    rw [hLB] at y0 o ky hl9
    refine KC.region ?_
    refine KT.step rfl rfl (K.assign rfl) ?_
    refine KT.nil ?_
    refine ⟨rfl, rfl, fun lo2 hlo2 => ?_⟩
    have z0 := mask_get (j := σ.length + 1) (b := lo2) (by omega) y0
    have zk : ∀ j, j < σ.length → (σk.set (σ.length + 1) lo2)[j]? = σ[j]? := fun j hj => by
      have h := ky j hj
      rw [List.getElem?_set_ne (by omega)] at h ⊢; exact h
    have z4 : (σk.set (σ.length + 1) lo2)[σ.length + 1]? = some lo2 := List.getElem?_set_self (lt_of_get hl9)
    have o1 : OwnK 1 (σk.set (σ.length + 1) lo2) x (xs (l.take k)) := o.keep fun j hj => by
      have := dj j hj
      rw [List.getElem?_set_ne (by omega), List.getElem?_set_ne (by omega)]
    have ll : σ.length + 2 ≤ (σk.set (σ.length + 1) lo2).length := by simp at ly ⊢; exact ly
    revert z0 zk z4 o1 ll
    rw [← hLB]
    show _ → _ → _ → _ → _ → KC Try.prog M W0 _ _ (σk.set (σ ++ [(⟨[.d Dnil], 0⟩ : VObj)]).length lo2) _ _
    generalize σk.set (σ ++ [(⟨[.d Dnil], 0⟩ : VObj)]).length lo2 = σ1
    intro z0 zk z4 o1 ll
    refine KC.block ?_
    refine KC.region ?_
    refine KT.step rfl rfl (K.loadO rfl z0 (by simp) rfl Try.agg26) ?_
    refine KT.step rfl rfl (K.move rfl) ?_
    refine KT.step rfl rfl (K.buildC (k := 1) (cs := [.d (DI (l.getD k 0))]) rfl rfl rfl Try.underlying26 Try.size3 Try.one3.zero (by decide)) ?_
    refine KT.appK (k := 1) rfl rfl rfl rfl (o1.pushed _) (List.getElem?_concat_length ..) rfl rfl (by rw [xs_len, List.length_take]; omega) Try.underlying26 Try.size3 (of_decide_eq_true (by kernel_rfl)) (by kernel_rfl) (by decide) fun σ3 x3 ho3 k3 w3 => ?_
    obtain ⟨j3, w4, w5⟩ := w3
    rw [List.length_append] at w5
    have r3 : ∀ (j : Nat) (o : VObj), idX x ≠ some j → σ1[j]? = some o → σ3[j]? = some o := fun j o h1 h2 => (k3 j h1 (by have := lt_of_get h2; rw [List.length_append]; omega)).trans (get_left h2)
    have y0 := r3 σ.length _ (fun h => by have := dj _ h; omega) z0
    refine KT.storeG rfl rfl rfl rfl y0 (by simp) ho3.cells.1 ho3.cells.2 Try.size26 fun σ4 l4 u4 v4 => ?_
    refine KT.nil ?_
    refine blockK_n ?_
    have et := List.take_succ_eq_append_getElem hk'
    have e1 : l.getD k 0 = l[k] := by simp [hk']
    have y4 := (v4 (σ ++ [(⟨[.d Dnil], 0⟩ : VObj)]).length (by rw [hLB]; omega)).trans (r3 _ _ (fun h => by have := dj _ h; rw [hLB] at this; omega) z4)
    refine ⟨y4, .inl ⟨rfl, x3, ?_, ?_, fun j hj => ?_, fun h => ?_, fun j hj => ?_, ?_⟩⟩
    · show (σ4.set (σ ++ [(⟨[.d Dnil], 0⟩ : VObj)]).length dead)[σ.length]? = _
      rw [List.getElem?_set_ne (by rw [hLB]; omega)]; exact u4
    · show OwnK 1 (σ4.set (σ ++ [(⟨[.d Dnil], 0⟩ : VObj)]).length dead) x3 _
      rw [et, xs_app, ← e1]
      exact ho3.keep fun j hj => by
        rw [w4] at hj; cases hj
        rw [List.getElem?_set_ne (by rw [hLB]; omega)]; exact v4 _ (by omega)
    · rw [w4] at hj; cases hj; omega
    · have h2 := congrArg List.length h
      rw [List.length_take] at h2; simp only [List.length_nil] at h2; omega
    · show (σ4.set (σ ++ [(⟨[.d Dnil], 0⟩ : VObj)]).length dead)[j]? = _
      rw [List.getElem?_set_ne (by rw [hLB]; omega), v4 j (by omega)]
      rw [← zk j hj]
      exact (k3 j (fun h => by have := dj _ h; omega) (by rw [List.length_append]; omega)).trans (List.getElem?_append_left (by omega))
    · rw [List.length_set]; have := ho3.lt w4; omega
  · skip
    obtain ⟨x, y0, o, dj, nx, ky, ly⟩ := hI
    rw [List.length_map, List.take_length] at o
    rw [List.length_map, List.take_length] at nx
    refine blockK_n ?_
    refine thenK_n ?_
    refine KC.seq ?_
    refine KC.region ?_
    refine KT.step rfl rfl (K.loadO rfl y0 (by simp) rfl Try.agg26) ?_
    refine KT.step rfl rfl (K.assign rfl) ?_
    refine KT.nil ?_
    refine thenK_n ?_
    refine KC.ret ?_
    exact ⟨.inl rfl, _, rfl, ky, o, fun j hj => by have := dj j hj; omega, nx⟩
end Go.Proofs.Ytdilkpcnkhedlaa

