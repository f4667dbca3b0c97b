import Derived.Test.YtocgjopmlhpjdaaNtH
import Derived.Test.YtocgjopmlhpjdaaNtSa
import Derived.Test.YtocgjopmlhpjdaaVmKi
/-
  Nets: markings sorted: SortFunc with Compare; rising; dead.
-/
namespace Go.Proofs.Ytocgjopmlhpjdaa
open Go.Vm Go.RowKit Go.Nt Go.Ht Go.Shelf
theorem plainTry_41 : plainFn Try.prog 41 = true := by kernel_rfl
theorem plainTry_75 : plainFn Try.prog 75 = true := by kernel_rfl
def sort75_ren : Go.Shelf.Ren := ⟨fun | 6 => 75 | 15 => 96 | 14 => 95 | 28 => 111 | 29 => 112 | 20 => 103 | 21 => 104 | 22 => 105 | 23 => 106 | 24 => 107 | 25 => 108 | 26 => 109 | 27 => 110 | 46 => 115 | 47 => 116 | 48 => 117 | 49 => 118 | 50 => 119 | 57 => 120 | n => n, fun | 22 => 26 | 24 => 30 | 25 => 110 | 3 => 3 | 39 => 57 | 0 => 0 | 53 => 145 | 55 => 147 | 4 => 4 | 46 => 139 | 45 => 138 | 50 => 86 | 5 => 5 | 9 => 9 | 66 => 149 | 70 => 93 | 76 => 154 | 77 => 155 | n => n, fun | n => n⟩
theorem sort75 : Go.Proofs.SlLaysF.n6 Try.prog sort75_ren where
  mixed := by kernel_rfl
  f6 := ⟨Try.f75.name, by decide, Try.func75.trans (congrArg some (by kernel_rfl))⟩
  f14 := ⟨Try.f95.name, by decide, Try.func95.trans (congrArg some (by kernel_rfl))⟩
  f15 := Try.func96.trans (congrArg some (by kernel_rfl))
  f20 := ⟨Try.f103.name, by decide, Try.func103.trans (congrArg some (by kernel_rfl))⟩
  f21 := ⟨Try.f104.name, by decide, Try.func104.trans (congrArg some (by kernel_rfl))⟩
  f22 := ⟨Try.f105.name, by decide, Try.func105.trans (congrArg some (by kernel_rfl))⟩
  f23 := ⟨Try.f106.name, by decide, Try.func106.trans (congrArg some (by kernel_rfl))⟩
  f24 := ⟨Try.f107.name, by decide, Try.func107.trans (congrArg some (by kernel_rfl))⟩
  f25 := ⟨Try.f108.name, by decide, Try.func108.trans (congrArg some (by kernel_rfl))⟩
  f26 := ⟨Try.f109.name, by decide, Try.func109.trans (congrArg some (by kernel_rfl))⟩
  f27 := ⟨Try.f110.name, by decide, Try.func110.trans (congrArg some (by kernel_rfl))⟩
  f28 := Try.func111.trans (congrArg some (by kernel_rfl))
  f29 := Try.func112.trans (congrArg some (by kernel_rfl))
  f46 := ⟨Try.f115.name, by decide, Try.func115.trans (congrArg some (by kernel_rfl))⟩
  f47 := Try.func116.trans (congrArg some (by kernel_rfl))
  f48 := Try.func117.trans (congrArg some (by kernel_rfl))
  f49 := ⟨Try.f118.name, by decide, Try.func118.trans (congrArg some (by kernel_rfl))⟩
  f50 := ⟨Try.f119.name, by decide, Try.func119.trans (congrArg some (by kernel_rfl))⟩
  f57 := ⟨Try.f120.name, by decide, Try.func120.trans (congrArg some (by kernel_rfl))⟩
  t0 := Try.underlying0
  a0 := Try.isAgg0
  z0 := Try.sizeOf0
  v0 := Try.zeroValue0
  t3 := Try.underlying3
  a3 := Try.isAgg3
  z3 := Try.sizeOf3
  v3 := Try.zeroValue3
  t4 := Try.underlying4
  a4 := Try.isAgg4
  z4 := Try.sizeOf4
  v4 := Try.zeroValue4
  t5 := Try.underlying5
  a5 := Try.isAgg5
  z5 := Try.sizeOf5
  v5 := Try.zeroValue5
  t9 := Try.underlying9
  a9 := Try.isAgg9
  z9 := Try.sizeOf9
  v9 := Try.zeroValue9
  t22 := Try.underlying26
  a22 := Try.isAgg26
  z22 := Try.sizeOf26
  v22 := Try.zeroValue26
  a24 := Try.isAgg30
  z24 := Try.sizeOf30
  t25 := Try.underlying110
  a25 := Try.isAgg110
  z25 := Try.sizeOf110
  v25 := Try.zeroValue110
  t39 := Try.underlying57
  a39 := Try.isAgg57
  z39 := Try.sizeOf57
  v39 := Try.zeroValue57
  t45 := Try.underlying138
  a45 := Try.isAgg138
  z45 := Try.sizeOf138
  v45 := Try.zeroValue138
  t46 := Try.underlying139
  a46 := Try.isAgg139
  z46 := Try.sizeOf139
  v46 := Try.zeroValue139
  t50 := Try.underlying86
  a50 := Try.isAgg86
  z50 := Try.sizeOf86
  v50 := Try.zeroValue86
  t53 := Try.underlying145
  a53 := Try.isAgg145
  z53 := Try.sizeOf145
  v53 := Try.zeroValue145
  t55 := Try.underlying147
  a55 := Try.isAgg147
  z55 := Try.sizeOf147
  v55 := Try.zeroValue147
  t66 := Try.underlying149
  a66 := Try.isAgg149
  z66 := Try.sizeOf149
  v66 := Try.zeroValue149
  t70 := Try.underlying93
  a70 := Try.isAgg93
  z70 := Try.sizeOf93
  v70 := Try.zeroValue93
  t76 := Try.underlying154
  a76 := Try.isAgg154
  z76 := Try.sizeOf154
  v76 := Try.zeroValue154
  t77 := Try.underlying155
  a77 := Try.isAgg155
  z77 := Try.sizeOf155
  v77 := Try.zeroValue155
/-- The numbers of a deep slice. -/
def lstD : DV → List Int
  | .sl cs _ _ => cs.map fun c => match c with | .lit (.int _ z) => z | _ => 0
  | _ => []
theorem lstD_ints {d : DV} {l : List Int} (h : Ints d l) : lstD d = l := by
  cases h with
  | nil => rfl
  | @sl cs _ cap hn hh =>
    refine List.ext_getElem (by simp [lstD, hn]) fun i a b => ?_
    have hi : i < cs.length := by omega
    have := hh i cs[i] l[i] (List.getElem?_eq_getElem hi) (List.getElem?_eq_getElem b)
    simp only [lstD, List.getElem_map]
    rw [this]
theorem reads76 {cs es : List DV} {n m : Nat} {cap cap2 : Option Nat} {x y : List Int} (hd : Ints (.sl cs n cap) x) (he : Ints (.sl es m cap2) y) (hx : x.length ≤ 9223372036854775807) (hy : y.length ≤ 9223372036854775807) :
    ReadCall Try.prog 76 [.sl cs n cap, .sl es m cap2] (.int .i64 (cmpL x y)) := by
  intro M w vs hl hr
  match vs, hl with
  | [u, v], _ =>
  have r1 := hr 0 u _ rfl rfl
  have r2 := hr 1 v _ rfl rfl
  have key : ∀ {ds : List DV} {k : Nat} {c : Option Nat} {z : List Int} {t : Value}, Ints (.sl ds k c) z → DRep w M t (.sl ds k c) → ∃ (a : Addr) (cp : Nat), t = .slice (some a) z.length cp ∧ (0 < z.length → a.spot = none) ∧ ∀ j, j < z.length → w.cell? ⟨a.block, a.off + j, none⟩ = some (.int .i64 z[j]!) := by
    intro ds k c z t h1 h2
    cases h1 with
    | sl hn hh =>
    cases h2 with
    | @sl a _ cp _ _ vs _ _ hv ha hcell hrep =>
    refine ⟨a, cp, rfl, fun h0 => (ha (by intro e; subst e; simp at hn; omega)).1, fun j hj => ?_⟩
    have hjd : j < ds.length := by omega
    have e1 := hcell j vs[j] (List.getElem?_eq_getElem (by omega))
    have e2 := hrep j vs[j] ds[j] (List.getElem?_eq_getElem (by omega)) (List.getElem?_eq_getElem hjd)
    have e3 : ds[j] = DI z[j] := hh j ds[j] z[j] (List.getElem?_eq_getElem hjd) (List.getElem?_eq_getElem hj)
    rw [e3] at e2
    generalize hv9 : vs[j] = v9 at e1 e2
    cases e2
    rw [e1, getElem!_pos z j hj]
  obtain ⟨a, cp, rfl, s1, c1⟩ := key hd r1
  obtain ⟨b, cq, rfl, s2, c2⟩ := key he r2
  exact compare76 a b cp cq x y w hx hy s1 s2 c1 c2
theorem tk_map {m : List Int} {n : Nat} (h : m.length = n) : (List.range n).map (tk m) = m := by
  refine List.ext_getElem (by simp [h]) fun i a b => ?_
  rw [List.getElem_map, List.getElem_range, tk_get b]
theorem numV_sl {m : List Int} (h : 0 < m.length) : numV m = .sl (m.map DI) m.length none := by
  cases m with
  | nil => simp at h
  | cons x m => simp [numV, slOf]
theorem enter76 : ∀ args w, (callFunc 76 args).run Try.prog w = .ok (.enter 76 args) w := enters_of Try.func76 (by kernel_rfl) rfl
theorem sortMk75 {σ : List VObj} {id lo n : Nat} {ex : Bool} {ms : List (List Int)} (ho : σ[id]? = some ⟨(ms.map numV).map .d, 0⟩) (h0 : 0 < n) (hn : ∀ m ∈ ms, m.length = n) (hb : n ≤ 1000) (hd : ms.Nodup) (hl : ms.length ≤ 1000000) :
    OwnCall Try.prog 75 σ [.osl id 0 ms.length 1 lo ex, .d (.fn (.func 76) [] [])] (σ.set id ⟨((sortM ms).map numV).map .d, 0⟩) (.d (.lit (.tuple #[]))) := by
  have hin : ∀ x, x ∈ (DV.sl [] 0 none) :: ms.map numV → ∃ cs k cap l, x = .sl cs k cap ∧ Ints (.sl cs k cap) l ∧ l.length ≤ 1000 := fun x hx => by
    rcases List.mem_cons.1 hx with rfl | hx
    · exact ⟨[], 0, none, [], rfl, .sl (l := []) rfl (fun i c x h => by simp at h), by simp⟩
    · obtain ⟨m, hm, rfl⟩ := List.mem_map.1 hx
      have hl := hn m hm
      have h := numV_ints m (by omega)
      rw [numV_sl (by omega)] at h ⊢
      exact ⟨_, _, _, m, rfl, h, by omega⟩
  have h := sortF_own sort75 (g := 76) enter76 (cf := fun a b => cmpL (lstD a) (lstD b)) (x0 := .sl [] 0 none) (v0 := .slice (some ⟨0, 0, none⟩) 0 0)
    (fun w M => .sl [] (Nat.le_refl _) (fun c h => by cases h) rfl (fun h => absurd rfl h) (fun i v h => by simp at h) (fun i v x h => by simp at h))
    (σ := σ) (id := id) (lo := lo) (ex := ex) (xs := ms.map numV) (ys := (sortM ms).map numV) (rest := []) (by rw [List.append_nil]; exact ho) (by rw [List.length_map]; omega)
    (fun x hx w M v hr => by obtain ⟨cs, k, cap, l, rfl, _, _⟩ := hin x hx; cases hr; rfl)
    (fun x hx y hy => by
      obtain ⟨cs, k, cap, l, rfl, h1, h2⟩ := hin x hx
      obtain ⟨es, k2, cap2, l2, rfl, h3, h4⟩ := hin y hy
      rw [lstD_ints h1, lstD_ints h3]
      exact reads76 h1 h3 (by omega) (by omega))
    (fun x _ => by rw [cmpL_self]; decide) (fun x _ y _ z _ h1 h2 => cmpL_trans h1 h2) (fun x _ y _ z _ h1 h2 => cmpL_ntrans h1 h2)
    (fun zs hp hs => by
      have hz : ∀ z ∈ zs, ∃ m ∈ ms, numV m = z := fun z hz => by
        obtain ⟨m, h1, h2⟩ := List.mem_map.1 (hp.subset hz)
        exact ⟨m, h1, h2⟩
      have e1 : (zs.map lstD).map numV = zs := by
        rw [List.map_map]
        conv => rhs; rw [← List.map_id zs]
        refine List.map_congr_left fun z h => ?_
        obtain ⟨m, hm, rfl⟩ := hz z h
        show numV (lstD (numV m)) = numV m
        rw [lstD_ints (numV_ints m (by rw [hn m hm]; exact h0))]
      have e2 : (ms.map numV).map lstD = ms := by
        rw [List.map_map]
        conv => rhs; rw [← List.map_id ms]
        refine List.map_congr_left fun m hm => ?_
        show lstD (numV m) = m
        exact lstD_ints (numV_ints m (by rw [hn m hm]; exact h0))
      have h5 := hp.map lstD
      rw [e2] at h5
      rw [← e1, sortM_uniq hd h5 (by rw [List.pairwise_map]; exact hs)])
  rw [List.append_nil, List.length_map] at h
  exact h
/-- What rising returns. -/
def risV (ms : List (List Int)) : DV := .sl ((sortM ms).map numV) ms.length (some ms.length)
set_option maxHeartbeats 1000000 in
set_option maxRecDepth 10000 in
theorem rising41 {size : Nat} {pre post : List (List Int)} {s : List Int} {ms : List (List Int)} (h0 : 0 < size) (h6 : size ≤ 6) (hn : ∀ m ∈ ms, m.length = size) (hd : ms.Nodup) (hl : ms.length ≤ 1000000) :
    DeepCall Try.prog 41 [sysD size pre post s, flV (fun m => w6 (tk m)) ms] (risV ms) := by
  refine deepCall_K 6 Try.func41 rfl (Nat.le_of_ble_eq_true rfl) fun M W0 => ?_
  refine KC.seq ?_
  refine KC.region ?_
  refine KT.step rfl rfl (K.box rfl) ?_
  refine KT.step rfl rfl (K.assign rfl) ?_
  refine KT.nil ?_
  refine thenK_n ?_
  refine KC.seq ?_
  refine KC.region ?_
  refine KT.step rfl rfl (K.move rfl) ?_
  refine KT.step rfl rfl (K.lenF (k := 6) (f := fun m => w6 (tk m)) (ks := ms) rfl (flV_ok (k := 6) ms) Try.underlying62) ?_
  refine KT.step rfl rfl (K.make (m := ms.length) (c := ms.length) rfl rfl (Nat.le_refl _) (by omega) Try.underlying26 Try.one30) ?_
  refine KT.step rfl rfl (K.assign rfl) ?_
  refine KT.nil ?_
  refine thenK_n ?_
  refine KC.seq ?_
  refine KC.seq ?_
  refine KC.region ?_
  refine KT.step rfl rfl (K.move rfl) ?_
  refine KT.step rfl rfl (K.lenF (k := 6) (f := fun m => w6 (tk m)) (ks := ms) rfl (flV_ok (k := 6) ms) Try.underlying62) ?_
  refine KT.step rfl rfl (K.move rfl) ?_
  refine KT.nil ?_
  refine thenK_n ?_
  refine KC.block ?_
  have e0 : List.replicate ms.length (XV.d Dnil) = updL ms.length (fun k => XV.d (numV (ms.getD k []))) (.d Dnil) 0 := updL_zero
  refine KC.loop (fun p : List VObj × Nat => p.1) (fun p => [(1, .d (flV (fun m => w6 (tk m)) ms)), (2, .optr 0 0), (5, .osl 1 0 ms.length 1 ms.length true), (11, .d (flV (fun m => w6 (tk m)) ms)), (12, .d (DI (ms.length : Nat))), (13, .d (DI (p.2 : Nat)))]) (fun p => p.2 ≤ ms.length ∧ p.1[0]? = some ⟨((sysC size pre post s).map .d), 0⟩ ∧ p.1[1]? = some ⟨updL ms.length (fun k => XV.d (numV (ms.getD k []))) (.d Dnil) p.2, 0⟩) (fun p => ms.length - p.2) (_, 0) ⟨Nat.zero_le _, rfl, by rw [← e0]; rfl⟩ rfl (by simp [Go.Vm.look, extK, enterK]) ?_
  intro p hp
  obtain ⟨σ0, i⟩ := p
  obtain ⟨hi, g0, h1⟩ := hp
  simp only at hi g0 h1 ⊢
  refine KC.seq ?_
  refine KC.region ?_
  refine KT.step rfl rfl (K.lss rfl rfl) ?_
  refine KT.nil ?_
  refine thenK_n ?_
  refine KC.seq ?_
  refine KC.cond rfl (fun hc14 => ?_) (fun hc14 => ?_)
  · skip
    replace hc14 := of_decide_eq_true hc14
    have hil : i < ms.length := by omega
    refine KC.skip ?_
    refine thenK_n ?_
    refine KC.seq ?_
    refine KC.block ?_
    refine KC.seq ?_
    refine KC.region ?_
    refine KT.step rfl rfl (K.move rfl) ?_
    refine KT.step rfl rfl (K.idxF (k := 6) (f := fun m => w6 (tk m)) (m := i) (fun _ => by simp [w6]) rfl (flV_ok ms) rfl hil Try.underlying62 Try.size64) ?_
    refine KT.step rfl rfl (K.loadAgg (m := 6) rfl Try.agg64 Try.size64 (by simp [w6])) ?_
    rw [show (w6 (tk ms[i]) ++ (ms.drop (i + 1)).flatMap fun m => w6 (tk m)).take 6 = w6 (tk ms[i]) from by rw [List.take_left' (by simp [w6])]]
    refine KT.step rfl rfl (K.alloc Try.zero64) ?_
    refine KT.step rfl rfl (K.assign rfl) ?_
    refine KT.putAll (cs := (w6 (tk ms[i])).map .d) rfl rfl rfl rfl (List.getElem?_concat_length ..) rfl (by simp [w6, Value.cells]) (w6_one _) Try.size64 ?_
    have hlt0 := obj_lt g0
    have hlt1 := obj_lt h1
    obtain ⟨σ1, hσ1, gm, tk1, tl1⟩ := obj_put (List.getElem?_concat_length ..) ⟨(w6 (tk ms[i])).map .d, 0⟩
    rw [hσ1]
    have g0 := (tk1 0 (by omega)).trans (obj_left g0)
    have h1 := (tk1 1 (by omega)).trans (obj_left h1)
    refine KT.nil ?_
    refine thenK_n ?_
    refine KC.region ?_
    refine KT.step rfl rfl (K.move rfl) ?_
    refine KT.step rfl rfl (K.move rfl) ?_
    refine KT.step rfl rfl (K.loadOA (sysC size pre post s) rfl g0 (by decide) Try.agg66 Try.size66 rfl) ?_
    refine KT.step rfl rfl (K.loadOA (w6 (tk ms[i])) rfl gm (by decide) Try.agg64 Try.size64 rfl) ?_
    refine KT.step rfl rfl (K.call2 rfl rfl plainTry_72 (marking72 h0 h6)) ?_
    refine KT.step rfl rfl (K.idxO (m := i) rfl rfl hil Try.underlying26 Try.size30) ?_
    refine KT.storeG rfl rfl rfl rfl h1 (by rw [updL_len]; omega) (by rw [numD_V, tk_map (hn _ (List.getElem_mem hil)), numV_sl (by rw [hn _ (List.getElem_mem hil)]; exact h0)]; rfl) (by rw [numD_V, tk_map (hn _ (List.getElem_mem hil)), numV_sl (by rw [hn _ (List.getElem_mem hil)]; exact h0)]; rfl) Try.size30 fun σ2 l2 u2 v2 => ?_
    refine KT.nil ?_
    refine blockK_n ?_
    refine thenK_n ?_
    refine KC.region ?_
    refine KT.step rfl rfl (K.add rfl rfl (wrap_id (by omega))) ?_
    refine KT.step rfl rfl (K.move rfl) ?_
    refine KT.nil ?_
    refine thenK_n ?_
    refine ⟨(σ2, i + 1), ⟨by simp only; omega, (v2 0 (by omega)).trans g0, ?_⟩, by simp only; omega, rfl, by simp [Go.Vm.look, extK]⟩
    simp only
    rw [u2, Nat.zero_add, ← updL_set (f := (fun k => XV.d (numV (ms.getD k [])))) hil]
    have e9 : ms.getD i [] = ms[i] := by rw [List.getD_eq_getElem?_getD, List.getElem?_eq_getElem hil]; rfl
    rw [e9, numD_V, tk_map (hn _ (List.getElem_mem hil))]
  · skip
    replace hc14 := of_decide_eq_false hc14
    refine KC.exit ?_
    refine thenK_x ?_
    refine thenK_x ?_
    refine blockK_e ?_
    refine thenK_n ?_
    refine KC.seq ?_
    refine KC.region ?_
    refine KT.step rfl rfl (K.move rfl) ?_
    have e9 : updL ms.length (fun k => XV.d (numV (ms.getD k []))) (.d Dnil) i = (ms.map numV).map .d := by
      rw [updL_full (by omega)]
      refine List.ext_getElem (by simp) fun k a b => ?_
      have hk : k < ms.length := by simpa using a
      simp [hk]
    rw [e9] at h1
    refine KT.step rfl rfl (K.callO rfl plainTry_75 (sortMk75 (n := size) h1 h0 hn (by omega) hd hl)) ?_
    refine KT.nil ?_
    refine thenK_n ?_
    refine KC.seq ?_
    refine KC.region ?_
    refine KT.step rfl rfl (K.move rfl) ?_
    refine KT.step rfl rfl (K.assign rfl) ?_
    refine KT.nil ?_
    refine thenK_n ?_
    refine KC.ret ?_
    refine ⟨.inl rfl, _, rfl, ?_⟩
    have hlt := obj_lt h1
    exact deepen_cells (by simp [freezeAll, hlt]) rfl (by rw [List.length_map, sortM_len hd])
end Go.Proofs.Ytocgjopmlhpjdaa

