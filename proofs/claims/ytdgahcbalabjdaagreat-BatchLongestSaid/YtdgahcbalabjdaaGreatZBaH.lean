import Derived.Test.YtdgahcbalabjdaaGreatZBaG
/-
  Batch: orders by when operations start; the best order.
-/
namespace Go.Proofs.YtdgahcbalabjdaaGreat
open Go.Vm Go.Ht Go.Ba
theorem plainTryz_48 : plainFn Tryz.prog 48 = true := by kernel_rfl
theorem plainTryz_25 : plainFn Tryz.prog 25 = true := by kernel_rfl
theorem plainTryz_11 : plainFn Tryz.prog 11 = true := by kernel_rfl
set_option maxRecDepth 10000 in
theorem insNil {f : FuncId} {cs : List DV} : DeepCall Tryz.prog 106 [Dnil, DI 0, DI 0, (.fn (.func f) [] cs)] (.tup []) := by
  refine deepCall_K 5 Tryz.func106 rfl (Nat.le_of_ble_eq_true rfl) fun M W0 => ?_
  refine KC.seq ?_
  refine KC.region ?_
  refine KT.step rfl rfl (K.move rfl) ?_
  refine KT.step rfl rfl (K.add rfl rfl (wrap_id (by omega))) ?_
  refine KT.step rfl rfl (K.assign rfl) ?_
  refine KT.nil ?_
  refine thenK_n ?_
  refine KC.block ?_
  refine KC.loop (fun _ : Nat => []) (fun _ => [(2, .d (DI 0)), (8, .d (DI 1))]) (fun _ => True) (fun _ => 0) 0 trivial rfl (by simp [Go.Vm.look, extK, enterK]) ?_
  intro k hk
  refine KC.seq ?_
  refine KC.seq ?_
  refine KC.region ?_
  refine KT.step rfl rfl (K.move rfl) ?_
  refine KT.step rfl rfl (K.move rfl) ?_
  refine KT.step rfl rfl (K.lss rfl rfl) ?_
  refine KT.nil ?_
  refine thenK_n ?_
  refine KC.cond rfl (fun hc14 => ?_) (fun hc14 => ?_)
  · skip
    exact absurd hc14 (by decide)
  · skip
    replace hc14 := of_decide_eq_false hc14
    refine KC.exit ?_
    refine thenK_x ?_
    refine thenK_x ?_
    refine blockK_e ?_
    exact ⟨.inr rfl, _, rfl, rfl⟩
set_option maxRecDepth 10000 in
theorem pdqNil {z : Int} {f : FuncId} {cs : List DV} : DeepCall Tryz.prog 100 [Dnil, DI 0, DI 0, DI z, (.fn (.func f) [] cs)] (.tup []) := by
  refine deepCall_K 5 Tryz.func100 rfl (Nat.le_of_ble_eq_true rfl) fun M W0 => ?_
  refine KC.seq ?_
  refine KC.region ?_
  refine KT.step rfl rfl (K.assign rfl) ?_
  refine KT.nil ?_
  refine thenK_n ?_
  refine KC.seq ?_
  refine KC.region ?_
  refine KT.step rfl rfl (K.assign rfl) ?_
  refine KT.nil ?_
  refine thenK_n ?_
  refine KC.block ?_
  refine KC.loopN 1 ?_
  refine RK.succ ?_
  refine KC.block ?_
  refine KC.seq ?_
  refine KC.region ?_
  refine KT.step rfl rfl (K.move rfl) ?_
  refine KT.step rfl rfl (K.move rfl) ?_
  refine KT.step rfl rfl (K.sub rfl rfl (wrap_id (by omega))) ?_
  refine KT.step rfl rfl (K.assign rfl) ?_
  refine KT.nil ?_
  refine thenK_n ?_
  refine KC.seq ?_
  refine KC.seq ?_
  refine KC.region ?_
  refine KT.step rfl rfl (K.move rfl) ?_
  refine KT.step rfl rfl (K.leq rfl rfl) ?_
  refine KT.nil ?_
  refine thenK_n ?_
  refine KC.cond rfl (fun hc25 => ?_) (fun hc25 => ?_)
  · skip
    replace hc25 := of_decide_eq_true hc25
    refine KC.seq ?_
    refine KC.region ?_
    refine KT.step rfl rfl (K.move rfl) ?_
    refine KT.step rfl rfl (K.move rfl) ?_
    refine KT.step rfl rfl (K.move rfl) ?_
    refine KT.step rfl rfl (K.move rfl) ?_
    refine KT.step rfl rfl (K.call4 rfl rfl rfl rfl plainTryz_106 (insNil)) ?_
    refine KT.nil ?_
    refine thenK_n ?_
    refine KC.ret ?_
    refine thenK_r ?_
    refine blockK_r ?_
    refine thenK_r ?_
    refine blockK_r ?_
    exact ⟨.inl rfl, _, rfl, rfl⟩
  · skip
    exact absurd (show (0 : Int) - 0 ≤ 12 by decide) (of_decide_eq_false hc25)
set_option maxRecDepth 10000 in
theorem pdq111 {z : Int} {σ : List VObj} {id lo : Nat} {ex : Bool} {zs : List Int} {f : FuncId} {cs : List DV} {c : Int → Int → Int} (hp : plainFn Tryz.prog f = true) (hc : ∀ x y, x ∈ zs → y ∈ zs → DeepCall Tryz.prog f ([DI x, DI y] ++ cs) (DI (c x y))) (ho : σ[id]? = some ⟨xs zs, 0⟩) (hn : zs.length ≤ 12) : OwnCall Tryz.prog 100 σ [.osl id 0 zs.length 1 lo ex, .d (DI 0), .d (DI (zs.length : Nat)), .d (DI z), .d (.fn (.func f) [] cs)] (σ.set id ⟨xs (insS c zs), 0⟩) (.tup []) := by
  refine ownCall_K Tryz.func100 rfl (Nat.le_of_ble_eq_true rfl) fun M W0 => ?_
  refine KC.seq ?_
  refine KC.region ?_
  refine KT.step rfl rfl (K.assign rfl) ?_
  refine KT.nil ?_
  refine thenK_n ?_
  refine KC.seq ?_
  refine KC.region ?_
  refine KT.step rfl rfl (K.assign rfl) ?_
  refine KT.nil ?_
  refine thenK_n ?_
  refine KC.block ?_
  refine KC.loopN 1 ?_
  refine RK.succ ?_
  refine KC.block ?_
  refine KC.seq ?_
  refine KC.region ?_
  refine KT.step rfl rfl (K.move rfl) ?_
  refine KT.step rfl rfl (K.move rfl) ?_
  refine KT.step rfl rfl (K.sub rfl rfl (wrap_id (by omega))) ?_
  refine KT.step rfl rfl (K.assign rfl) ?_
  refine KT.nil ?_
  refine thenK_n ?_
  refine KC.seq ?_
  refine KC.seq ?_
  refine KC.region ?_
  refine KT.step rfl rfl (K.move rfl) ?_
  refine KT.step rfl rfl (K.leq rfl rfl) ?_
  refine KT.nil ?_
  refine thenK_n ?_
  refine KC.cond rfl (fun hc25 => ?_) (fun hc25 => ?_)
  · skip
    replace hc25 := of_decide_eq_true hc25
    refine KC.seq ?_
    refine KC.region ?_
    refine KT.step rfl rfl (K.move rfl) ?_
    refine KT.step rfl rfl (K.move rfl) ?_
    refine KT.step rfl rfl (K.move rfl) ?_
    refine KT.step rfl rfl (K.move rfl) ?_
    refine KT.step rfl rfl (K.callO rfl plainTryz_106 (insertion126 hp hc ho hn)) ?_
    refine KT.nil ?_
    refine thenK_n ?_
    refine KC.ret ?_
    refine thenK_r ?_
    refine blockK_r ?_
    refine thenK_r ?_
    refine blockK_r ?_
    exact ⟨.inl rfl, rfl, rfl⟩
  · skip
    exact absurd (show ((zs.length : Nat) : Int) - 0 ≤ 12 by omega) (of_decide_eq_false hc25)
theorem bitsLen : ∀ n : Nat, n ≤ 12 → ∃ z : Int, DeepCall Tryz.prog 77 [.lit (.int .u64 (n : Nat))] (DI z)
  | 0, _ => ⟨0, runFn_sound (inl := fun f => f == 9999) (len := 3000) (k := 60) (f := 77) Tryz.mixed (by kernel_rfl)⟩
  | 1, _ => ⟨1, runFn_sound (inl := fun f => f == 9999) (len := 3000) (k := 60) (f := 77) Tryz.mixed (by kernel_rfl)⟩
  | 2, _ => ⟨2, runFn_sound (inl := fun f => f == 9999) (len := 3000) (k := 60) (f := 77) Tryz.mixed (by kernel_rfl)⟩
  | 3, _ => ⟨2, runFn_sound (inl := fun f => f == 9999) (len := 3000) (k := 60) (f := 77) Tryz.mixed (by kernel_rfl)⟩
  | 4, _ => ⟨3, runFn_sound (inl := fun f => f == 9999) (len := 3000) (k := 60) (f := 77) Tryz.mixed (by kernel_rfl)⟩
  | 5, _ => ⟨3, runFn_sound (inl := fun f => f == 9999) (len := 3000) (k := 60) (f := 77) Tryz.mixed (by kernel_rfl)⟩
  | 6, _ => ⟨3, runFn_sound (inl := fun f => f == 9999) (len := 3000) (k := 60) (f := 77) Tryz.mixed (by kernel_rfl)⟩
  | 7, _ => ⟨3, runFn_sound (inl := fun f => f == 9999) (len := 3000) (k := 60) (f := 77) Tryz.mixed (by kernel_rfl)⟩
  | 8, _ => ⟨4, runFn_sound (inl := fun f => f == 9999) (len := 3000) (k := 60) (f := 77) Tryz.mixed (by kernel_rfl)⟩
  | 9, _ => ⟨4, runFn_sound (inl := fun f => f == 9999) (len := 3000) (k := 60) (f := 77) Tryz.mixed (by kernel_rfl)⟩
  | 10, _ => ⟨4, runFn_sound (inl := fun f => f == 9999) (len := 3000) (k := 60) (f := 77) Tryz.mixed (by kernel_rfl)⟩
  | 11, _ => ⟨4, runFn_sound (inl := fun f => f == 9999) (len := 3000) (k := 60) (f := 77) Tryz.mixed (by kernel_rfl)⟩
  | 12, _ => ⟨4, runFn_sound (inl := fun f => f == 9999) (len := 3000) (k := 60) (f := 77) Tryz.mixed (by kernel_rfl)⟩
  | n + 13, h => absurd h (by omega)
set_option maxRecDepth 10000 in
theorem sortFnil {f : FuncId} {cs : List DV} : DeepCall Tryz.prog 84 [Dnil, (.fn (.func f) [] cs)] (.tup []) := by
  obtain ⟨z, hz⟩ := bitsLen 0 (by decide)
  refine deepCall_K 5 Tryz.func84 rfl (Nat.le_of_ble_eq_true rfl) fun M W0 => ?_
  refine KC.seq ?_
  refine KC.region ?_
  refine KT.step rfl rfl (K.move rfl) ?_
  refine KT.step rfl rfl (K.len (R := fun _ (_ : Nat) => True) (l := []) rfl .nil Tryz.underlying36) ?_
  refine KT.step rfl rfl (K.assign rfl) ?_
  refine KT.nil ?_
  refine thenK_n ?_
  refine KC.region ?_
  refine KT.step rfl rfl (K.move rfl) ?_
  refine KT.step rfl rfl (K.move rfl) ?_
  refine KT.step rfl rfl (K.move rfl) ?_
  refine KT.step rfl rfl (K.conv rfl Tryz.underlying3 Tryz.underlying113 rfl) ?_
  refine KT.step rfl rfl (K.call1 rfl plainTryz_77 (hz)) ?_
  refine KT.step rfl rfl (K.move rfl) ?_
  refine KT.step rfl rfl (K.call5 rfl rfl rfl rfl rfl plainTryz_100 (pdqNil)) ?_
  refine KT.nil ?_
  exact ⟨.inr rfl, _, rfl, rfl⟩
set_option maxRecDepth 10000 in
theorem sortFn96 {σ : List VObj} {id lo : Nat} {ex : Bool} {zs : List Int} {f : FuncId} {cs : List DV} {c : Int → Int → Int} (hp : plainFn Tryz.prog f = true) (hc : ∀ x y, x ∈ zs → y ∈ zs → DeepCall Tryz.prog f ([DI x, DI y] ++ cs) (DI (c x y))) (ho : σ[id]? = some ⟨xs zs, 0⟩) (hn : zs.length ≤ 12) : OwnCall Tryz.prog 84 σ [.osl id 0 zs.length 1 lo ex, .d (.fn (.func f) [] cs)] (σ.set id ⟨xs (insS c zs), 0⟩) (.tup []) := by
  obtain ⟨z, hz⟩ := bitsLen zs.length hn
  refine ownCall_K Tryz.func84 rfl (Nat.le_of_ble_eq_true rfl) fun M W0 => ?_
  refine KC.seq ?_
  refine KC.region ?_
  refine KT.step rfl rfl (K.move rfl) ?_
  refine KT.step rfl rfl (K.lenO rfl Tryz.underlying36) ?_
  refine KT.step rfl rfl (K.assign rfl) ?_
  refine KT.nil ?_
  refine thenK_n ?_
  refine KC.region ?_
  refine KT.step rfl rfl (K.move rfl) ?_
  refine KT.step rfl rfl (K.move rfl) ?_
  refine KT.step rfl rfl (K.move rfl) ?_
  refine KT.step rfl rfl (K.conv (c := ((zs.length : Nat) : Int)) rfl Tryz.underlying3 Tryz.underlying113 (by rw [wrapU, Nat.mod_eq_of_lt (by omega)])) ?_
  refine KT.step rfl rfl (K.call1 rfl plainTryz_77 (hz)) ?_
  refine KT.step rfl rfl (K.move rfl) ?_
  refine KT.step rfl rfl (K.callO rfl plainTryz_100 (pdq111 hp hc ho hn)) ?_
  refine KT.nil ?_
  exact ⟨.inr rfl, rfl, rfl⟩
set_option maxRecDepth 10000 in
theorem sortedFnil {d : DV} {f : FuncId} {cs : List DV} (hd : Ints d []) : DeepCall Tryz.prog 69 [.fn (.func 62) [] [.ptr [d]], (.fn (.func f) [] cs)] Dnil := by
  refine deepCall_K 5 Tryz.func69 rfl (Nat.le_of_ble_eq_true rfl) fun M W0 => ?_
  refine KC.seq ?_
  refine KC.region ?_
  refine KT.step rfl rfl (K.assign rfl) ?_
  refine KT.nil ?_
  refine thenK_n ?_
  refine KC.seq ?_
  refine KC.regionL ?_
  refine KL.step rfl rfl (K.move rfl) ?_
  refine KL.call rfl rfl rfl rfl rfl plainTryz_60 (collect95 hd (by simp)) fun σ2 x2 hr => ?_
  obtain rfl := hr.2.2.2 rfl
  refine KL.step rfl rfl (K.assign rfl) ?_
  refine KL.nil ?_
  refine thenK_n ?_
  refine KC.seq ?_
  refine KC.region ?_
  refine KT.step rfl rfl (K.move rfl) ?_
  refine KT.step rfl rfl (K.move rfl) ?_
  refine KT.step rfl rfl (K.call2 rfl rfl plainTryz_84 (sortFnil)) ?_
  refine KT.nil ?_
  refine thenK_n ?_
  refine KC.seq ?_
  refine KC.region ?_
  refine KT.step rfl rfl (K.move rfl) ?_
  refine KT.step rfl rfl (K.assign rfl) ?_
  refine KT.nil ?_
  refine thenK_n ?_
  refine KC.ret ?_
  exact ⟨.inl rfl, _, rfl, fin_d rfl⟩
set_option maxRecDepth 10000 in
theorem sortedFcons {d : DV} {zs : List Int} {f : FuncId} {cs : List DV} {c : Int → Int → Int} (hp : plainFn Tryz.prog f = true) (hc : ∀ x y, x ∈ zs → y ∈ zs → DeepCall Tryz.prog f ([DI x, DI y] ++ cs) (DI (c x y))) (hd : Ints d zs) (hn : zs.length ≤ 12) (hne : zs ≠ []) : DeepCall Tryz.prog 69 [.fn (.func 62) [] [.ptr [d]], (.fn (.func f) [] cs)] (intsV (insS c zs)) := by
  refine deepCall_K 5 Tryz.func69 rfl (Nat.le_of_ble_eq_true rfl) fun M W0 => ?_
  refine KC.seq ?_
  refine KC.region ?_
  refine KT.step rfl rfl (K.assign rfl) ?_
  refine KT.nil ?_
  refine thenK_n ?_
  refine KC.seq ?_
  refine KC.regionL ?_
  refine KL.step rfl rfl (K.move rfl) ?_
  refine KL.call rfl rfl rfl rfl rfl plainTryz_60 (collect95 hd (by omega)) fun σ2 x2 hr => ?_
  obtain ⟨id, rfl, hs⟩ := own_xs2 hr.2.1 hne
  refine KL.step rfl rfl (K.assign rfl) ?_
  refine KL.nil ?_
  refine thenK_n ?_
  refine KC.seq ?_
  refine KC.region ?_
  refine KT.step rfl rfl (K.move rfl) ?_
  refine KT.step rfl rfl (K.move rfl) ?_
  refine KT.step rfl rfl (K.callO rfl plainTryz_84 (sortFn96 hp hc hs hn)) ?_
  refine KT.nil ?_
  refine thenK_n ?_
  refine KC.seq ?_
  refine KC.region ?_
  refine KT.step rfl rfl (K.move rfl) ?_
  refine KT.step rfl rfl (K.assign rfl) ?_
  refine KT.nil ?_
  refine thenK_n ?_
  refine KC.ret ?_
  exact ⟨.inl rfl, _, rfl, own_put hs (insS_len c zs) hne⟩
theorem sortedF73 {d : DV} {zs : List Int} {f : FuncId} {cs : List DV} {c : Int → Int → Int} (hp : plainFn Tryz.prog f = true) (hc : ∀ x y, x ∈ zs → y ∈ zs → DeepCall Tryz.prog f ([DI x, DI y] ++ cs) (DI (c x y))) (hd : Ints d zs) (hn : zs.length ≤ 12) : DeepCall Tryz.prog 69 [.fn (.func 62) [] [.ptr [d]], (.fn (.func f) [] cs)] (intsV (insS c zs)) := by
  by_cases h : zs = []
  · subst h; exact sortedFnil hd
  · exact sortedFcons hp hc hd hn h
/-- The order by when operations start. -/
def ordO (hs : List Int) (ms : List (List Int)) : List (List Int) := ms.map (insS (fun x y => cmpI (gt hs x) (gt hs y)))
def ordV (hs : List Int) (ms : List (List Int)) : DV := match ms with | [] => Dnil | _ => .sl ((ordO hs ms).map intsV) ms.length none
theorem own_rows {σ : List VObj} {x : XV} {k : Nat} {hs : List Int} {ms : List (List Int)} (h : OwnK 1 σ x (ms.map fun l => XV.d (intsV (insS (fun x y => cmpI (gt hs x) (gt hs y)) l)))) (hne : ms = [] → x = .d Dnil) : deepen (freezeAll σ) (k + 2) x = some (ordV hs ms) := by
  cases ms with
  | nil => rw [hne rfl]; rfl
  | cons a ms =>
    generalize hc : (a :: ms).map (fun l => XV.d (intsV (insS (fun x y => cmpI (gt hs x) (gt hs y)) l))) = cs at h
    have hcl := congrArg List.length hc
    rw [List.length_map] at hcl
    cases h with
    | nil => simp at hcl
    | @sl id n cells h hn =>
      subst hc
      rw [List.length_map, Nat.mul_one] at hn
      subst hn
      have e : (a :: ms).map (fun l => XV.d (intsV (insS (fun x y => cmpI (gt hs x) (gt hs y)) l))) = ((ordO hs (a :: ms)).map intsV).map .d := by simp [ordO]
      rw [e] at h
      have f2 : (freezeAll σ)[id]? = some ⟨((ordO hs (a :: ms)).map intsV).map .d, 1⟩ := by simp [freezeAll, h]
      rw [deepen_osl f2 rfl (by simp [ordO]), List.drop_zero, Nat.mul_one, List.take_of_length_le (by simp [ordO]), mapM_deep]; rfl
theorem intsV_sld (l : List Int) : SlD (intsV l) := SlD.of (intsV_ok l)
theorem freezeIds_one {σ : List VObj} {id md : Nat} {cs : List XV} (h : σ[id]? = some ⟨cs, md⟩) (hm : md < 2) : (freezeIds σ [id])[id]? = some ⟨cs, 1⟩ := by
  unfold freezeIds
  rw [List.getElem?_mapIdx, h]
  match md, hm with
  | 0, _ => simp
  | 1, _ => simp
theorem dfn1 {σ : List VObj} {x : DV} : deepen σ 9 (.d x) = some x := rfl
theorem dfn2 {σ : List VObj} {id md f : Nat} {s : DV} (h : σ[id]? = some ⟨[.d s], md⟩) (hm : md < 2) : deepen (freezeIds σ [id]) 9 (.fn (.func f) [] [.optr id 0]) = some (.fn (.func f) [] [.ptr [s]]) := by
  have h1 := freezeIds_one h hm
  have e : deepen (freezeIds σ [id]) 8 (.optr id 0) = some (.ptr [s]) := by
    unfold deepen
    simp only [h1]
    simp only [if_true]; rfl
  unfold deepen
  simp only [List.mapM_cons, List.mapM_nil, e]
  rfl
set_option maxHeartbeats 1000000 in
set_option maxRecDepth 10000 in
theorem orderBy51 {a b c s : DV} {ms : List (List Int)} {hs : List Int} (hc : Mat c ms) (hs_ : Ints s hs) (h4 : ms.length ≤ 4) (h9 : ∀ l ∈ ms, l.length ≤ 9 ∧ ∀ x ∈ l, 0 ≤ x ∧ x < hs.length) : DeepCall Tryz.prog 48 [.agg [a, b, c], s] (ordV hs ms) := by
  refine deepCall_K 5 Tryz.func48 rfl (Nat.le_of_ble_eq_true rfl) fun M W0 => ?_
  refine KC.seq ?_
  refine KC.region ?_
  refine KT.step rfl rfl (K.box rfl) ?_
  refine KT.step rfl rfl (K.box rfl) ?_
  refine KT.step rfl rfl (K.assign rfl) ?_
  refine KT.nil ?_
  refine thenK_n ?_
  refine KC.seq ?_
  refine KC.region ?_
  refine KT.step rfl rfl (K.assign rfl) ?_
  refine KT.nil ?_
  refine thenK_n ?_
  refine KC.seq ?_
  refine KC.seq ?_
  refine KC.region ?_
  refine KT.step rfl rfl (K.fieldAddrO rfl Tryz.fld47_2 Tryz.size25) ?_
  refine KT.step rfl rfl (K.loadO rfl rfl (by simp) rfl Tryz.agg25) ?_
  refine KT.step rfl rfl (K.len rfl hc Tryz.underlying25) ?_
  refine KT.step rfl rfl (K.move rfl) ?_
  refine KT.nil ?_
  refine thenK_n ?_
  refine KC.block ?_
  refine KC.loop (fun p : List VObj × XV × Nat × Nat => p.1) (fun p => [(3, .optr 1 0), (5, p.2.1), (9, .d c), (10, .d (DI (ms.length : Nat))), (11, .d (DI (p.2.2.1 : Nat)))]) (fun p => p.2.2.1 ≤ ms.length ∧ p.1[1]? = some ⟨[.d s], p.2.2.2⟩ ∧ p.2.2.2 < 2 ∧ OwnK 1 p.1 p.2.1 ((ms.take p.2.2.1).map fun l => XV.d (intsV (insS (fun x y => cmpI (gt hs x) (gt hs y)) l))) ∧ (∀ j, idX p.2.1 = some j → 2 ≤ j) ∧ (ms.take p.2.2.1 = [] → p.2.1 = .d Dnil)) (fun p => ms.length - p.2.2.1) (_, .d Dnil, 0, 0) ⟨Nat.zero_le _, (by have := (SlD.of hs_).cells; simp [this]), (show (0 : Nat) < 2 by decide), .nil, (fun j hj => by cases hj), fun _ => rfl⟩ rfl (by simp [Go.Vm.look, extK, enterK]) ?_
  intro p hp
  obtain ⟨σ0, x0, k, md⟩ := p
  obtain ⟨hk, y1, hm, o, dj, hn⟩ := hp
  simp only at hk y1 hm o dj hn ⊢
  refine KC.seq ?_
  refine KC.region ?_
  refine KT.step rfl rfl (K.lss rfl rfl) ?_
  refine KT.nil ?_
  refine thenK_n ?_
  refine KC.seq ?_
  refine KC.cond rfl (fun hc12 => ?_) (fun hc12 => ?_)
  · skip
    replace hc12 := of_decide_eq_true hc12
    have hkl : k < ms.length := by omega
    have z1 := freezeIds_one y1 hm
    have o1 : OwnK 1 (freezeIds σ0 [1]) x0 ((ms.take k).map fun l => XV.d (intsV (insS (fun x y => cmpI (gt hs x) (gt hs y)) l))) := o.keep fun j hj => freezeIds_not (by have := dj j hj; simp; omega)
    have hfl : (freezeIds σ0 [1]).length = σ0.length := by simp [freezeIds]
    refine KC.skip ?_
    refine thenK_n ?_
    refine KC.seq ?_
    refine KC.block ?_
    refine KC.seq ?_
    refine KC.region ?_
    refine KT.idx rfl rfl rfl hc rfl (by omega) Tryz.underlying25 Tryz.size36 fun c13 cs13 hr => ?_
    refine KT.step rfl rfl (K.load rfl Tryz.agg36) ?_
    refine KT.step rfl rfl (K.assign rfl) ?_
    refine KT.nil ?_
    refine thenK_n ?_
    refine KC.region ?_
    refine KT.step rfl rfl (K.move rfl) ?_
    refine KT.step rfl rfl (K.move rfl) ?_
    refine KT.step rfl rfl (K.call1 rfl plainTryz_34 (values74 (SlD.of hr))) ?_
    refine KT.step rfl rfl (K.makeF (xs := [.optr 1 0]) (m := 0) rfl rfl rfl rfl) ?_
    refine KT.step rfl rfl (K.callZ (xs := [.d (.fn (.func 62) [] [.ptr [c13]]), .fn (.func 70) [] [.optr 1 0]]) (ds := [.fn (.func 62) [] [.ptr [c13]], .fn (.func 70) [] [.ptr [s]]]) [1] 9 rfl plainTryz_69 (by rw [List.mapM_cons, List.mapM_cons]; simp only [dfn1, dfn2 y1 hm]; rfl) (sortedF73 (zs := ms[k]) (c := fun x y => cmpI (gt hs x) (gt hs y)) plainTryz_70 (fun x y hx hy => byStart75 hs_ ((h9 _ (List.getElem_mem hkl)).2 x hx) ((h9 _ (List.getElem_mem hkl)).2 y hy)) hr (by have := (h9 _ (List.getElem_mem hkl)).1; omega))) ?_
    refine KT.step rfl rfl (K.buildC (k := 1) (cs := [.d (intsV (insS (fun x y => cmpI (gt hs x) (gt hs y)) ms[k]))]) rfl (intsV_sld _).cells rfl Tryz.underlying25 Tryz.size36 Tryz.one36.zero (by decide)) ?_
    refine KT.appK (k := 1) rfl rfl rfl rfl (o1.pushed _) (List.getElem?_concat_length ..) rfl (by simp [(intsV_sld _).one]) (by rw [List.length_map, List.length_take]; omega) Tryz.underlying25 Tryz.size36 (of_decide_eq_true (by kernel_rfl)) (by kernel_rfl) (by decide) fun σ3 x3 ho3 k3 w3 => ?_
    obtain ⟨j3, w4, w5⟩ := w3
    rw [List.length_append] at w5
    refine KT.step rfl rfl (K.assign rfl) ?_
    refine KT.nil ?_
    refine blockK_n ?_
    refine thenK_n ?_
    refine KC.region ?_
    refine KT.step rfl rfl (K.add rfl rfl (wrap_id (by omega))) ?_
    refine KT.step rfl rfl (K.move rfl) ?_
    refine KT.nil ?_
    refine thenK_n ?_
    refine ⟨(σ3, x3, k + 1, 1), ⟨by simp only; omega, ?_, (show (1 : Nat) < 2 by decide), ?_, fun j hj => ?_, fun h => ?_⟩, by simp only; omega, rfl, by simp [Go.Vm.look, extK]⟩
    · exact (k3 1 (fun h => by have := dj _ h; omega) (by rw [List.length_append]; have := lt_of_get y1; omega)).trans (get_left z1)
    · simp only
      rw [List.take_succ_eq_append_getElem hkl, List.map_append]
      exact ho3
    · rw [w4] at hj; cases hj; have := lt_of_get y1; omega
    · have h2 := congrArg List.length h
      simp only [List.length_take, List.length_nil] at h2; omega
  · skip
    replace hc12 := of_decide_eq_false hc12
    refine KC.exit ?_
    refine thenK_x ?_
    refine thenK_x ?_
    refine blockK_e ?_
    refine thenK_n ?_
    refine KC.seq ?_
    refine KC.region ?_
    refine KT.step rfl rfl (K.move rfl) ?_
    refine KT.step rfl rfl (K.assign rfl) ?_
    refine KT.nil ?_
    refine thenK_n ?_
    refine KC.ret ?_
    have et : ms.take k = ms := List.take_of_length_le (by omega)
    rw [et] at o hn
    exact ⟨.inl rfl, _, rfl, own_rows o hn⟩
end Go.Proofs.YtdgahcbalabjdaaGreat

