import Derived.Test.YtdilkpcnkhedlaaBaG
/-
  Batch: orders by when operations start; the best order.
-/
namespace Go.Proofs.Ytdilkpcnkhedlaa
open Go.Vm Go.Ht Go.Ba
theorem plainTry_54 : plainFn Try.prog 54 = true := by kernel_rfl
theorem plainTry_24 : plainFn Try.prog 24 = true := by kernel_rfl
theorem plainTry_23 : plainFn Try.prog 23 = true := by kernel_rfl
set_option maxRecDepth 10000 in
theorem insNil {f : FuncId} {cs : List DV} : DeepCall Try.prog 150 [Dnil, DI 0, DI 0, (.fn (.func f) [] cs)] (.tup []) := by
  refine deepCall_K 5 Try.func150 rfl (Nat.le_of_ble_eq_true rfl) fun M W0 => ?_
  refine KC.seq ?_
  refine KC.region ?_
  refine KT.step rfl rfl (K.move rfl) ?_
  refine KT.step rfl rfl (K.add rfl rfl (wrap_id (by omega))) ?_
  refine KT.step rfl rfl (K.assign rfl) ?_
  refine KT.nil ?_
  refine thenK_n ?_
  refine KC.block ?_
  refine KC.loop (fun _ : Nat => []) (fun _ => [(2, .d (DI 0)), (8, .d (DI 1))]) (fun _ => True) (fun _ => 0) 0 trivial rfl (by simp [Go.Vm.look, extK, enterK]) ?_
  intro k hk
  refine KC.seq ?_
  refine KC.seq ?_
  refine KC.region ?_
  refine KT.step rfl rfl (K.move rfl) ?_
  refine KT.step rfl rfl (K.move rfl) ?_
  refine KT.step rfl rfl (K.lss rfl rfl) ?_
  refine KT.nil ?_
  refine thenK_n ?_
  refine KC.cond rfl (fun hc14 => ?_) (fun hc14 => ?_)
  · skip
    exact absurd hc14 (by decide)
  · skip
    replace hc14 := of_decide_eq_false hc14
    refine KC.exit ?_
    refine thenK_x ?_
    refine thenK_x ?_
    refine blockK_e ?_
    exact ⟨.inr rfl, _, rfl, rfl⟩
set_option maxRecDepth 10000 in
theorem pdqNil {z : Int} {f : FuncId} {cs : List DV} : DeepCall Try.prog 132 [Dnil, DI 0, DI 0, DI z, (.fn (.func f) [] cs)] (.tup []) := by
  refine deepCall_K 5 Try.func132 rfl (Nat.le_of_ble_eq_true rfl) fun M W0 => ?_
  refine KC.seq ?_
  refine KC.region ?_
  refine KT.step rfl rfl (K.assign rfl) ?_
  refine KT.nil ?_
  refine thenK_n ?_
  refine KC.seq ?_
  refine KC.region ?_
  refine KT.step rfl rfl (K.assign rfl) ?_
  refine KT.nil ?_
  refine thenK_n ?_
  refine KC.block ?_
  refine KC.loopN 1 ?_
  refine RK.succ ?_
  refine KC.block ?_
  refine KC.seq ?_
  refine KC.region ?_
  refine KT.step rfl rfl (K.move rfl) ?_
  refine KT.step rfl rfl (K.move rfl) ?_
  refine KT.step rfl rfl (K.sub rfl rfl (wrap_id (by omega))) ?_
  refine KT.step rfl rfl (K.assign rfl) ?_
  refine KT.nil ?_
  refine thenK_n ?_
  refine KC.seq ?_
  refine KC.seq ?_
  refine KC.region ?_
  refine KT.step rfl rfl (K.move rfl) ?_
  refine KT.step rfl rfl (K.leq rfl rfl) ?_
  refine KT.nil ?_
  refine thenK_n ?_
  refine KC.cond rfl (fun hc25 => ?_) (fun hc25 => ?_)
  · skip
    replace hc25 := of_decide_eq_true hc25
    refine KC.seq ?_
    refine KC.region ?_
    refine KT.step rfl rfl (K.move rfl) ?_
    refine KT.step rfl rfl (K.move rfl) ?_
    refine KT.step rfl rfl (K.move rfl) ?_
    refine KT.step rfl rfl (K.move rfl) ?_
    refine KT.step rfl rfl (K.call4 rfl rfl rfl rfl plainTry_150 (insNil)) ?_
    refine KT.nil ?_
    refine thenK_n ?_
    refine KC.ret ?_
    refine thenK_r ?_
    refine blockK_r ?_
    refine thenK_r ?_
    refine blockK_r ?_
    exact ⟨.inl rfl, _, rfl, rfl⟩
  · skip
    exact absurd (show (0 : Int) - 0 ≤ 12 by decide) (of_decide_eq_false hc25)
set_option maxRecDepth 10000 in
theorem pdq132 {z : Int} {σ : List VObj} {id lo : Nat} {ex : Bool} {zs : List Int} {f : FuncId} {cs : List DV} {c : Int → Int → Int} (hp : plainFn Try.prog f = true) (hc : ∀ x y, x ∈ zs → y ∈ zs → DeepCall Try.prog f ([DI x, DI y] ++ cs) (DI (c x y))) (ho : σ[id]? = some ⟨xs zs, 0⟩) (hn : zs.length ≤ 12) : OwnCall Try.prog 132 σ [.osl id 0 zs.length 1 lo ex, .d (DI 0), .d (DI (zs.length : Nat)), .d (DI z), .d (.fn (.func f) [] cs)] (σ.set id ⟨xs (insS c zs), 0⟩) (.tup []) := by
  refine ownCall_K Try.func132 rfl (Nat.le_of_ble_eq_true rfl) fun M W0 => ?_
  refine KC.seq ?_
  refine KC.region ?_
  refine KT.step rfl rfl (K.assign rfl) ?_
  refine KT.nil ?_
  refine thenK_n ?_
  refine KC.seq ?_
  refine KC.region ?_
  refine KT.step rfl rfl (K.assign rfl) ?_
  refine KT.nil ?_
  refine thenK_n ?_
  refine KC.block ?_
  refine KC.loopN 1 ?_
  refine RK.succ ?_
  refine KC.block ?_
  refine KC.seq ?_
  refine KC.region ?_
  refine KT.step rfl rfl (K.move rfl) ?_
  refine KT.step rfl rfl (K.move rfl) ?_
  refine KT.step rfl rfl (K.sub rfl rfl (wrap_id (by omega))) ?_
  refine KT.step rfl rfl (K.assign rfl) ?_
  refine KT.nil ?_
  refine thenK_n ?_
  refine KC.seq ?_
  refine KC.seq ?_
  refine KC.region ?_
  refine KT.step rfl rfl (K.move rfl) ?_
  refine KT.step rfl rfl (K.leq rfl rfl) ?_
  refine KT.nil ?_
  refine thenK_n ?_
  refine KC.cond rfl (fun hc25 => ?_) (fun hc25 => ?_)
  · skip
    replace hc25 := of_decide_eq_true hc25
    refine KC.seq ?_
    refine KC.region ?_
    refine KT.step rfl rfl (K.move rfl) ?_
    refine KT.step rfl rfl (K.move rfl) ?_
    refine KT.step rfl rfl (K.move rfl) ?_
    refine KT.step rfl rfl (K.move rfl) ?_
    refine KT.step rfl rfl (K.callO rfl plainTry_150 (insertion150 hp hc ho hn)) ?_
    refine KT.nil ?_
    refine thenK_n ?_
    refine KC.ret ?_
    refine thenK_r ?_
    refine blockK_r ?_
    refine thenK_r ?_
    refine blockK_r ?_
    exact ⟨.inl rfl, rfl, rfl⟩
  · skip
    exact absurd (show ((zs.length : Nat) : Int) - 0 ≤ 12 by omega) (of_decide_eq_false hc25)
theorem bitsLen : ∀ n : Nat, n ≤ 12 → ∃ z : Int, DeepCall Try.prog 117 [.lit (.int .u64 (n : Nat))] (DI z)
  | 0, _ => ⟨0, runFn_sound (inl := fun f => f == 9999) (len := 3000) (k := 60) (f := 117) Try.mixed (by kernel_rfl)⟩
  | 1, _ => ⟨1, runFn_sound (inl := fun f => f == 9999) (len := 3000) (k := 60) (f := 117) Try.mixed (by kernel_rfl)⟩
  | 2, _ => ⟨2, runFn_sound (inl := fun f => f == 9999) (len := 3000) (k := 60) (f := 117) Try.mixed (by kernel_rfl)⟩
  | 3, _ => ⟨2, runFn_sound (inl := fun f => f == 9999) (len := 3000) (k := 60) (f := 117) Try.mixed (by kernel_rfl)⟩
  | 4, _ => ⟨3, runFn_sound (inl := fun f => f == 9999) (len := 3000) (k := 60) (f := 117) Try.mixed (by kernel_rfl)⟩
  | 5, _ => ⟨3, runFn_sound (inl := fun f => f == 9999) (len := 3000) (k := 60) (f := 117) Try.mixed (by kernel_rfl)⟩
  | 6, _ => ⟨3, runFn_sound (inl := fun f => f == 9999) (len := 3000) (k := 60) (f := 117) Try.mixed (by kernel_rfl)⟩
  | 7, _ => ⟨3, runFn_sound (inl := fun f => f == 9999) (len := 3000) (k := 60) (f := 117) Try.mixed (by kernel_rfl)⟩
  | 8, _ => ⟨4, runFn_sound (inl := fun f => f == 9999) (len := 3000) (k := 60) (f := 117) Try.mixed (by kernel_rfl)⟩
  | 9, _ => ⟨4, runFn_sound (inl := fun f => f == 9999) (len := 3000) (k := 60) (f := 117) Try.mixed (by kernel_rfl)⟩
  | 10, _ => ⟨4, runFn_sound (inl := fun f => f == 9999) (len := 3000) (k := 60) (f := 117) Try.mixed (by kernel_rfl)⟩
  | 11, _ => ⟨4, runFn_sound (inl := fun f => f == 9999) (len := 3000) (k := 60) (f := 117) Try.mixed (by kernel_rfl)⟩
  | 12, _ => ⟨4, runFn_sound (inl := fun f => f == 9999) (len := 3000) (k := 60) (f := 117) Try.mixed (by kernel_rfl)⟩
  | n + 13, h => absurd h (by omega)
set_option maxRecDepth 10000 in
theorem sortFnil {f : FuncId} {cs : List DV} : DeepCall Try.prog 113 [Dnil, (.fn (.func f) [] cs)] (.tup []) := by
  obtain ⟨z, hz⟩ := bitsLen 0 (by decide)
  refine deepCall_K 5 Try.func113 rfl (Nat.le_of_ble_eq_true rfl) fun M W0 => ?_
  refine KC.seq ?_
  refine KC.region ?_
  refine KT.step rfl rfl (K.move rfl) ?_
  refine KT.step rfl rfl (K.len (R := fun _ (_ : Nat) => True) (l := []) rfl .nil Try.underlying26) ?_
  refine KT.step rfl rfl (K.assign rfl) ?_
  refine KT.nil ?_
  refine thenK_n ?_
  refine KC.region ?_
  refine KT.step rfl rfl (K.move rfl) ?_
  refine KT.step rfl rfl (K.move rfl) ?_
  refine KT.step rfl rfl (K.move rfl) ?_
  refine KT.step rfl rfl (K.conv rfl Try.underlying3 Try.underlying75 rfl) ?_
  refine KT.step rfl rfl (K.call1 rfl plainTry_117 (hz)) ?_
  refine KT.step rfl rfl (K.move rfl) ?_
  refine KT.step rfl rfl (K.call5 rfl rfl rfl rfl rfl plainTry_132 (pdqNil)) ?_
  refine KT.nil ?_
  exact ⟨.inr rfl, _, rfl, rfl⟩
set_option maxRecDepth 10000 in
theorem sortFn113 {σ : List VObj} {id lo : Nat} {ex : Bool} {zs : List Int} {f : FuncId} {cs : List DV} {c : Int → Int → Int} (hp : plainFn Try.prog f = true) (hc : ∀ x y, x ∈ zs → y ∈ zs → DeepCall Try.prog f ([DI x, DI y] ++ cs) (DI (c x y))) (ho : σ[id]? = some ⟨xs zs, 0⟩) (hn : zs.length ≤ 12) : OwnCall Try.prog 113 σ [.osl id 0 zs.length 1 lo ex, .d (.fn (.func f) [] cs)] (σ.set id ⟨xs (insS c zs), 0⟩) (.tup []) := by
  obtain ⟨z, hz⟩ := bitsLen zs.length hn
  refine ownCall_K Try.func113 rfl (Nat.le_of_ble_eq_true rfl) fun M W0 => ?_
  refine KC.seq ?_
  refine KC.region ?_
  refine KT.step rfl rfl (K.move rfl) ?_
  refine KT.step rfl rfl (K.lenO rfl Try.underlying26) ?_
  refine KT.step rfl rfl (K.assign rfl) ?_
  refine KT.nil ?_
  refine thenK_n ?_
  refine KC.region ?_
  refine KT.step rfl rfl (K.move rfl) ?_
  refine KT.step rfl rfl (K.move rfl) ?_
  refine KT.step rfl rfl (K.move rfl) ?_
  refine KT.step rfl rfl (K.conv (c := ((zs.length : Nat) : Int)) rfl Try.underlying3 Try.underlying75 (by rw [wrapU, Nat.mod_eq_of_lt (by omega)])) ?_
  refine KT.step rfl rfl (K.call1 rfl plainTry_117 (hz)) ?_
  refine KT.step rfl rfl (K.move rfl) ?_
  refine KT.step rfl rfl (K.callO rfl plainTry_132 (pdq132 hp hc ho hn)) ?_
  refine KT.nil ?_
  exact ⟨.inr rfl, rfl, rfl⟩
set_option maxRecDepth 10000 in
theorem sortedFnil {d : DV} {f : FuncId} {cs : List DV} (hd : Ints d []) : DeepCall Try.prog 80 [.fn (.func 114) [] [.ptr [d]], (.fn (.func f) [] cs)] Dnil := by
  refine deepCall_K 5 Try.func80 rfl (Nat.le_of_ble_eq_true rfl) fun M W0 => ?_
  refine KC.seq ?_
  refine KC.region ?_
  refine KT.step rfl rfl (K.assign rfl) ?_
  refine KT.nil ?_
  refine thenK_n ?_
  refine KC.seq ?_
  refine KC.regionL ?_
  refine KL.step rfl rfl (K.move rfl) ?_
  refine KL.call rfl rfl rfl rfl rfl plainTry_112 (collect112 hd (by simp)) fun σ2 x2 hr => ?_
  obtain rfl := hr.2.2.2 rfl
  refine KL.step rfl rfl (K.assign rfl) ?_
  refine KL.nil ?_
  refine thenK_n ?_
  refine KC.seq ?_
  refine KC.region ?_
  refine KT.step rfl rfl (K.move rfl) ?_
  refine KT.step rfl rfl (K.move rfl) ?_
  refine KT.step rfl rfl (K.call2 rfl rfl plainTry_113 (sortFnil)) ?_
  refine KT.nil ?_
  refine thenK_n ?_
  refine KC.seq ?_
  refine KC.region ?_
  refine KT.step rfl rfl (K.move rfl) ?_
  refine KT.step rfl rfl (K.assign rfl) ?_
  refine KT.nil ?_
  refine thenK_n ?_
  refine KC.ret ?_
  exact ⟨.inl rfl, _, rfl, fin_d rfl⟩
set_option maxRecDepth 10000 in
theorem sortedFcons {d : DV} {zs : List Int} {f : FuncId} {cs : List DV} {c : Int → Int → Int} (hp : plainFn Try.prog f = true) (hc : ∀ x y, x ∈ zs → y ∈ zs → DeepCall Try.prog f ([DI x, DI y] ++ cs) (DI (c x y))) (hd : Ints d zs) (hn : zs.length ≤ 12) (hne : zs ≠ []) : DeepCall Try.prog 80 [.fn (.func 114) [] [.ptr [d]], (.fn (.func f) [] cs)] (intsV (insS c zs)) := by
  refine deepCall_K 5 Try.func80 rfl (Nat.le_of_ble_eq_true rfl) fun M W0 => ?_
  refine KC.seq ?_
  refine KC.region ?_
  refine KT.step rfl rfl (K.assign rfl) ?_
  refine KT.nil ?_
  refine thenK_n ?_
  refine KC.seq ?_
  refine KC.regionL ?_
  refine KL.step rfl rfl (K.move rfl) ?_
  refine KL.call rfl rfl rfl rfl rfl plainTry_112 (collect112 hd (by omega)) fun σ2 x2 hr => ?_
  obtain ⟨id, rfl, hs⟩ := own_xs2 hr.2.1 hne
  refine KL.step rfl rfl (K.assign rfl) ?_
  refine KL.nil ?_
  refine thenK_n ?_
  refine KC.seq ?_
  refine KC.region ?_
  refine KT.step rfl rfl (K.move rfl) ?_
  refine KT.step rfl rfl (K.move rfl) ?_
  refine KT.step rfl rfl (K.callO rfl plainTry_113 (sortFn113 hp hc hs hn)) ?_
  refine KT.nil ?_
  refine thenK_n ?_
  refine KC.seq ?_
  refine KC.region ?_
  refine KT.step rfl rfl (K.move rfl) ?_
  refine KT.step rfl rfl (K.assign rfl) ?_
  refine KT.nil ?_
  refine thenK_n ?_
  refine KC.ret ?_
  exact ⟨.inl rfl, _, rfl, own_put hs (insS_len c zs) hne⟩
theorem sortedF80 {d : DV} {zs : List Int} {f : FuncId} {cs : List DV} {c : Int → Int → Int} (hp : plainFn Try.prog f = true) (hc : ∀ x y, x ∈ zs → y ∈ zs → DeepCall Try.prog f ([DI x, DI y] ++ cs) (DI (c x y))) (hd : Ints d zs) (hn : zs.length ≤ 12) : DeepCall Try.prog 80 [.fn (.func 114) [] [.ptr [d]], (.fn (.func f) [] cs)] (intsV (insS c zs)) := by
  by_cases h : zs = []
  · subst h; exact sortedFnil hd
  · exact sortedFcons hp hc hd hn h
/-- The order by when operations start. -/
def ordO (hs : List Int) (ms : List (List Int)) : List (List Int) := ms.map (insS (fun x y => cmpI (gt hs x) (gt hs y)))
def ordV (hs : List Int) (ms : List (List Int)) : DV := match ms with | [] => Dnil | _ => .sl ((ordO hs ms).map intsV) ms.length none
theorem own_rows {σ : List VObj} {x : XV} {k : Nat} {hs : List Int} {ms : List (List Int)} (h : OwnK 1 σ x (ms.map fun l => XV.d (intsV (insS (fun x y => cmpI (gt hs x) (gt hs y)) l)))) (hne : ms = [] → x = .d Dnil) : deepen (freezeAll σ) (k + 2) x = some (ordV hs ms) := by
  cases ms with
  | nil => rw [hne rfl]; rfl
  | cons a ms =>
    generalize hc : (a :: ms).map (fun l => XV.d (intsV (insS (fun x y => cmpI (gt hs x) (gt hs y)) l))) = cs at h
    have hcl := congrArg List.length hc
    rw [List.length_map] at hcl
    cases h with
    | nil => simp at hcl
    | @sl id n cells h hn =>
      subst hc
      rw [List.length_map, Nat.mul_one] at hn
      subst hn
      have e : (a :: ms).map (fun l => XV.d (intsV (insS (fun x y => cmpI (gt hs x) (gt hs y)) l))) = ((ordO hs (a :: ms)).map intsV).map .d := by simp [ordO]
      rw [e] at h
      have f2 : (freezeAll σ)[id]? = some ⟨((ordO hs (a :: ms)).map intsV).map .d, 1⟩ := by simp [freezeAll, h]
      rw [deepen_osl f2 rfl (by simp [ordO]), List.drop_zero, Nat.mul_one, List.take_of_length_le (by simp [ordO]), mapM_deep]; rfl
theorem intsV_sld (l : List Int) : SlD (intsV l) := SlD.of (intsV_ok l)
theorem ord_mat (hs : List Int) (ms : List (List Int)) : Mat (ordV hs ms) (ordO hs ms) := by
  cases ms with
  | nil => exact .nil
  | cons a ms =>
    have h : Mat (.sl ((ordO hs (a :: ms)).map intsV) (ordO hs (a :: ms)).length none) (ordO hs (a :: ms)) := .sl (by simp) (fun i c y hc hy => by
      rw [List.getElem?_map, hy] at hc
      cases hc
      exact intsV_ok y)
    have e : (ordO hs (a :: ms)).length = (a :: ms).length := by simp [ordO]
    rw [e] at h
    exact h
theorem freezeIds_one {σ : List VObj} {id md : Nat} {cs : List XV} (h : σ[id]? = some ⟨cs, md⟩) (hm : md < 2) : (freezeIds σ [id])[id]? = some ⟨cs, 1⟩ := by
  unfold freezeIds
  rw [List.getElem?_mapIdx, h]
  match md, hm with
  | 0, _ => simp
  | 1, _ => simp
theorem dfn1 {σ : List VObj} {x : DV} : deepen σ 9 (.d x) = some x := rfl
theorem dfn2 {σ : List VObj} {id md f : Nat} {s : DV} (h : σ[id]? = some ⟨[.d s], md⟩) (hm : md < 2) : deepen (freezeIds σ [id]) 9 (.fn (.func f) [] [.optr id 0]) = some (.fn (.func f) [] [.ptr [s]]) := by
  have h1 := freezeIds_one h hm
  have e : deepen (freezeIds σ [id]) 8 (.optr id 0) = some (.ptr [s]) := by
    unfold deepen
    simp only [h1]
    simp only [if_true]; rfl
  unfold deepen
  simp only [List.mapM_cons, List.mapM_nil, e]
  rfl
set_option maxHeartbeats 1000000 in
set_option maxRecDepth 10000 in
theorem orderBy54 {a b c s : DV} {ms : List (List Int)} {hs : List Int} (hc : Mat c ms) (hs_ : Ints s hs) (h4 : ms.length ≤ 4) (h9 : ∀ l ∈ ms, l.length ≤ 9 ∧ ∀ x ∈ l, 0 ≤ x ∧ x < hs.length) : DeepCall Try.prog 54 [.agg [a, b, c], s] (ordV hs ms) := by
  refine deepCall_K 5 Try.func54 rfl (Nat.le_of_ble_eq_true rfl) fun M W0 => ?_
  refine KC.seq ?_
  refine KC.region ?_
  refine KT.step rfl rfl (K.box rfl) ?_
  refine KT.step rfl rfl (K.box rfl) ?_
  refine KT.step rfl rfl (K.assign rfl) ?_
  refine KT.nil ?_
  refine thenK_n ?_
  refine KC.seq ?_
  refine KC.region ?_
  refine KT.step rfl rfl (K.assign rfl) ?_
  refine KT.nil ?_
  refine thenK_n ?_
  refine KC.seq ?_
  refine KC.seq ?_
  refine KC.region ?_
  refine KT.step rfl rfl (K.fieldAddrO rfl Try.fld82_2 Try.size25) ?_
  refine KT.step rfl rfl (K.loadO rfl rfl (by simp) rfl Try.agg25) ?_
  refine KT.step rfl rfl (K.len rfl hc Try.underlying25) ?_
  refine KT.step rfl rfl (K.move rfl) ?_
  refine KT.nil ?_
  refine thenK_n ?_
  refine KC.block ?_
  refine KC.loop (fun p : List VObj × XV × Nat × Nat => p.1) (fun p => [(3, .optr 1 0), (5, p.2.1), (9, .d c), (10, .d (DI (ms.length : Nat))), (11, .d (DI (p.2.2.1 : Nat)))]) (fun p => p.2.2.1 ≤ ms.length ∧ p.1[1]? = some ⟨[.d s], p.2.2.2⟩ ∧ p.2.2.2 < 2 ∧ OwnK 1 p.1 p.2.1 ((ms.take p.2.2.1).map fun l => XV.d (intsV (insS (fun x y => cmpI (gt hs x) (gt hs y)) l))) ∧ (∀ j, idX p.2.1 = some j → 2 ≤ j) ∧ (ms.take p.2.2.1 = [] → p.2.1 = .d Dnil)) (fun p => ms.length - p.2.2.1) (_, .d Dnil, 0, 0) ⟨Nat.zero_le _, (by have := (SlD.of hs_).cells; simp [this]), (show (0 : Nat) < 2 by decide), .nil, (fun j hj => by cases hj), fun _ => rfl⟩ rfl (by simp [Go.Vm.look, extK, enterK]) ?_
  intro p hp
  obtain ⟨σ0, x0, k, md⟩ := p
  obtain ⟨hk, y1, hm, o, dj, hn⟩ := hp
  simp only at hk y1 hm o dj hn ⊢
  refine KC.seq ?_
  refine KC.region ?_
  refine KT.step rfl rfl (K.lss rfl rfl) ?_
  refine KT.nil ?_
  refine thenK_n ?_
  refine KC.seq ?_
  refine KC.cond rfl (fun hc12 => ?_) (fun hc12 => ?_)
  · skip
    replace hc12 := of_decide_eq_true hc12
    have hkl : k < ms.length := by omega
    have z1 := freezeIds_one y1 hm
    have o1 : OwnK 1 (freezeIds σ0 [1]) x0 ((ms.take k).map fun l => XV.d (intsV (insS (fun x y => cmpI (gt hs x) (gt hs y)) l))) := o.keep fun j hj => freezeIds_not (by have := dj j hj; simp; omega)
    have hfl : (freezeIds σ0 [1]).length = σ0.length := by simp [freezeIds]
    refine KC.skip ?_
    refine thenK_n ?_
    refine KC.seq ?_
    refine KC.block ?_
    refine KC.seq ?_
    refine KC.region ?_
    refine KT.idx rfl rfl rfl hc rfl (by omega) Try.underlying25 Try.size26 fun c13 cs13 hr => ?_
    refine KT.step rfl rfl (K.load rfl Try.agg26) ?_
    refine KT.step rfl rfl (K.assign rfl) ?_
    refine KT.nil ?_
    refine thenK_n ?_
    refine KC.region ?_
    refine KT.step rfl rfl (K.move rfl) ?_
    refine KT.step rfl rfl (K.move rfl) ?_
    refine KT.step rfl rfl (K.call1 rfl plainTry_81 (values81 (SlD.of hr))) ?_
    refine KT.step rfl rfl (K.makeF (xs := [.optr 1 0]) (m := 0) rfl rfl rfl rfl) ?_
    refine KT.step rfl rfl (K.callZ (xs := [.d (.fn (.func 114) [] [.ptr [c13]]), .fn (.func 82) [] [.optr 1 0]]) (ds := [.fn (.func 114) [] [.ptr [c13]], .fn (.func 82) [] [.ptr [s]]]) [1] 9 rfl plainTry_80 (by rw [List.mapM_cons, List.mapM_cons]; simp only [dfn1, dfn2 y1 hm]; rfl) (sortedF80 (zs := ms[k]) (c := fun x y => cmpI (gt hs x) (gt hs y)) plainTry_82 (fun x y hx hy => byStart82 hs_ ((h9 _ (List.getElem_mem hkl)).2 x hx) ((h9 _ (List.getElem_mem hkl)).2 y hy)) hr (by have := (h9 _ (List.getElem_mem hkl)).1; omega))) ?_
    refine KT.step rfl rfl (K.buildC (k := 1) (cs := [.d (intsV (insS (fun x y => cmpI (gt hs x) (gt hs y)) ms[k]))]) rfl (intsV_sld _).cells rfl Try.underlying25 Try.size26 Try.one26.zero (by decide)) ?_
    refine KT.appK (k := 1) rfl rfl rfl rfl (o1.pushed _) (List.getElem?_concat_length ..) rfl (by simp [(intsV_sld _).one]) (by rw [List.length_map, List.length_take]; omega) Try.underlying25 Try.size26 (of_decide_eq_true (by kernel_rfl)) (by kernel_rfl) (by decide) fun σ3 x3 ho3 k3 w3 => ?_
    obtain ⟨j3, w4, w5⟩ := w3
    rw [List.length_append] at w5
    refine KT.step rfl rfl (K.assign rfl) ?_
    refine KT.nil ?_
    refine blockK_n ?_
    refine thenK_n ?_
    refine KC.region ?_
    refine KT.step rfl rfl (K.add rfl rfl (wrap_id (by omega))) ?_
    refine KT.step rfl rfl (K.move rfl) ?_
    refine KT.nil ?_
    refine thenK_n ?_
    refine ⟨(σ3, x3, k + 1, 1), ⟨by simp only; omega, ?_, (show (1 : Nat) < 2 by decide), ?_, fun j hj => ?_, fun h => ?_⟩, by simp only; omega, rfl, by simp [Go.Vm.look, extK]⟩
    · exact (k3 1 (fun h => by have := dj _ h; omega) (by rw [List.length_append]; have := lt_of_get y1; omega)).trans (get_left z1)
    · simp only
      rw [List.take_succ_eq_append_getElem hkl, List.map_append]
      exact ho3
    · rw [w4] at hj; cases hj; have := lt_of_get y1; omega
    · have h2 := congrArg List.length h
      simp only [List.length_take, List.length_nil] at h2; omega
  · skip
    replace hc12 := of_decide_eq_false hc12
    refine KC.exit ?_
    refine thenK_x ?_
    refine thenK_x ?_
    refine blockK_e ?_
    refine thenK_n ?_
    refine KC.seq ?_
    refine KC.region ?_
    refine KT.step rfl rfl (K.move rfl) ?_
    refine KT.step rfl rfl (K.assign rfl) ?_
    refine KT.nil ?_
    refine thenK_n ?_
    refine KC.ret ?_
    have et : ms.take k = ms := List.take_of_length_le (by omega)
    rw [et] at o hn
    exact ⟨.inl rfl, _, rfl, own_rows o hn⟩
end Go.Proofs.Ytdilkpcnkhedlaa

