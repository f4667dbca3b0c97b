import Derived.Test.YtcjcchceeidgkaaLgJ
import Derived.Test.YtcjcchceeidgkaaLgX
/-
  Logic: of, formula, node, alike, awake.
-/
namespace Go.Proofs.Ytcjcchceeidgkaa
open Go.Vm Go.Lg
theorem plainTry_10 : plainFn Try.prog 10 = true := by kernel_rfl
theorem plainTry_26 : plainFn Try.prog 26 = true := by kernel_rfl
theorem plainTry_25 : plainFn Try.prog 25 = true := by kernel_rfl
theorem plainTry_14 : plainFn Try.prog 14 = true := by kernel_rfl
theorem plainTry_31 : plainFn Try.prog 31 = true := by kernel_rfl

theorem conv32 : ∀ (op : ByteArray) (ks : List Fo) (kd : DV) (σ : List VObj) (id left n : Nat), KidsD kd ks → σ[id]? = some ⟨[.d (DI (n : Nat))], 0⟩ → left ≤ 1000 → 1 ≤ n ∧ n ≤ 1000 →
    OwnCall Try.prog 32 σ [.d (.agg [.lit (.string op), kd]), .d (DI (left : Nat)), .optr id 0] (σ.set id ⟨[.d (DI ((cvF (.mk op ks) left n).2 : Nat))], 0⟩) (.d (foV (cvF (.mk op ks) left n).1))
  | op, ks, kd, σ, id, left, n, hk, ho, hl, hn => by
    refine convS32 hk ho hn hl fun op1 ks1 kd1 σ' left' n' hm hk1 ho1 hl1 hn1 => ?_
    have : SizeOf.sizeOf ks1 < SizeOf.sizeOf ks := by
      have := List.sizeOf_lt_of_mem hm
      simp at this; omega
    exact conv32 op1 ks1 kd1 σ' id left' n' hk1 ho1 hl1 hn1
  termination_by _ ks => SizeOf.sizeOf ks
set_option maxRecDepth 10000 in
theorem formula11 {kd : DV} {op : ByteArray} {ks : List Fo} {left : Nat} (hk : KidsD kd ks) (hl : left ≤ 1000) : DeepCall Try.prog 11 [.agg [.lit (.string op), kd], DI (left : Nat)] (foV (cvF (.mk op ks) left 210).1) := by
  refine deepCall_K 5 Try.func11 rfl (Nat.le_of_ble_eq_true rfl) fun M W0 => ?_
  refine KC.seq ?_
  refine KC.region ?_
  refine KT.step rfl rfl (K.box rfl) ?_
  refine KT.step rfl rfl (K.alloc Try.zero35) ?_
  refine KT.nil ?_
  refine thenK_n ?_
  refine KC.seq ?_
  refine KC.region ?_
  refine KT.step rfl rfl (K.alloc Try.zero3) ?_
  refine KT.step rfl rfl (K.storeO rfl rfl rfl (by decide) rfl rfl Try.size3) ?_
  refine KT.nil ?_
  refine thenK_n ?_
  refine KC.seq ?_
  refine KC.region ?_
  refine KT.step rfl rfl (K.loadOA ([.lit (.string op), kd]) rfl rfl (by decide) Try.agg27 Try.size27 rfl) ?_
  refine KT.step rfl rfl (K.move rfl) ?_
  refine KT.step rfl rfl (K.callO (xs := [.d (.agg [.lit (.string op), kd]), .d (DI (left : Nat)), .optr 2 0]) rfl plainTry_32 (conv32 op ks kd _ 2 left 210 hk rfl hl (by decide))) ?_
  refine KT.storeH (cs := [.d (.lit (.string (cvF (.mk op ks) left 210).1.op)), .d (kidsV (cvF (.mk op ks) left 210).1.ks)]) rfl rfl rfl rfl (id := 1) (cells := [.d (.lit (.string "".toUTF8)), .d Dnil]) rfl rfl (by simp) (two_one rfl (kidsV_ok _)) Try.size35 fun σf lf uf vf => ?_
  refine KT.nil ?_
  refine thenK_n ?_
  refine KC.ret ?_
  exact ⟨.inl rfl, _, resK_c [.lit (.string (cvF (.mk op ks) left 210).1.op), kidsV (cvF (.mk op ks) left 210).1.ks] rfl rfl uf (by simp) Try.agg35 Try.size35 rfl, rfl⟩
theorem clone_fin {cs : List DV} {len : Nat} {cap : Option Nat} (hn : cs.length = len) (h0 : len ≠ 0) :
    deepen (freezeAll [(⟨[], 0⟩ : VObj), ⟨(cs.take len).map .d, 0⟩]) 5 (.osl 1 0 len 1 len false) = some (cloneD (.sl cs len cap)) := by
  have e : cs.take len = cs := List.take_of_length_le (by omega)
  rw [e]
  rw [deepen_osl (ob := ⟨cs.map .d, 1⟩) rfl rfl (by simp [hn])]
  have h2 : ((cs.map XV.d).drop 0).take (len * 1) = cs.map XV.d := by
    rw [List.drop_zero, Nat.mul_one, List.take_of_length_le (by simp [hn])]
  rw [show ((⟨cs.map XV.d, 1⟩ : VObj).cells.drop 0).take (len * 1) = cs.map XV.d from h2, mapM_deep]
  simp [cloneD, h0, e]
set_option maxRecDepth 10000 in
theorem clone31_nil : DeepCall Try.prog 31 [Dnil] Dnil := by
  refine deepCall_K 5 Try.func31 rfl (Nat.le_of_ble_eq_true rfl) fun M W0 => ?_
  refine KC.seq ?_
  refine KC.region ?_
  refine KT.step rfl rfl (K.assign rfl) ?_
  refine KT.nil ?_
  refine thenK_n ?_
  refine KC.seq ?_
  refine KC.seq ?_
  refine KC.region ?_
  refine KT.step rfl rfl (K.move rfl) ?_
  refine KT.step rfl rfl (K.eqNilNil rfl Try.underlying22) ?_
  refine KT.nil ?_
  refine thenK_n ?_
  refine KC.cond rfl (fun hc4 => ?_) (fun hc4 => ?_)
  · skip
    refine KC.seq ?_
    refine KC.region ?_
    refine KT.step rfl rfl (K.assign rfl) ?_
    refine KT.nil ?_
    refine thenK_n ?_
    refine KC.ret ?_
    refine thenK_r ?_
    exact ⟨.inl rfl, _, rfl, fin_d rfl⟩
  · cases hc4

set_option maxRecDepth 10000 in
theorem clone31_zero {cs : List DV} {cap : Option Nat} : DeepCall Try.prog 31 [.sl cs 0 cap] (.sl [] 0 (some 0)) := by
  refine deepCall_K 5 Try.func31 rfl (Nat.le_of_ble_eq_true rfl) fun M W0 => ?_
  refine KC.seq ?_
  refine KC.region ?_
  refine KT.step rfl rfl (K.assign rfl) ?_
  refine KT.nil ?_
  refine thenK_n ?_
  refine KC.seq ?_
  refine KC.seq ?_
  refine KC.region ?_
  refine KT.step rfl rfl (K.move rfl) ?_
  refine KT.step rfl rfl (K.eqNil rfl Try.underlying22) ?_
  refine KT.nil ?_
  refine thenK_n ?_
  refine KC.cond rfl (fun hc4 => ?_) (fun hc4 => ?_)
  · cases hc4
  · skip
    refine KC.skip ?_
    refine thenK_n ?_
    refine KC.seq ?_
    refine KC.region ?_
    refine KT.step rfl rfl (K.build0 Try.underlying22 Try.one3) ?_
    refine KT.step rfl rfl (K.move rfl) ?_
    refine KT.step rfl rfl (K.appNone rfl rfl Try.underlying22 Try.one3) ?_
    refine KT.step rfl rfl (K.assign rfl) ?_
    refine KT.nil ?_
    refine thenK_n ?_
    refine KC.ret ?_
    exact ⟨.inl rfl, _, rfl, rfl⟩

set_option maxRecDepth 10000 in
theorem clone31_all {cs : List DV} {len : Nat} {cap : Option Nat} (hn : cs.length = len) (h1 : ((cs.take len).map XV.d).all oneX = true) (h0 : len ≠ 0) (hl : len ≤ 1073741824) : DeepCall Try.prog 31 [.sl cs len cap] (cloneD (.sl cs len cap)) := by
  refine deepCall_K 5 Try.func31 rfl (Nat.le_of_ble_eq_true rfl) fun M W0 => ?_
  refine KC.seq ?_
  refine KC.region ?_
  refine KT.step rfl rfl (K.assign rfl) ?_
  refine KT.nil ?_
  refine thenK_n ?_
  refine KC.seq ?_
  refine KC.seq ?_
  refine KC.region ?_
  refine KT.step rfl rfl (K.move rfl) ?_
  refine KT.step rfl rfl (K.eqNil rfl Try.underlying22) ?_
  refine KT.nil ?_
  refine thenK_n ?_
  refine KC.cond rfl (fun hc4 => ?_) (fun hc4 => ?_)
  · cases hc4
  · skip
    refine KC.skip ?_
    refine thenK_n ?_
    refine KC.seq ?_
    refine KC.region ?_
    refine KT.step rfl rfl (K.build0 Try.underlying22 Try.one3) ?_
    refine KT.step rfl rfl (K.move rfl) ?_
    refine KT.step rfl rfl (K.appAll rfl rfl rfl hn h1 h0 hl Try.underlying22 Try.one3) ?_
    refine KT.step rfl rfl (K.assign rfl) ?_
    refine KT.nil ?_
    refine thenK_n ?_
    refine KC.ret ?_
    exact ⟨.inl rfl, _, rfl, clone_fin hn h0⟩

theorem clone31 {d : DV} {l : List Int} (hd : Ints d l) (hl : l.length ≤ 1073741824) : DeepCall Try.prog 31 [d] (cloneD d) := by
  rcases litOf_vec hd with ⟨rfl, rfl⟩ | ⟨cs, cap, rfl, hn, hr⟩
  · exact clone31_nil
  · by_cases h0 : l.length = 0
    · rw [h0]; exact clone31_zero
    · refine clone31_all hn ?_ h0 hl
      rw [List.all_map, List.all_eq_true]
      intro x hx
      obtain ⟨i, hi, rfl⟩ := List.getElem_of_mem (List.mem_of_mem_take hx)
      rw [hr i cs[i] l[i] (List.getElem?_eq_getElem hi) (List.getElem?_eq_getElem (by omega))]
      rfl
set_option maxRecDepth 10000 in
theorem of10 {dN dL : DV} {N L : List Int} (hN : Ints dN N) (hL : Ints dL L) : DeepCall Try.prog 10 [.agg [dN, dL]] (.agg [l18 N dN, l18 L dL]) := by
  refine deepCall_K 5 Try.func10 rfl (Nat.le_of_ble_eq_true rfl) fun M W0 => ?_
  refine KC.seq ?_
  refine KC.region ?_
  refine KT.step rfl rfl (K.box rfl) ?_
  refine KT.step rfl rfl (K.alloc Try.zero31) ?_
  refine KT.nil ?_
  refine thenK_n ?_
  refine KC.seq ?_
  refine KC.draw Try.mixed ?_
  refine KT.step rfl rfl (K.fieldAddrO rfl Try.fld24_0 Try.size22) ?_
  refine KT.step rfl rfl (K.loadO rfl rfl (by simp) rfl Try.agg22) ?_
  refine KT.step rfl rfl (K.fieldAddrO rfl Try.fld24_0 Try.size22) ?_
  refine KT.step rfl rfl (K.loadO rfl rfl (by simp) rfl Try.agg22) ?_
  refine KT.step rfl rfl (K.len rfl hN Try.underlying22) ?_
  refine KT.step rfl rfl (K.minN (b := 18) rfl rfl) ?_
  refine KT.step rfl rfl (K.takeV rfl hN rfl (by omega) Try.underlying22 Try.size3) ?_
  refine KT.step rfl rfl (K.call1 rfl plainTry_31 (clone31 (takeV_vec hN (by omega)) (by simp; omega))) ?_
  refine KT.step rfl rfl (K.fieldAddrO rfl Try.fld24_1 Try.size22) ?_
  refine KT.step rfl rfl (K.loadO rfl rfl (by simp) rfl Try.agg22) ?_
  refine KT.step rfl rfl (K.fieldAddrO rfl Try.fld24_1 Try.size22) ?_
  refine KT.step rfl rfl (K.loadO rfl rfl (by simp) rfl Try.agg22) ?_
  refine KT.step rfl rfl (K.len rfl hL Try.underlying22) ?_
  refine KT.step rfl rfl (K.minN (b := 18) rfl rfl) ?_
  refine KT.step rfl rfl (K.takeV rfl hL rfl (by omega) Try.underlying22 Try.size3) ?_
  refine KT.step rfl rfl (K.call1 rfl plainTry_31 (clone31 (takeV_vec hL (by omega)) (by simp; omega))) ?_
  refine KT.step rfl rfl (K.build2X rfl rfl (vec_cell (l18_ints hN)).1 (vec_cell (l18_ints hL)).1 Try.zero31 Try.underlying31 Try.places31) ?_
  refine KT.storeL (cs := [.d (l18 N dN), .d (l18 L dL)]) rfl rfl rfl rfl rfl rfl (by rw [List.all_cons, List.all_cons, (vec_cell (l18_ints hN)).2, (vec_cell (l18_ints hL)).2]; rfl) Try.size31 ?_
  refine KT.nil ?_
  refine ⟨by kernel_rfl, ?_⟩
  refine thenK_n ?_
  refine KC.ret ?_
  exact ⟨.inl rfl, _, resK_c [l18 N dN, l18 L dL] rfl rfl rfl (by simp) Try.agg31 Try.size31 rfl, rfl⟩
set_option maxRecDepth 10000 in
theorem node26 {kd : DV} {op : ByteArray} {ks : List Fo} (hk : KidsD kd ks) : DeepCall Try.prog 26 [.lit (.string op), kd] (.agg [.lit (.string op), kd]) := by
  refine deepCall_K 5 Try.func26 rfl (Nat.le_of_ble_eq_true rfl) fun M W0 => ?_
  refine KC.seq ?_
  refine KC.region ?_
  refine KT.step rfl rfl (K.alloc Try.zero35) ?_
  refine KT.nil ?_
  refine thenK_n ?_
  refine KC.seq ?_
  refine KC.region ?_
  refine KT.step rfl rfl (K.move rfl) ?_
  refine KT.step rfl rfl (K.move rfl) ?_
  refine KT.step rfl rfl (K.build2X rfl rfl rfl (kids_cell hk) Try.zero35 Try.underlying35 Try.places35) ?_
  refine KT.storeL (A := []) (cs := [.d (.lit (.string op)), .d kd]) rfl rfl rfl rfl rfl rfl (two_one rfl hk) Try.size35 ?_
  refine KT.nil ?_
  refine thenK_n ?_
  refine KC.ret ?_
  exact ⟨.inl rfl, _, resK_c [.lit (.string op), kd] rfl rfl rfl (by simp) Try.agg35 Try.size35 rfl, rfl⟩

def alikeB (N L : List Int) (f g : Fo) : Bool := ((decide (((satV N L f : Nat) : Int) = (satV N L g : Nat)) && decide (satE N L f = satE N L g)) || decide (satE N L f = 2)) || decide (satE N L g = 2)
/-- Formulas that the same states satisfy are alike. -/
theorem alike_of {N L : List Int} {f g : Fo} (h : ∀ nx lb : List Nat, lb.length = nx.length → satF nx lb f = satF nx lb g) : alikeB N L f g = true := by
  unfold alikeB
  cases hf : satB N L f with
  | false =>
    have e : satE N L f = 2 := by unfold satE; rw [hf]; rfl
    rw [decide_eq_true e, Bool.or_true, Bool.true_or]
  | true => cases hg : satB N L g with
    | false =>
      have e : satE N L g = 2 := by unfold satE; rw [hg]; rfl
      rw [decide_eq_true e, Bool.or_true]
    | true =>
      have hv : validS N L = true := by
        unfold satB at hf
        simp only [Bool.and_eq_true] at hf
        exact hf.1
      have e1 : satV N L f = satV N L g := by
        unfold satV
        rw [hf, hg]
        exact h _ _ (by simp [(validS_all hv).2.2.1])
      have e2 : satE N L f = satE N L g := by unfold satE; rw [hf, hg]
      rw [e1, e2]; simp
set_option maxRecDepth 10000 in
theorem alike25 {dN dL kf kg : DV} {N L : List Int} {f g : Fo} (hN : Ints dN N) (hL : Ints dL L) (hf : KidsD kf f.ks) (hg : KidsD kg g.ks) : DeepCall Try.prog 25 [.agg [dN, dL], .agg [.lit (.string f.op), kf], .agg [.lit (.string g.op), kg]] (DB (alikeB (N.take 18) (L.take 18) f g)) := by
  refine deepCall_K 5 Try.func25 rfl (Nat.le_of_ble_eq_true rfl) fun M W0 => ?_
  refine KC.seq ?_
  refine KC.region ?_
  refine KT.step rfl rfl (K.box rfl) ?_
  refine KT.step rfl rfl (K.box rfl) ?_
  refine KT.step rfl rfl (K.box rfl) ?_
  refine KT.step rfl rfl (K.assign rfl) ?_
  refine KT.nil ?_
  refine thenK_n ?_
  refine KC.seq ?_
  refine KC.draw Try.mixed ?_
  refine KT.step rfl rfl (K.loadOA ([dN, dL]) rfl rfl (by decide) Try.agg24 Try.size24 rfl) ?_
  refine KT.step rfl rfl (K.call1 rfl plainTry_10 (of10 hN hL)) ?_
  refine KT.step rfl rfl (K.loadOA ([.lit (.string f.op), kf]) rfl rfl (by decide) Try.agg35 Try.size35 rfl) ?_
  refine KT.step rfl rfl (K.call2 rfl rfl plainTry_9 (Sat9 (op := f.op) (ks := f.ks) (l18_ints hN) (l18_ints hL) ⟨by simp; omega, by simp; omega⟩ hf)) ?_
  refine KT.step rfl rfl (K.move rfl) ?_
  refine KT.step rfl rfl (K.extract rfl rfl) ?_
  refine KT.step rfl rfl (K.extract rfl rfl) ?_
  refine KT.step rfl rfl (K.assign rfl) ?_
  refine KT.step rfl rfl (K.assign rfl) ?_
  refine KT.nil ?_
  refine ⟨by kernel_rfl, ?_⟩
  refine thenK_n ?_
  refine KC.seq ?_
  refine KC.draw Try.mixed ?_
  refine KT.step rfl rfl (K.loadOA ([dN, dL]) rfl rfl (by decide) Try.agg24 Try.size24 rfl) ?_
  refine KT.step rfl rfl (K.call1 rfl plainTry_10 (of10 hN hL)) ?_
  refine KT.step rfl rfl (K.loadOA ([.lit (.string g.op), kg]) rfl rfl (by decide) Try.agg35 Try.size35 rfl) ?_
  refine KT.step rfl rfl (K.call2 rfl rfl plainTry_9 (Sat9 (op := g.op) (ks := g.ks) (l18_ints hN) (l18_ints hL) ⟨by simp; omega, by simp; omega⟩ hg)) ?_
  refine KT.step rfl rfl (K.move rfl) ?_
  refine KT.step rfl rfl (K.extract rfl rfl) ?_
  refine KT.step rfl rfl (K.extract rfl rfl) ?_
  refine KT.step rfl rfl (K.assign rfl) ?_
  refine KT.step rfl rfl (K.assign rfl) ?_
  refine KT.nil ?_
  refine ⟨by kernel_rfl, ?_⟩
  refine thenK_n ?_
  refine KC.seq ?_
  refine KC.region ?_
  refine KT.step rfl rfl (K.move rfl) ?_
  refine KT.step rfl rfl (K.move rfl) ?_
  refine KT.step rfl rfl (K.eql rfl rfl) ?_
  refine KT.step rfl rfl (K.move rfl) ?_
  refine KT.bcase (fun hb28 => ?_) (fun hb28 => ?_)
  · skip
    replace hb28 := of_decide_eq_true hb28
    refine KT.step rfl rfl (K.move rfl) ?_
    refine KT.step rfl rfl (K.move rfl) ?_
    refine KT.step rfl rfl (K.eql rfl rfl) ?_
    refine KT.step rfl rfl (K.pick rfl (fun _ => rfl) (fun h => by cases h)) ?_
    refine KT.step rfl rfl (K.move rfl) ?_
    refine KT.bcase (fun hb33 => ?_) (fun hb33 => ?_)
    · skip
      replace hb33 := of_decide_eq_true hb33
      refine KT.skip rfl rfl ?_
      refine KT.skip rfl rfl ?_
      refine KT.step rfl rfl (K.pick rfl (fun _ => rfl) (fun h => by cases h)) ?_
      refine KT.step rfl rfl (K.move rfl) ?_
      refine KT.skip rfl rfl ?_
      refine KT.skip rfl rfl ?_
      refine KT.step rfl rfl (K.pick rfl (fun _ => rfl) (fun h => by cases h)) ?_
      refine KT.step rfl rfl (K.assign rfl) ?_
      refine KT.nil ?_
      refine thenK_n ?_
      refine KC.ret ?_
      exact ⟨.inl rfl, _, rfl, fin_b (by cases f; cases g; unfold alikeB; simp only [Fo.op, Fo.ks] at *; first | (simp [*]; done) | (simp [*]; rfl) | (simp [*]; congr))⟩
    · skip
      replace hb33 := of_decide_eq_false hb33
      refine KT.step rfl rfl (K.move rfl) ?_
      refine KT.step rfl rfl (K.eql rfl rfl) ?_
      refine KT.step rfl rfl (K.pick rfl (fun h => by cases h) (fun _ => rfl)) ?_
      refine KT.step rfl rfl (K.move rfl) ?_
      refine KT.bcase (fun hb37 => ?_) (fun hb37 => ?_)
      · skip
        replace hb37 := of_decide_eq_true hb37
        refine KT.skip rfl rfl ?_
        refine KT.skip rfl rfl ?_
        refine KT.step rfl rfl (K.pick rfl (fun _ => rfl) (fun h => by cases h)) ?_
        refine KT.step rfl rfl (K.assign rfl) ?_
        refine KT.nil ?_
        refine thenK_n ?_
        refine KC.ret ?_
        exact ⟨.inl rfl, _, rfl, fin_b (by cases f; cases g; unfold alikeB; simp only [Fo.op, Fo.ks] at *; first | (simp [*]; done) | (simp [*]; rfl) | (simp [*]; congr))⟩
      · skip
        replace hb37 := of_decide_eq_false hb37
        refine KT.step rfl rfl (K.move rfl) ?_
        refine KT.step rfl rfl (K.eql rfl rfl) ?_
        refine KT.step rfl rfl (K.pick rfl (fun h => by cases h) (fun _ => rfl)) ?_
        refine KT.step rfl rfl (K.assign rfl) ?_
        refine KT.nil ?_
        refine thenK_n ?_
        refine KC.ret ?_
        exact ⟨.inl rfl, _, rfl, fin_b (by cases f; cases g; unfold alikeB; simp only [Fo.op, Fo.ks] at *; first | (simp [*]; done) | (simp [*]; rfl) | (simp [*]; congr))⟩
  · skip
    replace hb28 := of_decide_eq_false hb28
    refine KT.skip rfl rfl ?_
    refine KT.skip rfl rfl ?_
    refine KT.skip rfl rfl ?_
    refine KT.step rfl rfl (K.pick rfl (fun h => by cases h) (fun _ => rfl)) ?_
    refine KT.step rfl rfl (K.move rfl) ?_
    refine KT.step rfl rfl (K.move rfl) ?_
    refine KT.step rfl rfl (K.eql rfl rfl) ?_
    refine KT.step rfl rfl (K.pick rfl (fun h => by cases h) (fun _ => rfl)) ?_
    refine KT.step rfl rfl (K.move rfl) ?_
    refine KT.bcase (fun hb37 => ?_) (fun hb37 => ?_)
    · skip
      replace hb37 := of_decide_eq_true hb37
      refine KT.skip rfl rfl ?_
      refine KT.skip rfl rfl ?_
      refine KT.step rfl rfl (K.pick rfl (fun _ => rfl) (fun h => by cases h)) ?_
      refine KT.step rfl rfl (K.assign rfl) ?_
      refine KT.nil ?_
      refine thenK_n ?_
      refine KC.ret ?_
      exact ⟨.inl rfl, _, rfl, fin_b (by cases f; cases g; unfold alikeB; simp only [Fo.op, Fo.ks] at *; first | (simp [*]; done) | (simp [*]; rfl) | (simp [*]; congr))⟩
    · skip
      replace hb37 := of_decide_eq_false hb37
      refine KT.step rfl rfl (K.move rfl) ?_
      refine KT.step rfl rfl (K.eql rfl rfl) ?_
      refine KT.step rfl rfl (K.pick rfl (fun h => by cases h) (fun _ => rfl)) ?_
      refine KT.step rfl rfl (K.assign rfl) ?_
      refine KT.nil ?_
      refine thenK_n ?_
      refine KC.ret ?_
      exact ⟨.inl rfl, _, rfl, fin_b (by cases f; cases g; unfold alikeB; simp only [Fo.op, Fo.ks] at *; first | (simp [*]; done) | (simp [*]; rfl) | (simp [*]; congr))⟩

theorem awake_v : satV [2, 2] [0, 1] (.mk ⟨#[69, 70]⟩ [.mk ⟨#[97]⟩ []]) = 3 := by decide
theorem awake_e : satE [2, 2] [0, 1] (.mk ⟨#[69, 70]⟩ [.mk ⟨#[97]⟩ []]) = 0 := by decide
theorem ints2 (a b : Int) {cap : Option Nat} : Ints (.sl [DI a, DI b] 2 cap) [a, b] := by
  refine Vec.sl (l := [a, b]) (by simp) fun i c x hc hx => ?_
  match i with
  | 0 => simp at hc hx; rw [← hc, ← hx]
  | 1 => simp at hc hx; rw [← hc, ← hx]
  | i + 2 => simp at hc
theorem awake_sat : DeepCall Try.prog 9 [.agg [.sl [DI 2, DI 2] 2 (some 2), .sl [DI 0, DI 1] 2 (some 2)], .agg [.lit (.string ⟨#[69, 70]⟩), .sl [.lit (.string ⟨#[97]⟩), Dnil] 1 (some 1)]] (.tup [DI 3, DI 0]) := by
  have h := Sat9 (N := [2, 2]) (L := [0, 1]) (op := ⟨#[69, 70]⟩) (ks := [.mk ⟨#[97]⟩ []]) (ints2 2 2 (cap := some 2)) (ints2 0 1 (cap := some 2)) ⟨by decide, by decide⟩ (one_kid (f := .mk ⟨#[97]⟩ []) (cap := some 1) .nil)
  rw [awake_v, awake_e] at h
  exact h
set_option maxRecDepth 10000 in
theorem awake14 : DeepCall Try.prog 14 [] (DB true) := by
  refine deepCall_K 5 Try.func14 rfl (Nat.le_of_ble_eq_true rfl) fun M W0 => ?_
  refine KC.seq ?_
  refine KC.region ?_
  refine KT.step rfl rfl (K.assign rfl) ?_
  refine KT.nil ?_
  refine thenK_n ?_
  refine KC.seq ?_
  refine KC.region ?_
  refine KT.step rfl rfl (K.build2s rfl rfl rfl rfl Try.underlying22 Try.one3) ?_
  refine KT.step rfl rfl (K.build2s rfl rfl rfl rfl Try.underlying22 Try.one3) ?_
  refine KT.step rfl rfl (K.build2X rfl rfl rfl rfl Try.zero31 Try.underlying31 Try.places31) ?_
  refine KT.step rfl rfl (K.build1X rfl rfl Try.zero35 Try.underlying35 Try.places35) ?_
  refine KT.step rfl rfl (K.buildK (k := 2) (ds := [.lit (.string ⟨#[97]⟩), Dnil]) rfl rfl Try.underlying33 Try.size35 Try.zero35 (by decide)) ?_
  refine KT.step rfl rfl (K.build2X rfl rfl rfl rfl Try.zero35 Try.underlying35 Try.places35) ?_
  refine KT.step rfl rfl (K.callZ [0, 1, 2] 5 (ds := [.agg [.sl [DI 2, DI 2] 2 (some 2), .sl [DI 0, DI 1] 2 (some 2)], .agg [.lit (.string ⟨#[69, 70]⟩), .sl [.lit (.string ⟨#[97]⟩), Dnil] 1 (some 1)]]) rfl plainTry_9 rfl awake_sat) ?_
  refine KT.step rfl rfl (K.move rfl) ?_
  refine KT.step rfl rfl (K.extract rfl rfl) ?_
  refine KT.step rfl rfl (K.extract rfl rfl) ?_
  refine KT.step rfl rfl (K.assign rfl) ?_
  refine KT.step rfl rfl (K.assign rfl) ?_
  refine KT.nil ?_
  refine thenK_n ?_
  refine KC.seq ?_
  refine KC.region ?_
  refine KT.step rfl rfl (K.move rfl) ?_
  refine KT.step rfl rfl (K.eql rfl rfl) ?_
  refine KT.step rfl rfl (K.move rfl) ?_
  refine KT.step rfl rfl (K.move rfl) ?_
  refine KT.step rfl rfl (K.eql rfl rfl) ?_
  refine KT.step rfl rfl (K.pick rfl (fun _ => rfl) (fun h => by cases h)) ?_
  refine KT.step rfl rfl (K.assign rfl) ?_
  refine KT.nil ?_
  refine thenK_n ?_
  refine KC.ret ?_
  exact ⟨.inl rfl, _, rfl, fin_b rfl⟩
end Go.Proofs.Ytcjcchceeidgkaa

