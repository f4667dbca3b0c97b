import Derived.Test.YtcjcchceeidgkaaLgE
/-
  Logic: Sat.
-/
namespace Go.Proofs.Ytcjcchceeidgkaa
open Go.Vm Go.Lg

theorem nats_of {d : DV} {N : List Int} (h : Ints d N) (h0 : ∀ i, i < N.length → 0 ≤ N.getD i 0) : Nats d (N.map Int.toNat) := by
  cases h with
  | nil => exact .nil
  | @sl cs _ cap hn h =>
    have e : (N.map Int.toNat).length = N.length := by simp
    rw [← e]
    refine .sl (by simp [hn]) fun i c x hc hx => ?_
    simp only [List.getElem?_map, Option.map_eq_some_iff] at hx
    obtain ⟨z, hz, rfl⟩ := hx
    have h1 := h i c z hc hz
    have hi := (List.getElem?_eq_some_iff.1 hz).1
    have h2 := h0 i hi
    rw [List.getD_eq_getElem?_getD, hz] at h2
    have h3 : (0 : Int) ≤ z := h2
    show c = DI ((z.toNat : Nat) : Int)
    rw [Int.toNat_of_nonneg h3]; exact h1

abbrev toN (N : List Int) : List Nat := N.map Int.toNat
theorem toN_get (N : List Int) (i : Nat) : (toN N).getD i 0 = (N.getD i 0).toNat := by
  simp only [List.getD_eq_getElem?_getD, List.getElem?_map]
  cases N[i]? <;> rfl

theorem validS_all {N L : List Int} (h : validS N L = true) : 1 ≤ N.length ∧ N.length ≤ 16 ∧ L.length = N.length ∧ ∀ i, i < N.length → (1 ≤ N.getD i 0 ∧ N.getD i 0 ≤ ((2 ^ N.length : Nat) : Int) - 1) ∧ 0 ≤ L.getD i 0 ∧ L.getD i 0 ≤ 63 := by
  unfold validS at h
  simp only [Bool.and_eq_true, decide_eq_true_iff, List.all_eq_true, List.mem_range] at h
  refine ⟨h.1.1.1, h.1.1.2, h.1.2, fun i hi => ?_⟩
  have := h.2 i hi
  unfold okS at this
  simpa only [Bool.and_eq_true, decide_eq_true_iff] using this

theorem str_of {dn dl : DV} {N L : List Int} (hN : Ints dn N) (hL : Ints dl L) (h : validS N L = true) : Str dn dl (toN N) (toN L) := by
  obtain ⟨h1, h2, h3, h4⟩ := validS_all h
  have hp := pow_le16 h2
  refine ⟨nats_of hN fun i hi => by have := h4 i hi; omega, nats_of hL fun i hi => by have := h4 i (by omega); omega, by simp [h3], by simpa using h2, by simpa using h1, fun i => ?_, fun i => ?_⟩
  · rw [toN_get]
    by_cases hi : i < N.length
    · have := (h4 i hi).1; omega
    · rw [List.getD_eq_getElem?_getD, List.getElem?_eq_none (by omega)]; decide
  · rw [toN_get]
    by_cases hi : i < N.length
    · have := (h4 i hi).2; omega
    · rw [List.getD_eq_getElem?_getD, List.getElem?_eq_none (by omega)]; decide

/-- Whether Sat has an answer, and which. -/
def satB (N L : List Int) (f : Fo) : Bool := validS N L && (fitF f 60 200).1
def satV (N L : List Int) (f : Fo) : Nat := if satB N L f then satF (toN N) (toN L) f else 0
def satE (N L : List Int) (f : Fo) : Int := if satB N L f then 0 else 2
set_option maxRecDepth 10000 in
theorem Sat9 {dn dl kd : DV} {N L : List Int} {op : ByteArray} {ks : List Fo} (hN : Ints dn N) (hL : Ints dl L) (hl : N.length ≤ 9223372036854775807 ∧ L.length ≤ 9223372036854775807) (hk : KidsD kd ks) : DeepCall Try.prog 9 [.agg [dn, dl], .agg [.lit (.string op), kd]] (.tup [DI (satV N L (.mk op ks) : Nat), DI (satE N L (.mk op ks))]) := by
  refine deepCall_K 5 Try.func9 rfl (Nat.le_of_ble_eq_true rfl) fun M W0 => ?_
  refine KC.seq ?_
  refine KC.region ?_
  refine KT.step rfl rfl (K.box rfl) ?_
  refine KT.step rfl rfl (K.box rfl) ?_
  refine KT.step rfl rfl (K.assign rfl) ?_
  refine KT.step rfl rfl (K.assign rfl) ?_
  refine KT.nil ?_
  refine thenK_n ?_
  refine KC.seq ?_
  refine KC.seq ?_
  refine KC.region ?_
  refine KT.step rfl rfl (K.loadOA ([dn, dl]) rfl rfl (by decide) Try.agg31 Try.size31 rfl) ?_
  refine KT.step rfl rfl (K.call1 rfl plainTry_27 (valid27 hN hL hl)) ?_
  refine KT.step rfl rfl (K.not rfl) ?_
  refine KT.step rfl rfl (K.move rfl) ?_
  refine KT.bcase (fun hb9 => ?_) (fun hb9 => ?_)
  · skip
    refine KT.skip rfl rfl ?_
    refine KT.skip rfl rfl ?_
    refine KT.skip rfl rfl ?_
    refine KT.step rfl rfl (K.pick rfl (fun _ => rfl) (fun h => by cases h)) ?_
    refine KT.nil ?_
    refine thenK_n ?_
    refine KC.cond rfl (fun hc13 => ?_) (fun hc13 => ?_)
    · skip
      refine KC.seq ?_
      refine KC.region ?_
      refine KT.step rfl rfl (K.assign rfl) ?_
      refine KT.step rfl rfl (K.assign rfl) ?_
      refine KT.nil ?_
      refine thenK_n ?_
      refine KC.ret ?_
      refine thenK_r ?_
      have hv : validS N L = false := by rw [Bool.not_eq_true'] at hb9; exact hb9
      have e : satB N L (.mk op ks) = false := by unfold satB; rw [hv]; rfl
      exact ⟨.inl rfl, _, rfl, by unfold satV satE; rw [e]; rfl⟩
    · cases hc13
  · skip
    refine KT.step rfl rfl (K.loadOA ([.lit (.string op), kd]) rfl rfl (by decide) Try.agg35 Try.size35 rfl) ?_
    refine KT.step rfl rfl (K.call1 rfl plainTry_28 (isFormula28 hk)) ?_
    refine KT.step rfl rfl (K.not rfl) ?_
    refine KT.step rfl rfl (K.pick rfl (fun h => by cases h) (fun _ => rfl)) ?_
    refine KT.nil ?_
    refine thenK_n ?_
    refine KC.cond rfl (fun hc13 => ?_) (fun hc13 => ?_)
    · skip
      refine KC.seq ?_
      refine KC.region ?_
      refine KT.step rfl rfl (K.assign rfl) ?_
      refine KT.step rfl rfl (K.assign rfl) ?_
      refine KT.nil ?_
      refine thenK_n ?_
      refine KC.ret ?_
      refine thenK_r ?_
      have hf : (fitF (.mk op ks) 60 200).1 = false := by rw [Bool.not_eq_true'] at hc13; exact hc13
      have e : satB N L (.mk op ks) = false := by unfold satB; rw [hf, Bool.and_false]
      exact ⟨.inl rfl, _, rfl, by unfold satV satE; rw [e]; rfl⟩
    · skip
      refine KC.skip ?_
      refine thenK_n ?_
      refine KC.seq ?_
      refine KC.draw Try.mixed ?_
      have hv : validS N L = true := by rw [Bool.not_eq_false'] at hb9; exact hb9
      have hf : (fitF (.mk op ks) 60 200).1 = true := by rw [Bool.not_eq_false'] at hc13; exact hc13
      refine KT.step rfl rfl (K.loadOA ([dn, dl]) rfl rfl (by decide) Try.agg31 Try.size31 rfl) ?_
      refine KT.step rfl rfl (K.call1 rfl plainTry_29 (operators29)) ?_
      refine KT.step rfl rfl (K.loadOA ([.lit (.string op), kd]) rfl rfl (by decide) Try.agg35 Try.size35 rfl) ?_
      refine KT.step rfl rfl (K.call2 rfl rfl plainTry_30 (sat30 (str_of hN hL hv) op ks kd (fitF_wf _ _ _ hf) hk)) ?_
      refine KT.step rfl rfl (K.assign rfl) ?_
      refine KT.step rfl rfl (K.assign rfl) ?_
      refine KT.nil ?_
      refine ⟨by kernel_rfl, ?_⟩
      refine thenK_n ?_
      refine KC.ret ?_
      have e : satB N L (.mk op ks) = true := by unfold satB; rw [hv, hf]; rfl
      exact ⟨.inl rfl, _, rfl, by unfold satV satE; rw [e]; rfl⟩
end Go.Proofs.Ytcjcchceeidgkaa

