/-
  CONTRACTS for LatticeChecks: big numbers.
-/
import Derived.Test.YtlomhajhoecoiaaChkB
namespace Go.Proofs.Ytlomhajhoecoiaa
open Go.Vm Go.Big
theorem Try.agg85 : isAggT Try.prog 85 = some false := by kernel_rfl
theorem Try.size85 : sizeT Try.prog 85 = some 1 := by kernel_rfl
theorem Try.one85 : OneT Try.prog 85 (.slice none 0 0) := ⟨by kernel_rfl, by kernel_rfl, rfl, of_decide_eq_true (by kernel_rfl)⟩
theorem Try.agg87 : isAggT Try.prog 87 = some true := by kernel_rfl
theorem Try.size87 : sizeT Try.prog 87 = some 2 := by kernel_rfl
theorem Try.zero87 : zeroT Try.prog 87 = some (.agg #[.bool false, .slice none 0 0]) := by kernel_rfl
theorem Try.fld87_0 : fieldT Try.prog 87 0 = some { name := "neg", type := 4, offset := 0, embedded := false, tag := "", pkgPath := "massecuite/massecuiteref01", byteOffset := 0 } := by kernel_rfl
theorem Try.fld87_1 : fieldT Try.prog 87 1 = some { name := "mag", type := 85, offset := 1, embedded := false, tag := "", pkgPath := "massecuite/massecuiteref01", byteOffset := 8 } := by kernel_rfl
theorem Try.places87 : (match Try.prog.underlying 87 with | some (.struct fs) => placesT Try.prog fs | _ => none) = some #[(0, 1), (1, 1)] := by kernel_rfl
theorem Try.agg96 : isAggT Try.prog 96 = some false := by kernel_rfl
theorem Try.size96 : sizeT Try.prog 96 = some 1 := by kernel_rfl
theorem Try.one96 : OneT Try.prog 96 (.int .u32 0) := ⟨by kernel_rfl, by kernel_rfl, rfl, of_decide_eq_true (by kernel_rfl)⟩
theorem plainTry_107 : plainFn Try.prog 107 = true := by kernel_rfl
theorem plainTry_105 : plainFn Try.prog 105 = true := by kernel_rfl
theorem plainTry_106 : plainFn Try.prog 106 = true := by kernel_rfl
theorem plainTry_86 : plainFn Try.prog 86 = true := by kernel_rfl
theorem plainTry_87 : plainFn Try.prog 87 = true := by kernel_rfl
theorem plainTry_88 : plainFn Try.prog 88 = true := by kernel_rfl
theorem plainTry_85 : plainFn Try.prog 85 = true := by kernel_rfl

theorem mag_get {d : DV} {l : List Nat} (h : Mag d l) (hl : l.length ≤ 9223372036854775807) : True := trivial
/-- How long a list is without the zeros at its end. -/
def trimN (l : List Nat) : Nat → Nat
  | 0 => 0
  | k + 1 => if l.getD k 0 = 0 then trimN l k else k + 1
theorem trimN_le (l : List Nat) : ∀ k, trimN l k ≤ k
  | 0 => Nat.le_refl _
  | k + 1 => by have := trimN_le l k; simp only [trimN]; split <;> omega
theorem trimN_zero (l : List Nat) : ∀ k i, trimN l k ≤ i → i < k → l.getD i 0 = 0
  | 0, i, _, h => by omega
  | k + 1, i, h1, h2 => by
    simp only [trimN] at h1
    split at h1
    · rename_i h
      by_cases e : i = k
      · subst e; exact h
      · exact trimN_zero l k i h1 (by omega)
    · omega
theorem trimN_last (l : List Nat) : ∀ k, 0 < trimN l k → l.getD (trimN l k - 1) 0 ≠ 0
  | 0, h => by simp [trimN] at h
  | k + 1, h => by
    simp only [trimN] at h ⊢
    split
    · rename_i h2; rw [if_pos h2] at h; exact trimN_last l k h
    · rename_i h2; simpa using h2
abbrev trimL (l : List Nat) : List Nat := l.take (trimN l l.length)
theorem trim_val (l : List Nat) : val (trimL l) = val l := val_trim (trimN_le l _) fun i hi h => by
  have := trimN_zero l l.length i h hi
  rwa [show l.getD i 0 = l[i] by simp [hi]] at this
theorem trim_can (l : List Nat) : Big.Can (trimL l) := can_trim (trimN_le l _) fun h h2 => by
  have := trimN_last l l.length h
  rwa [show l.getD (trimN l l.length - 1) 0 = l[trimN l l.length - 1] by simp [h2]] at this
set_option maxRecDepth 10000 in
theorem trim107 {d : DV} {l : List Nat} (hd : Mag d l) (hl : l.length ≤ 9223372036854775807) : DeepCall Try.prog 107 [d] (takeV (trimN l l.length) d) := by
  refine deepCall_K 5 Try.func107 rfl (Nat.le_of_ble_eq_true rfl) fun M W0 => ?_
  refine KC.seq ?_
  refine KC.region ?_
  refine KT.step rfl rfl (K.assign rfl) ?_
  refine KT.nil ?_
  refine thenK_n ?_
  refine KC.seq ?_
  refine KC.block ?_
  refine KC.loop (fun _ : Nat => []) (fun k => [(0, .d (takeV k d))]) (fun k => k ≤ l.length ∧ trimN l k = trimN l l.length) (fun k => k) l.length ⟨Nat.le_refl _, rfl⟩ rfl (by simp [Go.Vm.look, extK, enterK, takeV_all hd]) ?_
  intro k hk
  obtain ⟨hk, he⟩ := hk
  have hv := takeV_vec hd hk
  have hlen : (l.take k).length = k := by simp; omega
  refine KC.seq ?_
  refine KC.seq ?_
  refine KC.region ?_
  refine KT.step rfl rfl (K.move rfl) ?_
  refine KT.step rfl rfl (K.len rfl hv Try.underlying85) ?_
  refine KT.step rfl rfl (K.gtr rfl rfl) ?_
  refine KT.step rfl rfl (K.move rfl) ?_
  refine KT.bcase (fun hb6 => ?_) (fun hb6 => ?_)
  · skip
    replace hb6 := of_decide_eq_true hb6
    rw [hlen] at hb6
    refine KT.step rfl rfl (K.move rfl) ?_
    refine KT.step rfl rfl (K.move rfl) ?_
    refine KT.step rfl rfl (K.len rfl hv Try.underlying85) ?_
    refine KT.step rfl rfl (K.sub rfl rfl (show IntKind.i64.wrap (((l.take k).length : Int) - 1) = ((k - 1 : Nat) : Int) from by rw [hlen, wrap_id (by omega)]; omega)) ?_
    rw [hlen]
    refine KT.idx rfl rfl rfl hv rfl (show k - 1 < (l.take k).length by omega) Try.underlying85 Try.size96 fun c11 cs11 hq11 => ?_
    obtain rfl := hq11
    refine KT.step rfl rfl (K.load rfl Try.agg96) ?_
    refine KT.step rfl rfl (K.eql rfl rfl) ?_
    refine KT.step rfl rfl (K.pick rfl (fun _ => rfl) (fun h => by cases h)) ?_
    refine KT.nil ?_
    refine thenK_n ?_
    refine KC.cond rfl (fun hc14 => ?_) (fun hc14 => ?_)
    · skip
      replace hc14 := of_decide_eq_true hc14
      have hkl : k - 1 < l.length := by omega
      have h14 : l.getD (k - 1) 0 = 0 := by
        have := hc14
        rw [List.getElem_take] at this
        rw [show l.getD (k - 1) 0 = l[k - 1] by simp [hkl]]
        omega
      refine KC.skip ?_
      refine thenK_n ?_
      refine KC.block ?_
      refine KC.region ?_
      refine KT.step rfl rfl (K.move rfl) ?_
      refine KT.step rfl rfl (K.move rfl) ?_
      refine KT.step rfl rfl (K.len rfl hv Try.underlying85) ?_
      refine KT.step rfl rfl (K.sub rfl rfl (show IntKind.i64.wrap (((l.take k).length : Int) - 1) = ((k - 1 : Nat) : Int) from by rw [hlen, wrap_id (by omega)]; omega)) ?_
      refine KT.step rfl rfl (K.takeV (m := k - 1) rfl hv rfl (by omega) Try.underlying85 Try.size96) ?_
      refine KT.step rfl rfl (K.assign rfl) ?_
      refine KT.nil ?_
      refine blockK_n ?_
      refine thenK_n ?_
      refine ⟨k - 1, ⟨by omega, ?_⟩, by omega, rfl, by simp [Go.Vm.look, extK, takeV_takeV]⟩
      rw [← he]
      obtain ⟨j, rfl⟩ : ∃ j, k = j + 1 := ⟨k - 1, by omega⟩
      simp only [Nat.add_sub_cancel]
      conv => rhs; unfold trimN
      rw [if_pos (by simpa using h14)]
    · skip
      replace hc14 := of_decide_eq_false hc14
      have hkl : k - 1 < l.length := by omega
      have h14 : l.getD (k - 1) 0 ≠ 0 := by
        have := hc14
        rw [List.getElem_take] at this
        rw [show l.getD (k - 1) 0 = l[k - 1] by simp [hkl]]
        omega
      refine KC.exit ?_
      refine thenK_x ?_
      refine thenK_x ?_
      refine blockK_e ?_
      refine thenK_n ?_
      refine KC.seq ?_
      refine KC.region ?_
      refine KT.step rfl rfl (K.move rfl) ?_
      refine KT.step rfl rfl (K.assign rfl) ?_
      refine KT.nil ?_
      refine thenK_n ?_
      refine KC.ret ?_
      exact ⟨.inl rfl, _, rfl, fin_d (by
        rw [← he]
        obtain ⟨j, rfl⟩ : ∃ j, k = j + 1 := ⟨k - 1, by omega⟩
        unfold trimN
        rw [if_neg (by simpa using h14)])⟩
  · skip
    replace hb6 := of_decide_eq_false hb6
    rw [hlen] at hb6
    refine KT.skip rfl rfl ?_
    refine KT.skip rfl rfl ?_
    refine KT.skip rfl rfl ?_
    refine KT.skip rfl rfl ?_
    refine KT.skip rfl rfl ?_
    refine KT.skip rfl rfl ?_
    refine KT.skip rfl rfl ?_
    refine KT.step rfl rfl (K.pick rfl (fun h => by cases h) (fun _ => rfl)) ?_
    refine KT.nil ?_
    refine thenK_n ?_
    refine KC.cond rfl (fun hc14 => ?_) (fun hc14 => ?_)
    · cases hc14
    · skip
      refine KC.exit ?_
      refine thenK_x ?_
      refine thenK_x ?_
      refine blockK_e ?_
      refine thenK_n ?_
      refine KC.seq ?_
      refine KC.region ?_
      refine KT.step rfl rfl (K.move rfl) ?_
      refine KT.step rfl rfl (K.assign rfl) ?_
      refine KT.nil ?_
      refine thenK_n ?_
      refine KC.ret ?_
      exact ⟨.inl rfl, _, rfl, fin_d (by
        rw [← he]
        obtain rfl : k = 0 := by omega
        rfl)⟩

/-- Whether a list of digits is above another one. -/
def aboveB (a b : List Nat) : Bool := if a.length ≠ b.length then decide (b.length < a.length) else decide (val b < val a)
set_option maxRecDepth 10000 in
theorem above105 {d e : DV} {a b : List Nat} (hd : Mag d a) (he : Mag e b) (da : Dig a) (db : Dig b) (ha : a.length ≤ 9223372036854775807) (hb : b.length ≤ 9223372036854775807) : DeepCall Try.prog 105 [d, e] (DB (aboveB a b)) := by
  refine deepCall_K 5 Try.func105 rfl (Nat.le_of_ble_eq_true rfl) fun M W0 => ?_
  refine KC.seq ?_
  refine KC.region ?_
  refine KT.step rfl rfl (K.assign rfl) ?_
  refine KT.nil ?_
  refine thenK_n ?_
  refine KC.seq ?_
  refine KC.seq ?_
  refine KC.region ?_
  refine KT.step rfl rfl (K.move rfl) ?_
  refine KT.step rfl rfl (K.len rfl hd Try.underlying85) ?_
  refine KT.step rfl rfl (K.move rfl) ?_
  refine KT.step rfl rfl (K.len rfl he Try.underlying85) ?_
  refine KT.step rfl rfl (K.neq rfl rfl) ?_
  refine KT.nil ?_
  refine thenK_n ?_
  refine KC.cond rfl (fun hc10 => ?_) (fun hc10 => ?_)
  · skip
    replace hc10 := of_decide_eq_true hc10
    refine KC.seq ?_
    refine KC.region ?_
    refine KT.step rfl rfl (K.move rfl) ?_
    refine KT.step rfl rfl (K.len rfl hd Try.underlying85) ?_
    refine KT.step rfl rfl (K.move rfl) ?_
    refine KT.step rfl rfl (K.len rfl he Try.underlying85) ?_
    refine KT.step rfl rfl (K.gtr rfl rfl) ?_
    refine KT.step rfl rfl (K.assign rfl) ?_
    refine KT.nil ?_
    refine thenK_n ?_
    refine KC.ret ?_
    refine thenK_r ?_
    refine ⟨.inl rfl, _, rfl, fin_b ?_⟩
    unfold aboveB
    rw [if_pos (by omega)]
    exact decide_eq_decide.2 (by omega)
  · skip
    replace hc10 := of_decide_eq_false hc10
    have hl : a.length = b.length := by omega
    refine KC.skip ?_
    refine thenK_n ?_
    refine KC.seq ?_
    refine KC.seq ?_
    refine KC.region ?_
    refine KT.step rfl rfl (K.move rfl) ?_
    refine KT.step rfl rfl (K.len rfl hd Try.underlying85) ?_
    refine KT.step rfl rfl (K.sub rfl rfl (wrap_id (by omega))) ?_
    refine KT.step rfl rfl (K.assign rfl) ?_
    refine KT.nil ?_
    refine thenK_n ?_
    refine KC.block ?_
    refine KC.loop (fun _ : Nat => []) (fun k => [(0, .d d), (1, .d e), (5, .d (DI ((k : Int) - 1)))]) (fun k => k ≤ a.length ∧ a.drop k = b.drop k) (fun k => k) a.length ⟨Nat.le_refl _, by rw [List.drop_length, hl, List.drop_length]⟩ rfl (by simp [Go.Vm.look, extK, enterK]) ?_
    intro k hk
    obtain ⟨hk, hs⟩ := hk
    refine KC.seq ?_
    refine KC.seq ?_
    refine KC.region ?_
    refine KT.step rfl rfl (K.move rfl) ?_
    refine KT.step rfl rfl (K.geq rfl rfl) ?_
    refine KT.nil ?_
    refine thenK_n ?_
    refine KC.cond rfl (fun hc20 => ?_) (fun hc20 => ?_)
    · skip
      replace hc20 := of_decide_eq_true hc20
      have hk1 : ((k : Int) - 1) = ((k - 1 : Nat) : Int) := by omega
      rw [hk1]
      have q1 : k - 1 < a.length := by omega
      have q2 : k - 1 < b.length := by omega
      refine KC.skip ?_
      refine thenK_n ?_
      refine KC.seq ?_
      refine KC.block ?_
      refine KC.seq ?_
      refine KC.draw Try.mixed ?_
      refine KT.step rfl rfl (K.move rfl) ?_
      refine KT.step rfl rfl (K.move rfl) ?_
      refine KT.idx rfl rfl rfl hd rfl q1 Try.underlying85 Try.size96 fun c25 cs25 hq25 => ?_
      obtain rfl := hq25
      refine KT.step rfl rfl (K.load rfl Try.agg96) ?_
      refine KT.step rfl rfl (K.move rfl) ?_
      refine KT.step rfl rfl (K.move rfl) ?_
      refine KT.idx rfl rfl rfl he rfl q2 Try.underlying85 Try.size96 fun c29 cs29 hq29 => ?_
      obtain rfl := hq29
      refine KT.step rfl rfl (K.load rfl Try.agg96) ?_
      refine KT.step rfl rfl (K.neq rfl rfl) ?_
      refine KT.nil ?_
      refine ⟨by kernel_rfl, ?_⟩
      refine thenK_n ?_
      refine KC.cond rfl (fun hc31 => ?_) (fun hc31 => ?_)
      · skip
        replace hc31 := of_decide_eq_true hc31
        refine KC.seq ?_
        refine KC.draw Try.mixed ?_
        refine KT.step rfl rfl (K.move rfl) ?_
        refine KT.step rfl rfl (K.move rfl) ?_
        refine KT.idx rfl rfl rfl hd rfl q1 Try.underlying85 Try.size96 fun c34 cs34 hq34 => ?_
        obtain rfl := hq34
        refine KT.step rfl rfl (K.load rfl Try.agg96) ?_
        refine KT.step rfl rfl (K.move rfl) ?_
        refine KT.step rfl rfl (K.move rfl) ?_
        refine KT.idx rfl rfl rfl he rfl q2 Try.underlying85 Try.size96 fun c38 cs38 hq38 => ?_
        obtain rfl := hq38
        refine KT.step rfl rfl (K.load rfl Try.agg96) ?_
        refine KT.step rfl rfl (K.gtr rfl rfl) ?_
        refine KT.step rfl rfl (K.assign rfl) ?_
        refine KT.nil ?_
        refine ⟨by kernel_rfl, ?_⟩
        refine thenK_n ?_
        refine KC.ret ?_
        refine blockK_r ?_
        refine thenK_r ?_
        refine thenK_r ?_
        refine blockK_r ?_
        refine thenK_r ?_
        refine ⟨.inl rfl, _, rfl, fin_b ?_⟩
        unfold aboveB
        rw [if_neg (by omega)]
        have := val_cmp da db hl q1 (by rw [show k - 1 + 1 = k by omega]; exact hs) (by omega)
        exact decide_eq_decide.2 (by rw [this]; omega)
      · skip
        replace hc31 := of_decide_eq_false hc31
        refine KC.skip ?_
        refine blockK_n ?_
        refine thenK_n ?_
        refine KC.region ?_
        refine KT.step rfl rfl (K.move rfl) ?_
        refine KT.step rfl rfl (K.sub rfl rfl (wrap_id (by omega))) ?_
        refine KT.step rfl rfl (K.assign rfl) ?_
        refine KT.nil ?_
        refine thenK_n ?_
        refine ⟨k - 1, ⟨by omega, ?_⟩, by omega, rfl, ?_⟩
        · rw [List.drop_eq_getElem_cons (show k - 1 < a.length by omega), List.drop_eq_getElem_cons (show k - 1 < b.length by omega), show k - 1 + 1 = k by omega, hs]
          have : a[k - 1] = b[k - 1] := by omega
          rw [this]
        · simp [Go.Vm.look, extK] <;> omega
    · skip
      replace hc20 := of_decide_eq_false hc20
      refine KC.exit ?_
      refine thenK_x ?_
      refine thenK_x ?_
      refine blockK_e ?_
      refine thenK_n ?_
      refine KC.seq ?_
      refine KC.region ?_
      refine KT.step rfl rfl (K.assign rfl) ?_
      refine KT.nil ?_
      refine thenK_n ?_
      refine KC.ret ?_
      refine ⟨.inl rfl, _, rfl, fin_b ?_⟩
      obtain rfl : k = 0 := by omega
      simp only [List.drop_zero] at hs
      subst hs
      unfold aboveB
      simp
end Go.Proofs.Ytlomhajhoecoiaa
