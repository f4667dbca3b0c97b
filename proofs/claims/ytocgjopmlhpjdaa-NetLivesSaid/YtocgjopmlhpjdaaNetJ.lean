import Derived.Test.YtocgjopmlhpjdaaNetI
/-
  Nets: the siphons and the greatest trap that the program returns.
-/
namespace Go.Proofs.Ytocgjopmlhpjdaa
open Go.Vm
set_option maxRecDepth 10000 in
theorem containsO_nil {σ : List VObj} {set : Nat} : OwnCall Try.prog 86 σ [.d (DI (set : Nat)), .d Dnil] σ (.d (DB false)) := by
  refine ownCall_K Try.func86 rfl (Nat.le_of_ble_eq_true rfl) fun M W0 => ?_
  refine KC.seq ?_
  refine KC.region ?_
  refine KT.step rfl rfl (K.assign rfl) ?_
  refine KT.nil ?_
  refine thenK_n ?_
  refine KC.seq ?_
  refine KC.seq ?_
  refine KC.region ?_
  refine KT.step rfl rfl (K.move rfl) ?_
  refine KT.step rfl rfl (K.len (l := ([] : List Int)) (R := IsI) rfl .nil Try.underlying23) ?_
  refine KT.step rfl rfl (K.move rfl) ?_
  refine KT.nil ?_
  refine thenK_n ?_
  refine KC.block ?_
  refine KC.loop (fun _ : Nat => σ) (fun i => [(0, .d (DI (set : Nat))), (7, .d Dnil), (8, .d (DI (0 : Nat))), (9, .d (DI i))]) (fun i => i ≤ 0) (fun i => 0 - i) 0 (Nat.le_refl _) rfl (by simp [Go.Vm.look, extK, enterK]) ?_
  intro i hi
  refine KC.seq ?_
  refine KC.region ?_
  refine KT.step rfl rfl (K.lss rfl rfl) ?_
  refine KT.nil ?_
  refine thenK_n ?_
  refine KC.seq ?_
  refine KC.cond rfl (fun hc10 => ?_) (fun hc10 => ?_)
  · skip
    replace hc10 := of_decide_eq_true hc10
    exfalso; omega
  · skip
    refine KC.exit ?_
    refine thenK_x ?_
    refine thenK_x ?_
    refine blockK_e ?_
    refine thenK_n ?_
    refine KC.seq ?_
    refine KC.region ?_
    refine KT.step rfl rfl (K.assign rfl) ?_
    refine KT.nil ?_
    refine thenK_n ?_
    refine KC.ret ?_
    exact ⟨.inl rfl, rfl, rfl⟩

set_option maxRecDepth 10000 in
theorem containsO_sl {σ : List VObj} {set id : Nat} {l : List Nat} (ho : σ[id]? = some ⟨l.map fun n => .d (DI (n : Nat)), 0⟩) (hl : l.length ≤ 9223372036854775807) (hs : set < 2 ^ 63) (hp : ∀ p ∈ l, p < 2 ^ 63) : OwnCall Try.prog 86 σ [.d (DI (set : Nat)), .osl id 0 l.length 1 l.length false] σ (.d (DB (l.any (partB set)))) := by
  refine ownCall_K Try.func86 rfl (Nat.le_of_ble_eq_true rfl) fun M W0 => ?_
  refine KC.seq ?_
  refine KC.region ?_
  refine KT.step rfl rfl (K.assign rfl) ?_
  refine KT.nil ?_
  refine thenK_n ?_
  refine KC.seq ?_
  refine KC.seq ?_
  refine KC.region ?_
  refine KT.step rfl rfl (K.move rfl) ?_
  refine KT.step rfl rfl (K.lenO rfl Try.underlying23) ?_
  refine KT.step rfl rfl (K.move rfl) ?_
  refine KT.nil ?_
  refine thenK_n ?_
  refine KC.block ?_
  refine KC.loop (fun _ : Nat => σ) (fun i => [(0, .d (DI (set : Nat))), (7, .osl id 0 l.length 1 l.length false), (8, .d (DI l.length)), (9, .d (DI i))]) (fun i => i ≤ l.length ∧ (l.take i).any (partB set) = false) (fun i => l.length - i) 0 ⟨Nat.zero_le _, by simp⟩ rfl (by simp [Go.Vm.look, extK, enterK]) ?_
  intro i hi
  obtain ⟨hi, hall⟩ := hi
  refine KC.seq ?_
  refine KC.region ?_
  refine KT.step rfl rfl (K.lss rfl rfl) ?_
  refine KT.nil ?_
  refine thenK_n ?_
  refine KC.seq ?_
  refine KC.cond rfl (fun hc10 => ?_) (fun hc10 => ?_)
  · skip
    replace hc10 := of_decide_eq_true hc10
    have hlt : i < l.length := by omega
    refine KC.skip ?_
    refine thenK_n ?_
    refine KC.seq ?_
    refine KC.block ?_
    refine KC.seq ?_
    refine KC.region ?_
    refine KT.step rfl rfl (K.idxO rfl rfl (by omega) Try.underlying23 Try.size3) ?_
    refine KT.step rfl rfl (K.loadO (y := .d (DI (l[i] : Nat))) rfl ho (by simp) (by simp [hlt]) Try.agg3) ?_
    refine KT.step rfl rfl (K.assign rfl) ?_
    refine KT.nil ?_
    refine thenK_n ?_
    refine KC.seq ?_
    refine KC.region ?_
    refine KT.step rfl rfl (K.move rfl) ?_
    refine KT.step rfl rfl (K.move rfl) ?_
    refine KT.step rfl rfl (K.bandNot rfl rfl (diffI (hp _ (List.getElem_mem hlt)) hs)) ?_
    refine KT.step rfl rfl (K.eql rfl rfl) ?_
    refine KT.nil ?_
    refine thenK_n ?_
    refine KC.cond rfl (fun hc16 => ?_) (fun hc16 => ?_)
    · skip
      rw [nat_eq] at hc16
      refine KC.seq ?_
      refine KC.region ?_
      refine KT.step rfl rfl (K.assign rfl) ?_
      refine KT.nil ?_
      refine thenK_n ?_
      refine KC.ret ?_
      refine blockK_r ?_
      refine thenK_r ?_
      refine thenK_r ?_
      refine blockK_r ?_
      refine thenK_r ?_
      exact ⟨.inl rfl, by rw [any_true (i := i) hlt hc16]; rfl, rfl⟩
    · skip
      rw [nat_eq] at hc16
      refine KC.skip ?_
      refine blockK_n ?_
      refine thenK_n ?_
      refine KC.region ?_
      refine KT.step rfl rfl (K.add rfl rfl (wrap_id (by omega))) ?_
      refine KT.step rfl rfl (K.move rfl) ?_
      refine KT.nil ?_
      refine thenK_n ?_
      refine ⟨i + 1, ⟨by omega, ?_⟩, by omega, rfl, by simp [Go.Vm.look, extK]⟩
      rw [any_take _ hlt, hall, partB, hc16]; rfl
  · skip
    replace hc10 := of_decide_eq_false hc10
    refine KC.exit ?_
    refine thenK_x ?_
    refine thenK_x ?_
    refine blockK_e ?_
    refine thenK_n ?_
    refine KC.seq ?_
    refine KC.region ?_
    refine KT.step rfl rfl (K.assign rfl) ?_
    refine KT.nil ?_
    refine thenK_n ?_
    refine KC.ret ?_
    exact ⟨.inl rfl, by rw [any_end (i := i) (by omega) hall]; rfl, rfl⟩

/-- The siphons below n that the program has found. -/
def sipL (pre post : List (List Int)) : Nat → List Nat
  | 0 => []
  | n + 1 => if 1 ≤ n ∧ siphB pre post n = true ∧ (sipL pre post n).any (partB n) = false then sipL pre post n ++ [n] else sipL pre post n
theorem sipL_lt (pre post : List (List Int)) : ∀ n, ∀ p ∈ sipL pre post n, 1 ≤ p ∧ p < n ∧ siphB pre post p = true
  | 0, p, h => by simp [sipL] at h
  | n + 1, p, h => by
    simp only [sipL] at h
    split at h
    · rename_i hc
      rw [List.mem_append] at h
      rcases h with h | h
      · have := sipL_lt pre post n p h
        exact ⟨this.1, by omega, this.2.2⟩
      · simp at h; subst h; exact ⟨hc.1, by omega, hc.2.1⟩
    · have := sipL_lt pre post n p h
      exact ⟨this.1, by omega, this.2.2⟩
theorem sipL_len (pre post : List (List Int)) : ∀ n, (sipL pre post n).length ≤ n
  | 0 => by simp [sipL]
  | n + 1 => by
    have := sipL_len pre post n
    simp only [sipL]
    split
    · simp; omega
    · omega
def natsX (l : List Nat) : List XV := l.map fun n => .d (DI (n : Nat))
theorem containsO {σ : List VObj} {x : XV} {set : Nat} {l : List Nat} (h : OwnK 1 σ x (natsX l)) (hl : l.length ≤ 9223372036854775807) (hs : set < 2 ^ 63) (hp : ∀ p ∈ l, p < 2 ^ 63) : OwnCall Try.prog 86 σ [.d (DI (set : Nat)), x] σ (.d (DB (l.any (partB set)))) := by
  generalize hc : natsX l = cells at h
  cases h with
  | nil =>
    have : l = [] := by cases l <;> simp [natsX] at hc ⊢
    subst this; exact containsO_nil
  | @sl id n cells h hn =>
    subst hc
    have : n = l.length := by simp [natsX] at hn; omega
    subst this
    exact containsO_sl h hl hs hp
theorem bytes3 : bytesT Try.prog 3 ≤ 65536 := of_decide_eq_true (by kernel_rfl)
theorem cells3 : (zeroT Try.prog 3).map (·.cells.size) = some 1 := by kernel_rfl
structure SipI (size : Nat) (pre post : List (List Int)) (s : List Int) (σ : List VObj) (x : XV) (n : Nat) : Prop where
  lo : 1 ≤ n
  hi : n ≤ 2 ^ size
  h0 : σ[0]? = some ⟨.d (DI size) :: .d (toksD pre) :: .d (toksD post) :: (w6 (tk s)).map .d, 0⟩
  own : OwnK 1 σ x (natsX (sipL pre post n))
  id0 : ∀ j, idX x = some j → 1 ≤ j
  nil : sipL pre post n = [] → x = .d Dnil
theorem pow6 {n : Nat} (h : n ≤ 6) : 2 ^ n ≤ 64 := Nat.le_trans (Nat.pow_le_pow_right (by decide) h) (by decide)
theorem fin_ownK {σ : List VObj} {k : Nat} {x : XV} {l : List Nat} (h : OwnK 1 σ x (natsX l)) (hne : l = [] → x = .d Dnil) : deepen (freezeAll σ) (k + 2) x = some (slOf (l.map fun n => DI (n : Nat))) := by
  generalize hc : natsX l = cells at h
  cases h with
  | nil =>
    have : l = [] := by cases l <;> simp [natsX] at hc ⊢
    subst this; rfl
  | @sl id n cells ho hn =>
    subst hc
    have hn' : n = l.length := by simp [natsX] at hn; omega
    subst hn'
    have hd : l ≠ [] := fun e => by have := hne e; cases this
    have e0 : natsX l = (l.map fun n => DI (n : Nat)).map XV.d := by simp [natsX]
    rw [deepen_osl (ob := ⟨natsX l, 1⟩) (by simp [freezeAll, ho]) rfl (by simp [natsX]), List.drop_zero, List.take_of_length_le (by simp [natsX]), e0, mapM_deep]
    cases l with
    | nil => exact absurd rfl hd
    | cons a l => simp [slOf]
set_option maxRecDepth 10000 in
theorem siphons61 {size : Nat} {pre post : List (List Int)} {s : List Int} (h6 : size ≤ 6) (hpp : post.length = pre.length) (hlen : pre.length ≤ 6) : DeepCall Try.prog 61 [sysD size pre post s] (slOf ((sipL pre post (2 ^ size)).map fun n => DI (n : Nat))) := by
  have hp6 := pow6 h6
  refine deepCall_K 5 Try.func61 rfl (Nat.le_of_ble_eq_true rfl) fun M W0 => ?_
  refine KC.seq ?_
  refine KC.region ?_
  refine KT.step rfl rfl (K.box rfl) ?_
  refine KT.step rfl rfl (K.assign rfl) ?_
  refine KT.nil ?_
  refine thenK_n ?_
  refine KC.seq ?_
  refine KC.region ?_
  refine KT.step rfl rfl (K.assign rfl) ?_
  refine KT.nil ?_
  refine thenK_n ?_
  refine KC.seq ?_
  refine KC.seq ?_
  refine KC.region ?_
  refine KT.step rfl rfl (K.assign rfl) ?_
  refine KT.nil ?_
  refine thenK_n ?_
  refine KC.block ?_
  refine KC.loop (fun p : List VObj × XV × Nat => p.1) (fun p => [(1, .optr 0 0), (3, p.2.1), (4, .d (DI (p.2.2 : Nat)))]) (fun p => SipI size pre post s p.1 p.2.1 p.2.2) (fun p => 2 ^ size - p.2.2) ([⟨.d (DI size) :: .d (toksD pre) :: .d (toksD post) :: (w6 (tk s)).map .d, 0⟩], .d Dnil, 1) ⟨Nat.le_refl _, Nat.one_le_two_pow, rfl, .nil, (fun j h => by cases h), fun _ => rfl⟩ rfl (by simp [Go.Vm.look, extK, enterK]) ?_
  intro p hp
  obtain ⟨σ0, x0, n⟩ := p
  obtain ⟨lo, hi, h0, own, id0, nil⟩ := hp
  simp only at lo hi h0 own id0 nil ⊢
  have hn63 : n < 2 ^ 63 := by omega
  have hll := sipL_len pre post n
  have hlp : ∀ p ∈ sipL pre post n, p < 2 ^ 63 := fun p hp => by have := sipL_lt pre post n p hp; omega
  refine KC.seq ?_
  refine KC.seq ?_
  refine KC.region ?_
  refine KT.step rfl rfl (K.move rfl) ?_
  refine KT.step rfl rfl (K.fieldAddrO rfl Try.fld66_0 Try.size3) ?_
  refine KT.step rfl rfl (K.loadO rfl h0 (by simp) rfl Try.agg3) ?_
  refine KT.step rfl rfl (K.shl rfl rfl (by omega) (shlI (by omega))) ?_
  refine KT.step rfl rfl (K.lss rfl rfl) ?_
  refine KT.nil ?_
  refine thenK_n ?_
  refine KC.cond rfl (fun hc9 => ?_) (fun hc9 => ?_)
  · skip
    replace hc9 := of_decide_eq_true hc9
    refine KC.skip ?_
    refine thenK_n ?_
    refine KC.seq ?_
    refine KC.block ?_
    refine KC.seq ?_
    refine KC.region ?_
    refine KT.step rfl rfl (K.loadOAgg (m := 9) rfl h0 (by simp) Try.agg66 Try.size66 (by simp [w6])) ?_
    refine KT.step rfl rfl (K.move rfl) ?_
    refine KT.step rfl rfl (K.call2 rfl rfl plainTry_85 (isSiphon85 hpp hlen hn63)) ?_
    refine KT.step rfl rfl (K.move rfl) ?_
    refine KT.bcase (fun hb15 => ?_) (fun hb15 => ?_)
    · skip
      refine KT.step rfl rfl (K.move rfl) ?_
      refine KT.step rfl rfl (K.move rfl) ?_
      refine KT.step rfl rfl (K.callO rfl plainTry_86 (containsO own (by omega) hn63 hlp)) ?_
      refine KT.step rfl rfl (K.not rfl) ?_
      refine KT.step rfl rfl (K.pick rfl (fun _ => rfl) (fun h => by cases h)) ?_
      refine KT.nil ?_
      refine thenK_n ?_
      refine KC.cond rfl (fun hc20 => ?_) (fun hc20 => ?_)
      · skip
        have hstep : sipL pre post (n + 1) = sipL pre post n ++ [n] := by
          simp only [sipL]
          rw [if_pos ⟨lo, hb15, by simpa using hc20⟩]
        refine KC.region ?_
        refine KT.step rfl rfl (K.move rfl) ?_
        refine KT.step rfl rfl (K.move rfl) ?_
        refine KT.step rfl rfl (K.build1' rfl rfl Try.underlying23 Try.one3) ?_
        refine KT.appK (k := 1) (vs := [.d (DI (n : Nat))]) rfl rfl rfl rfl (own.pushed _) (by simp) rfl rfl (by simp [natsX]; omega) Try.underlying23 Try.size3 bytes3 cells3 (by omega) fun σ1 x1 ho1 k1 w1 => ?_
        refine KT.step rfl rfl (K.assign rfl) ?_
        refine KT.nil ?_
        refine blockK_n ?_
        refine thenK_n ?_
        refine KC.region ?_
        refine KT.step rfl rfl (K.move rfl) ?_
        refine KT.step rfl rfl (K.add rfl rfl (wrap_id (by omega))) ?_
        refine KT.step rfl rfl (K.assign rfl) ?_
        refine KT.nil ?_
        refine thenK_n ?_
        refine ⟨(σ1, x1, n + 1), ⟨by simp only; omega, by simp only; omega, ?_, ?_, ?_, ?_⟩, by simp only; omega, rfl, by simp [Go.Vm.look, extK]⟩
        · rw [k1 0 (fun e => by have := id0 _ e; omega) (by have := (List.getElem?_eq_some_iff.1 h0).1; simp), List.getElem?_append_left (List.getElem?_eq_some_iff.1 h0).1]; exact h0
        · simp only [hstep]; simpa [natsX] using ho1
        · intro j hj; obtain ⟨j', e1, f1⟩ := w1; rw [e1] at hj; cases hj; have := (List.getElem?_eq_some_iff.1 h0).1; simp at f1; omega
        · simp only [hstep]; intro e; simp at e
      · skip
        have hstep : sipL pre post (n + 1) = sipL pre post n := by
          simp only [sipL]
          rw [if_neg (by simp_all)]
        refine KC.skip ?_
        refine blockK_n ?_
        refine thenK_n ?_
        refine KC.region ?_
        refine KT.step rfl rfl (K.move rfl) ?_
        refine KT.step rfl rfl (K.add rfl rfl (wrap_id (by omega))) ?_
        refine KT.step rfl rfl (K.assign rfl) ?_
        refine KT.nil ?_
        refine thenK_n ?_
        refine ⟨(σ0, x0, n + 1), ⟨by simp only; omega, by simp only; omega, h0, ?_, id0, ?_⟩, by simp only; omega, rfl, by simp [Go.Vm.look, extK]⟩
        · simp only [hstep]; exact own
        · simp only [hstep]; exact nil
    · skip
      refine KT.skip rfl rfl ?_
      refine KT.skip rfl rfl ?_
      refine KT.skip rfl rfl ?_
      refine KT.skip rfl rfl ?_
      refine KT.step rfl rfl (K.pick rfl (fun h => by cases h) (fun _ => rfl)) ?_
      refine KT.nil ?_
      refine thenK_n ?_
      refine KC.cond rfl (fun hc20 => ?_) (fun hc20 => ?_)
      · cases hc20
      · skip
        refine KC.skip ?_
        refine blockK_n ?_
        refine thenK_n ?_
        refine KC.region ?_
        refine KT.step rfl rfl (K.move rfl) ?_
        refine KT.step rfl rfl (K.add rfl rfl (wrap_id (by omega))) ?_
        refine KT.step rfl rfl (K.assign rfl) ?_
        refine KT.nil ?_
        refine thenK_n ?_
        have hstep : sipL pre post (n + 1) = sipL pre post n := by
          simp only [sipL]
          rw [if_neg (by simp_all)]
        refine ⟨(σ0, x0, n + 1), ⟨by simp only; omega, by simp only; omega, h0, ?_, id0, ?_⟩, by simp only; omega, rfl, by simp [Go.Vm.look, extK]⟩
        · simp only [hstep]; exact own
        · simp only [hstep]; exact nil
  · skip
    replace hc9 := of_decide_eq_false hc9
    obtain rfl : n = 2 ^ size := by omega
    refine KC.exit ?_
    refine thenK_x ?_
    refine thenK_x ?_
    refine blockK_e ?_
    refine thenK_n ?_
    refine KC.seq ?_
    refine KC.region ?_
    refine KT.step rfl rfl (K.move rfl) ?_
    refine KT.step rfl rfl (K.assign rfl) ?_
    refine KT.nil ?_
    refine thenK_n ?_
    refine KC.ret ?_
    exact ⟨.inl rfl, _, rfl, fin_ownK own nil⟩
end Go.Proofs.Ytocgjopmlhpjdaa

