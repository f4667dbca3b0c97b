import Derived.Test.YtocgjopmlhpjdaaNtI
/-
  Nets: siphons and traps, the program's side.
-/
namespace Go.Proofs.Ytocgjopmlhpjdaa
open Go.Vm
theorem plainTry_88 : plainFn Try.prog 88 = true := by kernel_rfl
theorem plainTry_63 : plainFn Try.prog 63 = true := by kernel_rfl
theorem plainTry_85 : plainFn Try.prog 85 = true := by kernel_rfl
theorem plainTry_86 : plainFn Try.prog 86 = true := by kernel_rfl
theorem plainTry_87 : plainFn Try.prog 87 = true := by kernel_rfl
theorem plainTry_61 : plainFn Try.prog 61 = true := by kernel_rfl
theorem plainTry_62 : plainFn Try.prog 62 = true := by kernel_rfl
theorem plainTry_91 : plainFn Try.prog 91 = true := by kernel_rfl
theorem plainTry_90 : plainFn Try.prog 90 = true := by kernel_rfl
theorem plainTry_92 : plainFn Try.prog 92 = true := by kernel_rfl
theorem plainTry_68 : plainFn Try.prog 68 = true := by kernel_rfl
theorem plainTry_70 : plainFn Try.prog 70 = true := by kernel_rfl

/-- The set of the places where a number is not zero. -/
def suppX (X : Nat → Int) : Nat → Nat
  | 0 => 0
  | i + 1 => if X i ≠ 0 then suppX X i ||| 2 ^ i else suppX X i
theorem suppX_lt (X : Nat → Int) : ∀ i, suppX X i < 2 ^ i
  | 0 => by simp [suppX]
  | i + 1 => by
    have ih := suppX_lt X i
    have h1 : suppX X i < 2 ^ (i + 1) := Nat.lt_of_lt_of_le ih (Nat.pow_le_pow_right (by decide) (by omega))
    simp only [suppX]
    split
    · exact Nat.or_lt_two_pow h1 (Nat.pow_lt_pow_right (by decide) (by omega))
    · exact h1
theorem suppX_bit (X : Nat → Int) : ∀ n p, (suppX X n).testBit p = (decide (p < n) && decide (X p ≠ 0))
  | 0, p => by simp [suppX]
  | n + 1, p => by
    have ih := suppX_bit X n p
    simp only [suppX]
    split
    · rename_i h
      rw [Nat.testBit_or, ih, Nat.testBit_two_pow]
      by_cases e : n = p
      · subst e; simp [h]
      · simp only [e, decide_false, Bool.or_false]
        rw [show decide (p < n + 1) = decide (p < n) from decide_eq_decide.2 (by omega)]
    · rename_i h
      rw [ih]
      by_cases e : n = p
      · subst e
        have : X n = 0 := Classical.not_not.1 h
        simp [this]
      · rw [show decide (p < n + 1) = decide (p < n) from decide_eq_decide.2 (by omega)]
theorem suppX_congr {X Y : Nat → Int} : ∀ n, (∀ i, i < n → X i = Y i) → suppX X n = suppX Y n
  | 0, _ => rfl
  | n + 1, h => by simp only [suppX]; rw [suppX_congr n (fun i hi => h i (by omega)), h n (by omega)]
theorem lt63 {a i : Nat} (h : a < 2 ^ i) (hi : i ≤ 62) : a < 2 ^ 63 := Nat.lt_of_lt_of_le h (Nat.pow_le_pow_right (by decide) (by omega))
set_option maxRecDepth 10000 in
theorem support88 {d : DV} {l : List Int} (hd : Ints d l) (hl : l.length ≤ 62) : DeepCall Try.prog 88 [d] (DI (suppX (tk l) l.length : Nat)) := by
  refine deepCall_K 5 Try.func88 rfl (Nat.le_of_ble_eq_true rfl) fun M W0 => ?_
  refine KC.seq ?_
  refine KC.region ?_
  refine KT.step rfl rfl (K.assign rfl) ?_
  refine KT.nil ?_
  refine thenK_n ?_
  refine KC.seq ?_
  refine KC.region ?_
  refine KT.step rfl rfl (K.assign rfl) ?_
  refine KT.nil ?_
  refine thenK_n ?_
  refine KC.seq ?_
  refine KC.seq ?_
  refine KC.region ?_
  refine KT.step rfl rfl (K.move rfl) ?_
  refine KT.step rfl rfl (K.len rfl (by assumption) Try.underlying23) ?_
  refine KT.step rfl rfl (K.move rfl) ?_
  refine KT.nil ?_
  refine thenK_n ?_
  refine KC.block ?_
  refine KC.loop (fun _ : Nat => []) (fun i => [(3, .d (DI (suppX (tk l) i : Nat))), (6, .d d), (7, .d (DI l.length)), (8, .d (DI i))]) (fun i => i ≤ l.length) (fun i => l.length - i) 0 (Nat.zero_le _) rfl (by simp [Go.Vm.look, extK, enterK, suppX]) ?_
  intro i hi
  have hs3 := lt63 (suppX_lt (tk l) i) (by omega)
  refine KC.seq ?_
  refine KC.region ?_
  refine KT.step rfl rfl (K.lss rfl rfl) ?_
  refine KT.nil ?_
  refine thenK_n ?_
  refine KC.seq ?_
  refine KC.cond rfl (fun hc9 => ?_) (fun hc9 => ?_)
  · skip
    replace hc9 := of_decide_eq_true hc9
    have hil : i < l.length := by omega
    have h63 : 2 ^ i < 2 ^ 63 := Nat.pow_lt_pow_right (by decide) (by omega)
    refine KC.skip ?_
    refine thenK_n ?_
    refine KC.seq ?_
    refine KC.block ?_
    refine KC.seq ?_
    refine KC.region ?_
    refine KT.step rfl rfl (K.move rfl) ?_
    refine KT.idxI rfl rfl rfl (by assumption) rfl (by omega) Try.underlying23 Try.size3 fun cs11 => ?_
    refine KT.step rfl rfl (K.load rfl Try.agg3) ?_
    refine KT.step rfl rfl (K.assign rfl) ?_
    refine KT.step rfl rfl (K.assign rfl) ?_
    refine KT.nil ?_
    refine thenK_n ?_
    refine KC.seq ?_
    refine KC.region ?_
    refine KT.step rfl rfl (K.move rfl) ?_
    refine KT.step rfl rfl (K.neq rfl rfl) ?_
    refine KT.nil ?_
    refine thenK_n ?_
    refine KC.cond rfl (fun hc14 => ?_) (fun hc14 => ?_)
    · skip
      replace hc14 := of_decide_eq_true hc14
      refine KC.region ?_
      refine KT.step rfl rfl (K.move rfl) ?_
      refine KT.step rfl rfl (K.move rfl) ?_
      refine KT.step rfl rfl (K.shl rfl rfl (by omega) (shlI (by omega))) ?_
      refine KT.step rfl rfl (K.bor rfl rfl (orI hs3 h63)) ?_
      refine KT.step rfl rfl (K.assign rfl) ?_
      refine KT.nil ?_
      refine blockK_n ?_
      refine thenK_n ?_
      refine KC.region ?_
      refine KT.step rfl rfl (K.add rfl rfl (wrap_id (by omega))) ?_
      refine KT.step rfl rfl (K.move rfl) ?_
      refine KT.nil ?_
      refine thenK_n ?_
      refine ⟨i + 1, by omega, by omega, rfl, by simp [Go.Vm.look, extK, suppX, tk_get hil, hc14]⟩
    · skip
      replace hc14 := of_decide_eq_false hc14
      refine KC.skip ?_
      refine blockK_n ?_
      refine thenK_n ?_
      refine KC.region ?_
      refine KT.step rfl rfl (K.add rfl rfl (wrap_id (by omega))) ?_
      refine KT.step rfl rfl (K.move rfl) ?_
      refine KT.nil ?_
      refine thenK_n ?_
      refine ⟨i + 1, by omega, by omega, rfl, by simp [Go.Vm.look, extK, suppX, tk_get hil, hc14]⟩
  · skip
    replace hc9 := of_decide_eq_false hc9
    obtain rfl : i = l.length := by omega
    refine KC.exit ?_
    refine thenK_x ?_
    refine thenK_x ?_
    refine blockK_e ?_
    refine thenK_n ?_
    refine KC.seq ?_
    refine KC.region ?_
    refine KT.step rfl rfl (K.move rfl) ?_
    refine KT.step rfl rfl (K.assign rfl) ?_
    refine KT.nil ?_
    refine thenK_n ?_
    refine KC.ret ?_
    exact ⟨.inl rfl, _, rfl, fin_d rfl⟩
set_option maxRecDepth 10000 in
theorem places63 (X : Nat → Int) : DeepCall Try.prog 63 [.agg (w6 X)] (DI (suppX X 6 : Nat)) := by
  refine deepCall_K 5 Try.func63 rfl (Nat.le_of_ble_eq_true rfl) fun M W0 => ?_
  refine KC.seq ?_
  refine KC.region ?_
  refine KT.step rfl rfl (K.box rfl) ?_
  refine KT.step rfl rfl (K.assign rfl) ?_
  refine KT.nil ?_
  refine thenK_n ?_
  refine KC.seq ?_
  refine KC.region ?_
  refine KT.step rfl rfl (K.sliceA rfl Try.underlying64 Try.size3 rfl (by simp) (by omega) (by simp [cellsX, w6])) ?_
  have hdp : (([.osl 0 0 6 1 6 true] : List XV).mapM (deepen (freezeIds [⟨(w6 X).map .d, 0⟩] [0]) 5)) = some [.sl (w6 X) 6 (some 6)] := by
    rw [List.mapM_cons, deepen_osl (ob := ⟨(w6 X).map .d, 1⟩) rfl rfl (by simp [w6]), List.drop_zero, List.take_of_length_le (by simp [w6]), mapM_deep]
    rfl
  have hin : Ints (.sl (w6 X) 6 (some 6)) ((List.range 6).map X) := by
    have : Ints (.sl (w6 X) ((List.range 6).map X).length (some 6)) ((List.range 6).map X) := .sl (by simp [w6]) fun i c x hc hx => by
      unfold w6 at hc
      rw [List.getElem?_map] at hc hx
      by_cases hi : i < 6
      · rw [List.getElem?_range hi] at hc hx
        simp at hc hx
        subst hc hx; rfl
      · rw [List.getElem?_eq_none (by simp; omega)] at hc; cases hc
    simpa using this
  have hsup := support88 hin (by simp)
  rw [show suppX (tk ((List.range 6).map X)) ((List.range 6).map X).length = suppX X 6 by
    rw [show ((List.range 6).map X).length = 6 by simp]
    exact suppX_congr 6 fun i hi => by simp [tk, hi]] at hsup
  refine KT.step rfl rfl (K.callZ [0] 5 rfl plainTry_88 hdp hsup) ?_
  refine KT.step rfl rfl (K.assign rfl) ?_
  refine KT.nil ?_
  refine thenK_n ?_
  refine KC.ret ?_
  exact ⟨.inl rfl, _, rfl, fin_d rfl⟩

/-- A row has a number that is not zero in a set. -/
def touchN (r : List Int) (set : Nat) : Bool := decide (suppX (tk r) 6 &&& set ≠ 0)
def siphQ (set : Nat) (q : List Int × List Int) : Bool := !touchN q.2 set || touchN q.1 set
def siphB (pre post : List (List Int)) (set : Nat) : Bool := (pre.zip post).all (siphQ set)
theorem supp63 (X : Nat → Int) : suppX X 6 < 2 ^ 63 := lt63 (suppX_lt X 6) (by omega)
theorem zip_get {α β : Type} {x : List α} {y : List β} {i : Nat} (hx : i < x.length) (hy : i < y.length) : (x.zip y)[i]'(by simp; omega) = (x[i], y[i]) := by simp
theorem nat_ne {n : Nat} : decide ((n : Int) ≠ 0) = decide (n ≠ 0) := decide_eq_decide.2 (by omega)
theorem nat_eq {n : Nat} : decide ((n : Int) = 0) = decide (n = 0) := decide_eq_decide.2 (by omega)
section
variable {P : Program} {σ : List VObj} {kn : Kn} {dst : Option Tmp} {ty : TypeId} {pos : String} {af : Array Edge} {g : Option (Nat × Bool)}
theorem K.lenT {x : Operand} {t e : TypeId} {cs : List DV} {len : Nat} {cap : Option Nat} (hx : evK kn x = some (.d (.sl cs len cap))) (ht : P.underlying t = some (.slice e)) :
    KEv P ⟨dst, .call ⟨.builtin .len, #[x], #[t]⟩, ty, pos, af, g⟩ σ kn (.d (DI len)) σ 0 := ev_op fun env he => by
  have e1 := evK_evalX he hx
  unfold evalOp
  rw [litOp_none (x := x) (by simp [Op.operands, Call.operands]) (by rw [e1]; rfl)]
  simp [e1, opLen, isSliceT, ht]
end
set_option maxRecDepth 10000 in
theorem isSiphon85 {size : Nat} {pre post : List (List Int)} {s : List Int} {set : Nat} (hpp : post.length = pre.length) (hlen : pre.length ≤ 6) (hs : set < 2 ^ 63) : DeepCall Try.prog 85 [sysD size pre post s, DI (set : Nat)] (DB (siphB pre post set)) := by
  refine deepCall_K 5 Try.func85 rfl (Nat.le_of_ble_eq_true rfl) fun M W0 => ?_
  refine KC.seq ?_
  refine KC.region ?_
  refine KT.step rfl rfl (K.box rfl) ?_
  refine KT.step rfl rfl (K.assign rfl) ?_
  refine KT.nil ?_
  refine thenK_n ?_
  refine KC.seq ?_
  refine KC.seq ?_
  refine KC.region ?_
  refine KT.step rfl rfl (K.fieldAddrO rfl Try.fld66_1 Try.size62) ?_
  refine KT.step rfl rfl (K.loadO rfl rfl (by simp) rfl Try.agg62) ?_
  refine KT.step rfl rfl (K.lenT rfl Try.underlying62) ?_
  refine KT.step rfl rfl (K.move rfl) ?_
  refine KT.nil ?_
  refine thenK_n ?_
  refine KC.block ?_
  refine KC.loop (fun _ : Nat => [⟨.d (DI size) :: .d (toksD pre) :: .d (toksD post) :: (w6 (tk s)).map .d, 0⟩]) (fun i => [(1, .d (DI (set : Nat))), (2, .optr 0 0), (8, .d (DI pre.length)), (9, .d (DI i))]) (fun i => i ≤ pre.length ∧ ((pre.zip post).take i).all (siphQ set) = true) (fun i => pre.length - i) 0 ⟨Nat.zero_le _, by simp⟩ rfl (by simp [Go.Vm.look, extK, enterK]) ?_
  intro i hi
  obtain ⟨hi, hall⟩ := hi
  refine KC.seq ?_
  refine KC.region ?_
  refine KT.step rfl rfl (K.lss rfl rfl) ?_
  refine KT.nil ?_
  refine thenK_n ?_
  refine KC.seq ?_
  refine KC.cond rfl (fun hc10 => ?_) (fun hc10 => ?_)
  · skip
    replace hc10 := of_decide_eq_true hc10
    have hlt : i < pre.length := by omega
    have hlt2 : i < post.length := by omega
    refine KC.skip ?_
    refine thenK_n ?_
    refine KC.seq ?_
    refine KC.block ?_
    refine KC.seq ?_
    refine KC.region ?_
    refine KT.step rfl rfl (K.move rfl) ?_
    refine KT.step rfl rfl (K.assign rfl) ?_
    refine KT.nil ?_
    refine thenK_n ?_
    refine KC.seq ?_
    refine KC.region ?_
    refine KT.step rfl rfl (K.fieldAddrO rfl Try.fld66_2 Try.size62) ?_
    refine KT.step rfl rfl (K.loadO rfl rfl (by simp) rfl Try.agg62) ?_
    refine KT.step rfl rfl (K.move rfl) ?_
    refine KT.step rfl rfl (K.idxT rfl rfl (by omega) Try.underlying62 Try.size64) ?_
    refine KT.step rfl rfl (K.loadT hlt2 rfl Try.agg64 Try.size64) ?_
    refine KT.step rfl rfl (K.call1 rfl plainTry_63 (places63 _)) ?_
    refine KT.step rfl rfl (K.move rfl) ?_
    refine KT.step rfl rfl (K.band rfl rfl (andI (supp63 _) hs)) ?_
    refine KT.step rfl rfl (K.neq rfl rfl) ?_
    refine KT.step rfl rfl (K.move rfl) ?_
    refine KT.bcase (fun hb21 => ?_) (fun hb21 => ?_)
    · skip
      rw [nat_ne] at hb21
      refine KT.step rfl rfl (K.fieldAddrO rfl Try.fld66_1 Try.size62) ?_
      refine KT.step rfl rfl (K.loadO rfl rfl (by simp) rfl Try.agg62) ?_
      refine KT.step rfl rfl (K.move rfl) ?_
      refine KT.step rfl rfl (K.idxT rfl rfl (by omega) Try.underlying62 Try.size64) ?_
      refine KT.step rfl rfl (K.loadT hlt rfl Try.agg64 Try.size64) ?_
      refine KT.step rfl rfl (K.call1 rfl plainTry_63 (places63 _)) ?_
      refine KT.step rfl rfl (K.move rfl) ?_
      refine KT.step rfl rfl (K.band rfl rfl (andI (supp63 _) hs)) ?_
      refine KT.step rfl rfl (K.eql rfl rfl) ?_
      refine KT.step rfl rfl (K.pick rfl (fun _ => rfl) (fun h => by cases h)) ?_
      refine KT.nil ?_
      refine thenK_n ?_
      refine KC.cond rfl (fun hc31 => ?_) (fun hc31 => ?_)
      · skip
        rw [nat_eq] at hc31
        refine KC.seq ?_
        refine KC.region ?_
        refine KT.step rfl rfl (K.assign rfl) ?_
        refine KT.nil ?_
        refine thenK_n ?_
        refine KC.ret ?_
        refine blockK_r ?_
        refine thenK_r ?_
        refine thenK_r ?_
        refine blockK_r ?_
        refine thenK_r ?_
        refine ⟨.inl rfl, _, rfl, fin_b (all_false (i := i) (by simp; omega) ?_)⟩
        rw [zip_get hlt hlt2]
        unfold siphQ touchN
        simp_all
      · skip
        rw [nat_eq] at hc31
        refine KC.skip ?_
        refine blockK_n ?_
        refine thenK_n ?_
        refine KC.region ?_
        refine KT.step rfl rfl (K.add rfl rfl (wrap_id (by omega))) ?_
        refine KT.step rfl rfl (K.move rfl) ?_
        refine KT.nil ?_
        refine thenK_n ?_
        refine ⟨i + 1, ⟨by omega, ?_⟩, by omega, rfl, by simp [Go.Vm.look, extK]⟩
        rw [all_take _ (by simp; omega), hall, zip_get hlt hlt2]
        have hq : siphQ set (pre[i], post[i]) = true := by
          unfold siphQ touchN
          simp_all
        rw [hq]; rfl
    · skip
      rw [nat_ne] at hb21
      refine KT.skip rfl rfl ?_
      refine KT.skip rfl rfl ?_
      refine KT.skip rfl rfl ?_
      refine KT.skip rfl rfl ?_
      refine KT.skip rfl rfl ?_
      refine KT.skip rfl rfl ?_
      refine KT.skip rfl rfl ?_
      refine KT.skip rfl rfl ?_
      refine KT.skip rfl rfl ?_
      refine KT.step rfl rfl (K.pick rfl (fun h => by cases h) (fun _ => rfl)) ?_
      refine KT.nil ?_
      refine thenK_n ?_
      refine KC.cond rfl (fun hc31 => ?_) (fun hc31 => ?_)
      · cases hc31
      · skip
        refine KC.skip ?_
        refine blockK_n ?_
        refine thenK_n ?_
        refine KC.region ?_
        refine KT.step rfl rfl (K.add rfl rfl (wrap_id (by omega))) ?_
        refine KT.step rfl rfl (K.move rfl) ?_
        refine KT.nil ?_
        refine thenK_n ?_
        refine ⟨i + 1, ⟨by omega, ?_⟩, by omega, rfl, by simp [Go.Vm.look, extK]⟩
        rw [all_take _ (by simp; omega), hall, zip_get hlt hlt2]
        have hq : siphQ set (pre[i], post[i]) = true := by
          unfold siphQ touchN
          simp_all
        rw [hq]; rfl
  · skip
    replace hc10 := of_decide_eq_false hc10
    refine KC.exit ?_
    refine thenK_x ?_
    refine thenK_x ?_
    refine blockK_e ?_
    refine thenK_n ?_
    refine KC.seq ?_
    refine KC.region ?_
    refine KT.step rfl rfl (K.assign rfl) ?_
    refine KT.nil ?_
    refine thenK_n ?_
    refine KC.ret ?_
    exact ⟨.inl rfl, _, rfl, fin_b (all_end (i := i) (by simp; omega) hall)⟩

theorem any_take {α : Type} (p : α → Bool) {l : List α} {i : Nat} (hi : i < l.length) : (l.take (i + 1)).any p = ((l.take i).any p || p l[i]) := by
  rw [List.take_succ_eq_append_getElem hi, List.any_append]
  simp
theorem any_true {α : Type} {p : α → Bool} {l : List α} {i : Nat} (hi : i < l.length) (h : p l[i] = true) : l.any p = true := List.any_eq_true.2 ⟨l[i], List.getElem_mem hi, h⟩
theorem any_end {α : Type} {p : α → Bool} {l : List α} {i : Nat} (hi : l.length ≤ i) (h : (l.take i).any p = false) : l.any p = false := by
  rwa [List.take_of_length_le hi] at h
def natsI (l : List Nat) : List Int := l.map fun (n : Nat) => (n : Int)
def partB (set : Nat) (p : Nat) : Bool := decide (diffN p set = 0)
/-- The places that no trap within the set has. -/
def lostN (pre post : List (List Int)) (set : Nat) : Nat → Nat
  | 0 => 0
  | t + 1 => if suppX (tk (post.getD t [])) 6 &&& set = 0 then lostN pre post set t ||| (suppX (tk (pre.getD t [])) 6 &&& set) else lostN pre post set t
theorem lostN_bit (pre post : List (List Int)) (set : Nat) : ∀ n p, (lostN pre post set n).testBit p = true ↔ ∃ t, t < n ∧ suppX (tk (post.getD t [])) 6 &&& set = 0 ∧ (suppX (tk (pre.getD t [])) 6 &&& set).testBit p = true
  | 0, p => by simp [lostN]
  | n + 1, p => by
    have ih := lostN_bit pre post set n p
    simp only [lostN]
    split
    · rename_i h
      rw [Nat.testBit_or, Bool.or_eq_true, ih]
      constructor
      · rintro (⟨t, h1, h2⟩ | h3)
        · exact ⟨t, by omega, h2⟩
        · exact ⟨n, by omega, h, h3⟩
      · rintro ⟨t, h1, h2, h3⟩
        by_cases e : t = n
        · subst e; exact .inr h3
        · exact .inl ⟨t, by omega, h2, h3⟩
    · rename_i h
      rw [ih]
      constructor
      · rintro ⟨t, h1, h2⟩; exact ⟨t, by omega, h2⟩
      · rintro ⟨t, h1, h2, h3⟩
        by_cases e : t = n
        · subst e; exact absurd h2 h
        · exact ⟨t, by omega, h2, h3⟩
theorem lostN_lt (pre post : List (List Int)) (set : Nat) (hs : set < 2 ^ 63) : ∀ n, lostN pre post set n < 2 ^ 63
  | 0 => by simp [lostN]
  | n + 1 => by
    have ih := lostN_lt pre post set hs n
    simp only [lostN]
    split
    · exact Nat.or_lt_two_pow ih (Nat.lt_of_le_of_lt Nat.and_le_right hs)
    · exact ih
set_option maxRecDepth 10000 in
theorem lost87 {size : Nat} {pre post : List (List Int)} {s : List Int} {set : Nat} (hpp : post.length = pre.length) (hlen : pre.length ≤ 6) (hs : set < 2 ^ 63) : DeepCall Try.prog 87 [sysD size pre post s, DI (set : Nat)] (DI (lostN pre post set pre.length : Nat)) := by
  refine deepCall_K 5 Try.func87 rfl (Nat.le_of_ble_eq_true rfl) fun M W0 => ?_
  refine KC.seq ?_
  refine KC.region ?_
  refine KT.step rfl rfl (K.box rfl) ?_
  refine KT.step rfl rfl (K.assign rfl) ?_
  refine KT.nil ?_
  refine thenK_n ?_
  refine KC.seq ?_
  refine KC.region ?_
  refine KT.step rfl rfl (K.assign rfl) ?_
  refine KT.nil ?_
  refine thenK_n ?_
  refine KC.seq ?_
  refine KC.seq ?_
  refine KC.region ?_
  refine KT.step rfl rfl (K.fieldAddrO rfl Try.fld66_1 Try.size62) ?_
  refine KT.step rfl rfl (K.loadO rfl rfl (by simp) rfl Try.agg62) ?_
  refine KT.step rfl rfl (K.lenT rfl Try.underlying62) ?_
  refine KT.step rfl rfl (K.move rfl) ?_
  refine KT.nil ?_
  refine thenK_n ?_
  refine KC.block ?_
  refine KC.loop (fun _ : Nat => [⟨.d (DI size) :: .d (toksD pre) :: .d (toksD post) :: (w6 (tk s)).map .d, 0⟩]) (fun i => [(1, .d (DI (set : Nat))), (2, .optr 0 0), (5, .d (DI (lostN pre post set i : Nat))), (9, .d (DI pre.length)), (10, .d (DI i))]) (fun i => i ≤ pre.length) (fun i => pre.length - i) 0 (Nat.zero_le _) rfl (by simp [Go.Vm.look, extK, enterK, lostN]) ?_
  intro i hi
  refine KC.seq ?_
  refine KC.region ?_
  refine KT.step rfl rfl (K.lss rfl rfl) ?_
  refine KT.nil ?_
  refine thenK_n ?_
  refine KC.seq ?_
  refine KC.cond rfl (fun hc11 => ?_) (fun hc11 => ?_)
  · skip
    replace hc11 := of_decide_eq_true hc11
    have hlt : i < pre.length := by omega
    have hlt2 : i < post.length := by omega
    refine KC.skip ?_
    refine thenK_n ?_
    refine KC.seq ?_
    refine KC.block ?_
    refine KC.seq ?_
    refine KC.region ?_
    refine KT.step rfl rfl (K.move rfl) ?_
    refine KT.step rfl rfl (K.assign rfl) ?_
    refine KT.nil ?_
    refine thenK_n ?_
    refine KC.seq ?_
    refine KC.region ?_
    refine KT.step rfl rfl (K.fieldAddrO rfl Try.fld66_2 Try.size62) ?_
    refine KT.step rfl rfl (K.loadO rfl rfl (by simp) rfl Try.agg62) ?_
    refine KT.step rfl rfl (K.move rfl) ?_
    refine KT.step rfl rfl (K.idxT rfl rfl (by omega) Try.underlying62 Try.size64) ?_
    refine KT.step rfl rfl (K.loadT hlt2 rfl Try.agg64 Try.size64) ?_
    refine KT.step rfl rfl (K.call1 rfl plainTry_63 (places63 _)) ?_
    refine KT.step rfl rfl (K.move rfl) ?_
    refine KT.step rfl rfl (K.band rfl rfl (andI (supp63 _) hs)) ?_
    refine KT.step rfl rfl (K.eql rfl rfl) ?_
    refine KT.nil ?_
    refine thenK_n ?_
    refine KC.cond rfl (fun hc21 => ?_) (fun hc21 => ?_)
    · skip
      rw [nat_eq] at hc21
      replace hc21 := of_decide_eq_true hc21
      refine KC.region ?_
      refine KT.step rfl rfl (K.move rfl) ?_
      refine KT.step rfl rfl (K.fieldAddrO rfl Try.fld66_1 Try.size62) ?_
      refine KT.step rfl rfl (K.loadO rfl rfl (by simp) rfl Try.agg62) ?_
      refine KT.step rfl rfl (K.move rfl) ?_
      refine KT.step rfl rfl (K.idxT rfl rfl (by omega) Try.underlying62 Try.size64) ?_
      refine KT.step rfl rfl (K.loadT hlt rfl Try.agg64 Try.size64) ?_
      refine KT.step rfl rfl (K.call1 rfl plainTry_63 (places63 _)) ?_
      refine KT.step rfl rfl (K.move rfl) ?_
      refine KT.step rfl rfl (K.band rfl rfl (andI (supp63 _) hs)) ?_
      refine KT.step rfl rfl (K.bor rfl rfl (orI (lostN_lt pre post set hs i) (Nat.lt_of_le_of_lt Nat.and_le_right hs))) ?_
      refine KT.step rfl rfl (K.assign rfl) ?_
      refine KT.nil ?_
      refine blockK_n ?_
      refine thenK_n ?_
      refine KC.region ?_
      refine KT.step rfl rfl (K.add rfl rfl (wrap_id (by omega))) ?_
      refine KT.step rfl rfl (K.move rfl) ?_
      refine KT.nil ?_
      refine thenK_n ?_
      refine ⟨i + 1, by omega, by omega, rfl, by simp [Go.Vm.look, extK, lostN, hlt, hlt2, hc21]⟩
    · skip
      rw [nat_eq] at hc21
      replace hc21 := of_decide_eq_false hc21
      refine KC.skip ?_
      refine blockK_n ?_
      refine thenK_n ?_
      refine KC.region ?_
      refine KT.step rfl rfl (K.add rfl rfl (wrap_id (by omega))) ?_
      refine KT.step rfl rfl (K.move rfl) ?_
      refine KT.nil ?_
      refine thenK_n ?_
      refine ⟨i + 1, by omega, by omega, rfl, by simp [Go.Vm.look, extK, lostN, hlt, hlt2, hc21]⟩
  · skip
    replace hc11 := of_decide_eq_false hc11
    obtain rfl : i = pre.length := by omega
    refine KC.exit ?_
    refine thenK_x ?_
    refine thenK_x ?_
    refine blockK_e ?_
    refine thenK_n ?_
    refine KC.seq ?_
    refine KC.region ?_
    refine KT.step rfl rfl (K.move rfl) ?_
    refine KT.step rfl rfl (K.assign rfl) ?_
    refine KT.nil ?_
    refine thenK_n ?_
    refine KC.ret ?_
    exact ⟨.inl rfl, _, rfl, fin_d rfl⟩
end Go.Proofs.Ytocgjopmlhpjdaa

