import Derived.Test.YthbnnffmhnjpjaaCyEg
import Derived.Test.YthbnnffmhnjpjaaCyE
/-
  Times: fractions, and ways that are longer by one arc.
-/
namespace Go.Proofs.Ythbnnffmhnjpjaa
open Go.Vm Go.Cy
theorem plainTry_97 : plainFn Try.prog 97 = true := by kernel_rfl
theorem plainTry_94 : plainFn Try.prog 94 = true := by kernel_rfl
theorem plainTry_95 : plainFn Try.prog 95 = true := by kernel_rfl
theorem plainTry_93 : plainFn Try.prog 93 = true := by kernel_rfl

theorem build59z : pureRun Try.prog (Instr.build 59 #[]) = some (.agg #[.int .i64 0, .int .i64 0]) := by kernel_rfl
theorem build59n (a b : Int) : pureRun Try.prog (Instr.build 59 #[(0, .int .i64 a), (1, .int .i64 b)]) = some (.agg #[.int .i64 a, .int .i64 b]) := by kernel_rfl
theorem tmodN (a b : Nat) : Int.tmod (a : Int) (b : Int) = ((a % b : Nat) : Int) := by rw [Int.tmod_eq_emod_of_nonneg (by omega)]; rfl
set_option maxRecDepth 10000 in
theorem divisor97 (a b : Nat) : DeepCall Try.prog 97 [DI (a : Nat), DI (b : Nat)] (DI (Nat.gcd a b : Nat)) := by
  refine deepCall_K 5 Try.func97 rfl (Nat.le_of_ble_eq_true rfl) fun M W0 => ?_
  refine KC.seq ?_
  refine KC.region ?_
  refine KT.step rfl rfl (K.assign rfl) ?_
  refine KT.nil ?_
  refine thenK_n ?_
  refine KC.seq ?_
  refine KC.block ?_
  refine KC.loop (fun _ : Nat × Nat => []) (fun p => [(0, .d (DI (p.1 : Nat))), (1, .d (DI (p.2 : Nat)))]) (fun p => Nat.gcd p.1 p.2 = Nat.gcd a b) (fun p => p.2) (a, b) rfl rfl (by simp [Go.Vm.look, extK, enterK]) ?_
  intro p hp
  obtain ⟨c, d⟩ := p
  simp only at hp ⊢
  refine KC.seq ?_
  refine KC.seq ?_
  refine KC.region ?_
  refine KT.step rfl rfl (K.move rfl) ?_
  refine KT.step rfl rfl (K.neq rfl rfl) ?_
  refine KT.nil ?_
  refine thenK_n ?_
  refine KC.cond rfl (fun hc6 => ?_) (fun hc6 => ?_)
  · skip
    replace hc6 := of_decide_eq_true hc6
    refine KC.skip ?_
    refine thenK_n ?_
    refine KC.block ?_
    refine KC.draw Try.mixed ?_
    refine KT.step rfl rfl (K.move rfl) ?_
    refine KT.step rfl rfl (K.move rfl) ?_
    refine KT.step rfl rfl (K.move rfl) ?_
    refine KT.step rfl rfl (K.rem rfl rfl (by omega) (tmodN c d)) ?_
    refine KT.step rfl rfl (K.assign rfl) ?_
    refine KT.step rfl rfl (K.assign rfl) ?_
    refine KT.nil ?_
    refine ⟨by kernel_rfl, ?_⟩
    refine blockK_n ?_
    refine thenK_n ?_
    refine ⟨(d, c % d), ?_, Nat.mod_lt _ (by omega), rfl, by simp [Go.Vm.look, extK]⟩
    show Nat.gcd d (c % d) = _
    rw [← hp, Nat.gcd_comm d, ← Nat.gcd_rec, Nat.gcd_comm]
  · skip
    replace hc6 := of_decide_eq_false hc6
    refine KC.exit ?_
    refine thenK_x ?_
    refine thenK_x ?_
    refine blockK_e ?_
    refine thenK_n ?_
    refine KC.seq ?_
    refine KC.region ?_
    refine KT.step rfl rfl (K.move rfl) ?_
    refine KT.step rfl rfl (K.assign rfl) ?_
    refine KT.nil ?_
    refine thenK_n ?_
    refine KC.ret ?_
    obtain rfl : d = 0 := by omega
    rw [Nat.gcd_zero_right] at hp
    exact ⟨.inl rfl, _, rfl, fin_d (by rw [hp])⟩
set_option maxRecDepth 10000 in
theorem below94 {a b c e : Int} (h1 : -9223372036854775808 ≤ a * e ∧ a * e ≤ 9223372036854775807) (h2 : -9223372036854775808 ≤ c * b ∧ c * b ≤ 9223372036854775807) : DeepCall Try.prog 94 [.agg [DI a, DI b], .agg [DI c, DI e]] (DB (belowI (a, b) (c, e))) := by
  refine deepCall_K 5 Try.func94 rfl (Nat.le_of_ble_eq_true rfl) fun M W0 => ?_
  refine KC.seq ?_
  refine KC.region ?_
  refine KT.step rfl rfl (K.box rfl) ?_
  refine KT.step rfl rfl (K.box rfl) ?_
  refine KT.step rfl rfl (K.assign rfl) ?_
  refine KT.nil ?_
  refine thenK_n ?_
  refine KC.seq ?_
  refine KC.region ?_
  refine KT.step rfl rfl (K.fieldAddrO rfl Try.fld59_0 Try.size3) ?_
  refine KT.step rfl rfl (K.loadO rfl rfl (by simp) rfl Try.agg3) ?_
  refine KT.step rfl rfl (K.fieldAddrO rfl Try.fld59_1 Try.size3) ?_
  refine KT.step rfl rfl (K.loadO rfl rfl (by simp) rfl Try.agg3) ?_
  refine KT.step rfl rfl (K.mul rfl rfl (wrapI h1)) ?_
  refine KT.step rfl rfl (K.fieldAddrO rfl Try.fld59_0 Try.size3) ?_
  refine KT.step rfl rfl (K.loadO rfl rfl (by simp) rfl Try.agg3) ?_
  refine KT.step rfl rfl (K.fieldAddrO rfl Try.fld59_1 Try.size3) ?_
  refine KT.step rfl rfl (K.loadO rfl rfl (by simp) rfl Try.agg3) ?_
  refine KT.step rfl rfl (K.mul rfl rfl (wrapI h2)) ?_
  refine KT.step rfl rfl (K.lss rfl rfl) ?_
  refine KT.step rfl rfl (K.assign rfl) ?_
  refine KT.nil ?_
  refine thenK_n ?_
  refine KC.ret ?_
  exact ⟨.inl rfl, _, rfl, fin_b rfl⟩

theorem max_abs (a : Int) : max a (-a) = (a.natAbs : Int) := by omega
theorem tdiv_bd {a : Int} {g : Nat} (hg : 0 < g) {B : Int} (h : -B ≤ a ∧ a ≤ B) : -B ≤ a.tdiv (g : Int) ∧ a.tdiv (g : Int) ≤ B := by
  have h1 : (a.tdiv (g : Int)).natAbs ≤ a.natAbs := by rw [Int.natAbs_tdiv]; exact Nat.div_le_self _ _
  omega
set_option maxRecDepth 10000 in
theorem lowest95 {a b : Int} (ha : -1000000000000000000 ≤ a ∧ a ≤ 1000000000000000000) (hb : 0 < b ∧ b ≤ 1000000000000000000) : DeepCall Try.prog 95 [.agg [DI a, DI b]] (.agg [DI (lowI (a, b)).1, DI (lowI (a, b)).2]) := by
  have hg : 0 < Nat.gcd a.natAbs b.natAbs := Nat.gcd_pos_of_pos_right _ (by omega)
  have hbN : b = (b.natAbs : Int) := by omega
  have q1 := tdiv_bd hg ha
  have q2 := tdiv_bd (a := b) (B := 1000000000000000000) hg ⟨by omega, hb.2⟩
  refine deepCall_K 5 Try.func95 rfl (Nat.le_of_ble_eq_true rfl) fun M W0 => ?_
  refine KC.seq ?_
  refine KC.region ?_
  refine KT.step rfl rfl (K.box rfl) ?_
  refine KT.step rfl rfl (K.alloc Try.zero59) ?_
  refine KT.nil ?_
  refine thenK_n ?_
  refine KC.seq ?_
  refine KC.region ?_
  refine KT.step rfl rfl (K.fieldAddrO rfl Try.fld59_0 Try.size3) ?_
  refine KT.step rfl rfl (K.loadO rfl rfl (by simp) rfl Try.agg3) ?_
  refine KT.step rfl rfl (K.fieldAddrO rfl Try.fld59_0 Try.size3) ?_
  refine KT.step rfl rfl (K.loadO rfl rfl (by simp) rfl Try.agg3) ?_
  refine KT.step rfl rfl (K.unI rfl (show IntKind.i64.wrap (0 - a) = -a from by rw [Int.zero_sub]; exact wrap_id (by omega))) ?_
  refine KT.step rfl rfl (K.max2 rfl rfl) ?_
  rw [max_abs]
  refine KT.step rfl rfl (K.fieldAddrO rfl Try.fld59_1 Try.size3) ?_
  refine KT.step rfl rfl (K.loadO rfl rfl (by simp) rfl Try.agg3) ?_
  refine KT.step rfl rfl (K.call2 rfl rfl plainTry_97 (show DeepCall Try.prog 97 [DI (a.natAbs : Nat), DI b] (DI (Nat.gcd a.natAbs b.natAbs : Nat)) from by have := divisor97 a.natAbs b.natAbs; rwa [← hbN] at this)) ?_
  refine KT.step rfl rfl (K.assign rfl) ?_
  refine KT.nil ?_
  refine thenK_n ?_
  refine KC.seq ?_
  refine KC.draw Try.mixed ?_
  refine KT.step rfl rfl (K.fieldAddrO rfl Try.fld59_0 Try.size3) ?_
  refine KT.step rfl rfl (K.loadO rfl rfl (by simp) rfl Try.agg3) ?_
  refine KT.step rfl rfl (K.move rfl) ?_
  refine KT.step rfl rfl (K.quo rfl rfl (by omega) (wrap_id (by omega))) ?_
  refine KT.step rfl rfl (K.fieldAddrO rfl Try.fld59_1 Try.size3) ?_
  refine KT.step rfl rfl (K.loadO rfl rfl (by simp) rfl Try.agg3) ?_
  refine KT.step rfl rfl (K.move rfl) ?_
  refine KT.step rfl rfl (K.quo rfl rfl (by omega) (wrap_id (by omega))) ?_
  refine KT.step rfl rfl (K.buildL rfl (build59n _ _)) ?_
  refine KT.step rfl rfl (K.storeN rfl rfl rfl (Nat.le_refl 2) rfl Try.size59) ?_
  refine KT.nil ?_
  refine ⟨by kernel_rfl, ?_⟩
  refine thenK_n ?_
  refine KC.ret ?_
  exact ⟨.inl rfl, _, resK_agg (m := 2) rfl rfl rfl (by simp) Try.agg59 Try.size59 (Nat.le_refl 2), rfl⟩

def extI (n : Nat) (a : Nat → Nat → Int) (x : Nat → Int) (j : Nat) : Int := greR n fun i => aft (x i) (a i j)
def extX (n : Nat) (a : Nat → Nat → Int) (x : Nat → Int) (j : Nat) : XV := .d (DI (extI n a x j))
theorem gre2 (k : Nat) (f : Nat → Int) : gre [greR k f, f k] = greR (k + 1) f := by
  rw [greR_succ]
  have := gre_ge ((List.range k).map f)
  show max (max Nv (greR k f)) (f k) = _
  unfold greR; omega
theorem ext_fin {n : Nat} {a : Nat → Nat → Int} {x : Nat → Int} {old : Nat → XV} {τ : List VObj} : deepen (freezeAll (⟨mixL n (extX n a x) old n, 0⟩ :: τ)) 5 (.osl 0 0 n 1 n true) = some (rowG n (extI n a x)) := by
  rw [deepen_cells (k := 3) (ds := (List.range n).map fun j => DI (extI n a x j)) (cells := mixL n (extX n a x) old n) (by simp [freezeAll]) (by rw [mixL_full]; simp [extX, Function.comp_def]) (by simp)]
  rfl
set_option maxRecDepth 10000 in
theorem extended93 {d r : DV} {n : Nat} {a : Nat → Nat → Int} {x : Nat → Int} (hd : Mat d (genM n n a)) (hr : Ints r ((List.range n).map x)) (hn : n ≤ 1000) (ha : GoodM 1000000000000 a) (hx : ∀ i, Cy.Good 1000000000000 (x i)) : DeepCall Try.prog 93 [r, d] (rowG n (extI n a x)) := by
  refine deepCall_K 5 Try.func93 rfl (Nat.le_of_ble_eq_true rfl) fun M W0 => ?_
  refine KC.seq ?_
  refine KC.region ?_
  refine KT.step rfl rfl (K.assign rfl) ?_
  refine KT.nil ?_
  refine thenK_n ?_
  refine KC.seq ?_
  refine KC.region ?_
  refine KT.step rfl rfl (K.move rfl) ?_
  refine KT.step rfl rfl (K.len rfl hd Try.underlying22) ?_
  rw [genM_len]
  refine KT.step rfl rfl (K.make rfl rfl (Nat.le_refl _) (by omega) Try.underlying33 Try.one3) ?_
  rw [mixL_rep (n := n) (f := (extX n a x))]
  refine KT.step rfl rfl (K.assign rfl) ?_
  refine KT.nil ?_
  refine thenK_n ?_
  refine KC.seq ?_
  refine KC.seq ?_
  refine KC.region ?_
  refine KT.step rfl rfl (K.move rfl) ?_
  refine KT.step rfl rfl (K.lenO rfl Try.underlying33) ?_
  refine KT.step rfl rfl (K.move rfl) ?_
  refine KT.nil ?_
  refine thenK_n ?_
  refine KC.block ?_
  refine KC.loop (fun p : List VObj × Nat => ⟨mixL n (extX n a x) (fun _ => .d (.lit (.int .i64 0))) p.2, 0⟩ :: p.1) (fun p => [(0, .d r), (1, .d d), (5, .osl 0 0 n 1 n true), (13, .d (DI (n : Nat))), (14, .d (DI (p.2 : Nat)))]) (fun p => p.2 ≤ n) (fun p => n - p.2) ([], 0) (Nat.zero_le _) rfl (by simp [Go.Vm.look, extK, enterK]) ?_
  intro p hj
  obtain ⟨τ, j⟩ := p
  simp only at hj ⊢
  refine KC.seq ?_
  refine KC.region ?_
  refine KT.step rfl rfl (K.lss rfl rfl) ?_
  refine KT.nil ?_
  refine thenK_n ?_
  refine KC.seq ?_
  refine KC.cond rfl (fun hc15 => ?_) (fun hc15 => ?_)
  · skip
    replace hc15 := of_decide_eq_true hc15
    refine KC.skip ?_
    refine thenK_n ?_
    refine KC.seq ?_
    refine KC.block ?_
    refine KC.seq ?_
    refine KC.region ?_
    refine KT.step rfl rfl (K.move rfl) ?_
    refine KT.step rfl rfl (K.assign rfl) ?_
    refine KT.nil ?_
    refine thenK_n ?_
    refine KC.seq ?_
    refine KC.region ?_
    refine KT.step rfl rfl (K.move rfl) ?_
    refine KT.step rfl rfl (K.move rfl) ?_
    refine KT.step rfl rfl (K.idxO rfl rfl (by omega) Try.underlying33 Try.size3) ?_
    refine KT.step rfl rfl (K.storeO rfl rfl rfl (by rw [mixL_len]; omega) rfl rfl Try.size3) ?_
    rw [mixL_put (show j < n by omega)]
    refine KT.nil ?_
    refine thenK_n ?_
    refine KC.seq ?_
    refine KC.region ?_
    refine KT.step rfl rfl (K.move rfl) ?_
    refine KT.step rfl rfl (K.len rfl hr Try.underlying33) ?_
    rw [show ((List.range n).map x).length = n by simp]
    refine KT.step rfl rfl (K.move rfl) ?_
    refine KT.nil ?_
    refine thenK_n ?_
    refine KC.block ?_
    refine KC.loop (fun p : List VObj × Nat => ⟨mixL n (extX n a x) (fun q => if q = j then (.d (DI (greR p.2 fun q => aft (x q) (a q j)))) else (.d (.lit (.int .i64 0)))) j, 0⟩ :: p.1) (fun p => [(0, .d r), (1, .d d), (5, .osl 0 0 n 1 n true), (13, .d (DI (n : Nat))), (14, .d (DI (j : Nat))), (6, .d (DI (j : Nat))), (20, .d r), (21, .d (DI (n : Nat))), (22, .d (DI (p.2 : Nat)))]) (fun p => p.2 ≤ n) (fun p => n - p.2) (τ, 0) (Nat.zero_le _) rfl (by simp [Go.Vm.look, extK, enterK]) ?_
    intro p hi
    obtain ⟨τ2, i⟩ := p
    simp only at hi ⊢
    refine KC.seq ?_
    refine KC.region ?_
    refine KT.step rfl rfl (K.lss rfl rfl) ?_
    refine KT.nil ?_
    refine thenK_n ?_
    refine KC.seq ?_
    refine KC.cond rfl (fun hc23 => ?_) (fun hc23 => ?_)
    · skip
      replace hc23 := of_decide_eq_true hc23
      refine KC.skip ?_
      refine thenK_n ?_
      refine KC.seq ?_
      refine KC.block ?_
      refine KC.seq ?_
      refine KC.region ?_
      refine KT.step rfl rfl (K.move rfl) ?_
      refine KT.idxI rfl rfl rfl (by assumption) rfl (by simp; omega) Try.underlying33 Try.size3 fun cs25 => ?_
      rw [get_range]
      refine KT.step rfl rfl (K.load rfl Try.agg3) ?_
      refine KT.step rfl rfl (K.assign rfl) ?_
      refine KT.step rfl rfl (K.assign rfl) ?_
      refine KT.nil ?_
      refine thenK_n ?_
      refine KC.draw Try.mixed ?_
      refine KT.step rfl rfl (K.move rfl) ?_
      refine KT.step rfl rfl (K.move rfl) ?_
      refine KT.step rfl rfl (K.move rfl) ?_
      refine KT.step rfl rfl (K.move rfl) ?_
      refine KT.step rfl rfl (K.idxO rfl rfl (by omega) Try.underlying33 Try.size3) ?_
      refine KT.step rfl rfl (K.loadO rfl rfl (by simp) (mixL_get (by omega)) Try.agg3) ?_
      refine KT.step rfl rfl (K.move rfl) ?_
      refine KT.step rfl rfl (K.move rfl) ?_
      refine KT.step rfl rfl (K.move rfl) ?_
      refine KT.idx rfl rfl rfl (by assumption) rfl (by rw [genM_len]; omega) Try.underlying22 Try.size33 fun c36 cs36 hq36 => ?_
      rw [genM_row] at hq36
      refine KT.step rfl rfl (K.load rfl Try.agg33) ?_
      refine KT.step rfl rfl (K.move rfl) ?_
      refine KT.idxI rfl rfl rfl (by assumption) rfl (by simp; omega) Try.underlying33 Try.size3 fun cs39 => ?_
      rw [get_range]
      refine KT.step rfl rfl (K.load rfl Try.agg3) ?_
      refine KT.step rfl rfl (K.call2 rfl rfl plainTry_87 (after87 (good_bd (hx i) (Int.le_refl _)) (good_bd (ha i j) (Int.le_refl _)))) ?_
      refine KT.step rfl rfl (K.build2s (a := (.d (DI (greR i fun q => aft (x q) (a q j))))) (b := .d (DI (aft (x i) (a i j)))) rfl rfl rfl rfl Try.underlying33 Try.one3) ?_
      refine KT.step rfl rfl (K.callO rfl plainTry_60 (greatest60_own' (md := 0) (l := [greR i fun q => aft (x q) (a q j), aft (x i) (a i j)]) rfl (List.getElem?_concat_length ..) (by simp) (by omega))) ?_
      rw [gre2 i fun q => aft (x q) (a q j)]
      refine KT.step rfl rfl (K.idxO rfl rfl (by omega) Try.underlying33 Try.size3) ?_
      refine KT.step rfl rfl (K.storeO rfl rfl rfl (by rw [mixL_len]; omega) rfl rfl Try.size3) ?_
      rw [mixL_put2 (show j < n by omega)]
      refine KT.nil ?_
      refine ⟨by kernel_rfl, ?_⟩
      refine blockK_n ?_
      refine thenK_n ?_
      refine KC.region ?_
      refine KT.step rfl rfl (K.add rfl rfl (wrap_id (by omega))) ?_
      refine KT.step rfl rfl (K.move rfl) ?_
      refine KT.nil ?_
      refine thenK_n ?_
      exact ⟨(τ2 ++ [_], i + 1), by simp only; omega, by simp only; omega, rfl, by simp [Go.Vm.look, extK]⟩
    · skip
      replace hc23 := of_decide_eq_false hc23
      refine KC.exit ?_
      refine thenK_x ?_
      refine thenK_x ?_
      refine blockK_e ?_
      refine blockK_n ?_
      refine thenK_n ?_
      refine KC.region ?_
      refine KT.step rfl rfl (K.add rfl rfl (wrap_id (by omega))) ?_
      refine KT.step rfl rfl (K.move rfl) ?_
      refine KT.nil ?_
      refine thenK_n ?_
      obtain rfl : i = n := by omega
      refine ⟨(τ2, j + 1), by simp only; omega, by simp only; omega, ?_, by simp [Go.Vm.look, extK]⟩
      rw [← mixL_done (show j < i by omega)]; rfl
  · skip
    replace hc15 := of_decide_eq_false hc15
    refine KC.exit ?_
    refine thenK_x ?_
    refine thenK_x ?_
    refine blockK_e ?_
    refine thenK_n ?_
    refine KC.seq ?_
    refine KC.region ?_
    refine KT.step rfl rfl (K.move rfl) ?_
    refine KT.step rfl rfl (K.assign rfl) ?_
    refine KT.nil ?_
    refine thenK_n ?_
    refine KC.ret ?_
    obtain rfl : j = n := by omega
    exact ⟨.inl rfl, _, rfl, ext_fin⟩
end Go.Proofs.Ythbnnffmhnjpjaa

