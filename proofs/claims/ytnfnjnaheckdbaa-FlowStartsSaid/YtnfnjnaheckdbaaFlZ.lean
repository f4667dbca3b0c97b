import Derived.Test.YtnfnjnaheckdbaaFlS
import Derived.Test.YtnfnjnaheckdbaaFlRa
/-
  Dataflow graphs: Repeat of the reference.
-/
namespace Go.Proofs.Ytnfnjnaheckdbaa
open Go.Vm Go.Fl
theorem plainTry_20 : plainFn Try.prog 20 = true := by kernel_rfl
theorem plainTry_47 : plainFn Try.prog 47 = true := by kernel_rfl

end Go.Proofs.Ytnfnjnaheckdbaa
namespace Go.Vm
theorem KAll.nil {p : Nat → Prop} : KAll p [] := trivial
theorem KAll.cons {p : Nat → Prop} {i : Nat} {l : List Nat} (h : p i) (hl : KAll p l) : KAll p (i :: l) := ⟨h, hl⟩
theorem KC.ordersN {P : Program} {M : Nat → Prop} {W0 : World} {n : Nat} {ops : Array Oper} {σ : List VObj} {kn : Kn} (hm : P.follows .mixedOrders = true) {rid m : Nat} (hs : ops.size = m) {T T' : Exit → List VObj → Kn → Prop} (h : KA P M W0 n ops (T' .normal) m (Array.replicate m false) σ kn) (ht : ∀ e τ k, T' e τ k → T e τ k) : KC P M W0 n (.region rid ops true) σ kn T := by
  subst hs
  exact (KC.orders hm h).mono ht
/-- An element of an array of plain values. -/
theorem K.indexL {P : Program} {σ : List VObj} {kn : Kn} {dst : Option Tmp} {ty : TypeId} {pos : String} {af : Array Edge} {g : Option (Nat × Bool)} {t : TypeId} {x i : Operand} {v u w : Value} (hx : evK kn x = some (.d (.lit v))) (hi : evK kn i = some (.d (.lit u))) (hr : pureRun P (Instr.index t v u) = some w) :
    KEv P ⟨dst, .index t x i, ty, pos, af, g⟩ σ kn (.d (.lit w)) σ 0 := by
  refine K.lit (ρ := fun z => ((evK kn z).bind litOf).getD undef) (fun z hz => ?_) rfl ?_
  · simp only [Op.operands, List.mem_toArray, List.mem_cons, List.not_mem_nil, or_false] at hz
    rcases hz with rfl | rfl
    · rw [hx]; rfl
    · rw [hi]; rfl
  · simp only [execOp]
    rw [hx, hi]
    exact pureRun_v hr
end Go.Vm
namespace Go.Fl
def wx (l : LN) (w : Nat) : Nat := if w = 0 then l.f else l.t
def wy (l : LN) (w : Nat) : Nat := if w = 0 then l.t else l.f
def wn (l : LN) (w : Nat) : Nat := if w = 0 then l.g else l.k
def wd (l : LN) (w : Nat) : Nat := if w = 0 then l.k else l.g
def halfR (l : LN) (w : Nat) (R : Rat6) : Rat6 := if 0 < (R (wx l w)).1 ∧ (R (wy l w)).1 = 0 then setF R (wy l w) (timesF (R (wx l w)) (wn l w) (wd l w)) else R
def halves (l : LN) (R : Rat6) : Nat → Rat6
  | 0 => R
  | w + 1 => halfR l w (halves l R w)
theorem kn_pos {N : Nat} {R : Rat6} (hG : GoodR N R) (a : Nat) : knB (R a) = true ↔ 0 < (R a).1 := by
  constructor
  · intro h; exact (hG.val a h).n0
  · intro h; unfold knB; simp; omega
theorem kn_zero {N : Nat} {R : Rat6} (hG : GoodR N R) (a : Nat) : knB (R a) = false ↔ (R a).1 = 0 := by
  have := kn_pos hG a
  constructor
  · intro h
    rcases Nat.eq_zero_or_pos (R a).1 with e | e
    · exact e
    · rw [this.2 e] at h; cases h
  · intro h
    cases hk : knB (R a) with
    | false => rfl
    | true => have := this.1 hk; omega
theorem wx_ok {N : Nat} {l : LN} (hl : OkL N l) (w : Nat) : wx l w < N ∧ wy l w < N ∧ 1 ≤ wn l w ∧ wn l w ≤ 6 ∧ 1 ≤ wd l w ∧ wd l w ≤ 6 := by
  unfold wx wy wn wd
  split
  · exact ⟨hl.f, hl.t, hl.g1, hl.g6, hl.k1, hl.k6⟩
  · exact ⟨hl.t, hl.f, hl.k1, hl.k6, hl.g1, hl.g6⟩
theorem half_good {N : Nat} {l : LN} {R : Rat6} (hN : N ≤ 6) (hl : OkL N l) (w : Nat) (hG : GoodR N R) : GoodR N (halfR l w R) := by
  unfold halfR
  split
  · rename_i h
    obtain ⟨o1, o2, o3, o4, o5, o6⟩ := wx_ok hl w
    have hp := hG.pos
    have h4 := timesF_good (hG.val _ ((kn_pos hG _).2 h.1)) o3 o4 o5 o6
    exact (hG.set hN o2 ((kn_zero hG _).2 h.2) (by rwa [show knum R - 1 + 1 = knum R by omega] at h4)).1
  · exact hG
theorem halves_step {N : Nat} {l : LN} {R : Rat6} {b : Bool} (hN : N ≤ 6) (hl : OkL N l) (hG : GoodR N R) : halves l R 2 = (stepR (R, b) l).1 := by
  show halfR l 1 (halfR l 0 R) = _
  have k0 := half_good hN hl 0 hG
  unfold stepR
  by_cases h1 : knB (R l.f) = knB (R l.t)
  · rw [if_pos h1]
    have e0 : halfR l 0 R = R := if_neg (by
      rintro ⟨p, z⟩
      have p : 0 < (R l.f).1 := p
      have z : (R l.t).1 = 0 := z
      rw [(kn_pos hG _).2 p, (kn_zero hG _).2 z] at h1; cases h1)
    rw [e0]
    exact if_neg (by
      rintro ⟨p, z⟩
      have p : 0 < (R l.t).1 := p
      have z : (R l.f).1 = 0 := z
      rw [(kn_pos hG _).2 p, (kn_zero hG _).2 z] at h1; cases h1)
  · rw [if_neg h1]
    by_cases h2 : knB (R l.f) = false
    · rw [if_pos h2]
      have h3 : knB (R l.t) = true := by rw [h2] at h1; simpa using h1
      have z := (kn_zero hG _).1 h2
      have p := (kn_pos hG _).1 h3
      have e0 : halfR l 0 R = R := if_neg (by
        rintro ⟨p', _⟩
        have p' : 0 < (R l.f).1 := p'
        omega)
      rw [e0]
      exact if_pos ⟨p, z⟩
    · rw [if_neg h2]
      have h2 : knB (R l.f) = true := by simpa using h2
      have h3 : knB (R l.t) = false := by rw [h2] at h1; simpa using h1
      have p := (kn_pos hG _).1 h2
      have z := (kn_zero hG _).1 h3
      have e0 : halfR l 0 R = setF R l.t (timesF (R l.f) l.g l.k) := if_pos ⟨p, z⟩
      rw [e0] at k0 ⊢
      refine if_neg ?_
      rintro ⟨_, z'⟩
      have z' : (setF R l.t (timesF (R l.f) l.g l.k) l.f).1 = 0 := z'
      unfold setF at z'
      rw [if_neg (fun e => by rw [e] at p; omega)] at z'
      omega
def part (q : Nat → Nat) (j : Nat) : Nat := tot fun a => if a < j then q a else 0
theorem part_step {q : Nat → Nat} {j : Nat} (hj : j < 6) : part q (j + 1) = part q j + q j := by
  have h := tot_upd (X := fun a => if a < j then q a else 0) (v := q j) hj
  have e : (fun a => if a = j then q j else if a < j then q a else 0) = fun a => if a < j + 1 then q a else 0 := by
    funext a
    by_cases e : a = j
    · subst e; rw [if_pos rfl, if_pos (by omega)]
    · rw [if_neg e]
      by_cases h2 : a < j
      · rw [if_pos h2, if_pos (by omega)]
      · rw [if_neg h2, if_neg (by omega)]
  rw [e] at h
  simp only [Nat.lt_irrefl, if_false, Nat.add_zero] at h
  exact h
theorem part_le {q : Nat → Nat} {B : Nat} (h : ∀ j, q j ≤ B) (j : Nat) : part q j ≤ 6 * B := by
  have : part q j ≤ tot fun _ => B := tot_le fun a _ => by
    show (if a < j then q a else 0) ≤ B
    split
    · exact h a
    · omega
  have e : tot (fun _ => B) = 6 * B := by show B + B + B + B + B + B = _; omega
  omega
theorem part_full {q : Nat → Nat} {N : Nat} (h : ∀ j, N ≤ j → q j = 0) : part q N = tot q := by
  unfold part
  congr 1
  funext a
  split
  · rfl
  · exact (h a (by omega)).symm
theorem part_zero (q : Nat → Nat) : part q 0 = 0 := by unfold part; simp; rfl
theorem refO_bal {N : Nat} {L : List LN} (h : balQ L (refFold L N N) = false) : refO N L = (fun _ => 0, 5) := by unfold refO; rw [if_neg (by rw [h]; simp)]
theorem refO_big {N : Nat} {L : List LN} (h : balQ L (refFold L N N) = true) (h2 : 60 < tot (refFold L N N)) : refO N L = (fun _ => 0, 3) := by unfold refO; rw [if_pos h, if_pos h2]
theorem refO_ok {N : Nat} {L : List LN} (h : balQ L (refFold L N N) = true) (h2 : ¬ 60 < tot (refFold L N N)) : refO N L = (refFold L N N, 0) := by unfold refO; rw [if_pos h, if_neg h2]
end Go.Fl
namespace Go.Proofs.Ytnfnjnaheckdbaa
open Go.Vm Go.Fl
theorem Try.zero78 : zeroT Try.prog 78 = some (.agg #[.int .i64 0, .int .i64 0, .int .i64 0, .int .i64 0]) := by kernel_rfl
theorem Try.size78 : sizeT Try.prog 78 = some 4 := by kernel_rfl
theorem Try.agg78 : isAggT Try.prog 78 = some true := by kernel_rfl
theorem Try.underlying78 : Try.prog.underlying 78 = some (.array 4 3) := by kernel_rfl
theorem refO_rep {N : Nat} {L : List LN} (hN : N ≤ 6) (hL : ∀ l ∈ L, OkL N l) : refO N L = repO N L := by
  unfold refO repO
  cases h : repFold L N N with
  | none => rw [if_neg (by rw [balQ_none hN hL N (Nat.le_refl _) h]; simp)]
  | some q =>
    obtain ⟨e, hb⟩ := balQ_some hN hL h
    rw [if_pos hb, e]
def zObj (N : Nat) : VObj := ⟨List.replicate N (.d (.lit (.int .i64 0))), 0⟩
def Two (σ τ : List VObj) (N p q : Nat) : Prop := σ.length ≤ p ∧ σ.length ≤ q ∧ p ≠ q ∧ τ[p]? = some ⟨iX N fun _ => 0, 0⟩ ∧ τ[q]? = some ⟨iX N fun _ => 0, 0⟩ ∧ ∀ j, j < σ.length → τ[j]? = σ[j]?
theorem two_new (σ : List VObj) (N : Nat) : Two σ (σ ++ [zObj N] ++ [zObj N]) N σ.length (σ ++ [zObj N]).length := by
  have e : zObj N = ⟨iX N fun _ => 0, 0⟩ := by unfold zObj; rw [iX_zero]
  refine ⟨Nat.le_refl _, by simp, by simp, ?_, ?_, fun j hj => ?_⟩
  · rw [List.getElem?_append_left (by simp), e]; exact List.getElem?_concat_length ..
  · rw [e]; exact List.getElem?_concat_length ..
  · rw [List.getElem?_append_left (by simp; omega), List.getElem?_append_left hj]
theorem two_new2 (σ : List VObj) (N : Nat) : Two σ (σ ++ [zObj N] ++ [zObj N]) N (σ ++ [zObj N]).length σ.length := by
  obtain ⟨a, b, c, d, e, f⟩ := two_new σ N
  exact ⟨b, a, Ne.symm c, e, d, f⟩
theorem start_num {N i : Nat} (hi : i < N) : (iX N fun _ => 0).set (0 + i) (.d (DI 1)) = iX N fun a => ((startR i a).1 : Int) := by
  rw [iX_set _ hi]
  refine iX_congr fun k _ => ?_
  unfold startR
  split <;> rfl
theorem start_den {N i : Nat} (hi : i < N) : (iX N fun _ => 0).set (0 + i) (.d (DI 1)) = iX N fun a => ((startR i a).2 : Int) := by
  rw [iX_set _ hi]
  refine iX_congr fun k _ => ?_
  unfold startR
  split <;> rfl
theorem set_num {N y : Nat} {R : Rat6} {v : Fra} (hy : y < N) : (iX N fun a => ((R a).1 : Int)).set (0 + y) (.d (DI ((v.1 : Nat)))) = iX N fun a => ((setF R y v a).1 : Int) := by
  rw [iX_set _ hy]
  refine iX_congr fun k _ => ?_
  unfold setF
  split <;> rfl
theorem set_den {N y : Nat} {R : Rat6} {v : Fra} (hy : y < N) : (iX N fun a => ((R a).2 : Int)).set (0 + y) (.d (DI ((v.2 : Nat)))) = iX N fun a => ((setF R y v a).2 : Int) := by
  rw [iX_set _ hy]
  refine iX_congr fun k _ => ?_
  unfold setF
  split <;> rfl
abbrev wayV (a b c e : Int) : Value := .agg #[.int .i64 a, .int .i64 b, .int .i64 c, .int .i64 e]
abbrev waysV (l : LN) : Value := .agg #[.int .i64 (l.f : Nat), .int .i64 (l.t : Nat), .int .i64 (l.g : Nat), .int .i64 (l.k : Nat), .int .i64 (l.t : Nat), .int .i64 (l.f : Nat), .int .i64 (l.k : Nat), .int .i64 (l.g : Nat)]
theorem build78 (a b c e : Int) : pureRun Try.prog (Instr.build 78 #[(0, .int .i64 a), (1, .int .i64 b), (2, .int .i64 c), (3, .int .i64 e)]) = some (wayV a b c e) := by kernel_rfl
theorem build79 (l : LN) : pureRun Try.prog (Instr.build 79 #[(0, wayV (l.f : Nat) (l.t : Nat) (l.g : Nat) (l.k : Nat)), (1, wayV (l.t : Nat) (l.f : Nat) (l.k : Nat) (l.g : Nat))]) = some (waysV l) := by kernel_rfl
theorem idx79_0 (a b c d e f g h : Int) : pureRun Try.prog (Instr.index 79 (.agg #[.int .i64 a, .int .i64 b, .int .i64 c, .int .i64 d, .int .i64 e, .int .i64 f, .int .i64 g, .int .i64 h]) (.int .i64 0)) = some (wayV a b c d) := by kernel_rfl
theorem idx79_1 (a b c d e f g h : Int) : pureRun Try.prog (Instr.index 79 (.agg #[.int .i64 a, .int .i64 b, .int .i64 c, .int .i64 d, .int .i64 e, .int .i64 f, .int .i64 g, .int .i64 h]) (.int .i64 1)) = some (wayV e f g h) := by kernel_rfl
theorem idx79 (l : LN) {w : Nat} (hw : w < 2) : pureRun Try.prog (Instr.index 79 (waysV l) (.int .i64 (w : Nat))) = some (wayV (wx l w : Nat) (wy l w : Nat) (wn l w : Nat) (wd l w : Nat)) := by
  rcases (show w = 0 ∨ w = 1 by omega) with rfl | rfl
  · exact idx79_0 _ _ _ _ _ _ _ _
  · exact idx79_1 _ _ _ _ _ _ _ _
set_option maxRecDepth 10000 in
theorem divisor47 (a b : Nat) : DeepCall Try.prog 47 [DI (a : Nat), DI (b : Nat)] (DI (Nat.gcd a b : Nat)) := by
  refine deepCall_K 5 Try.func47 rfl (Nat.le_of_ble_eq_true rfl) fun M W0 => ?_
  refine KC.seq ?_
  refine KC.region ?_
  refine KT.step rfl rfl (K.assign rfl) ?_
  refine KT.nil ?_
  refine thenK_n ?_
  refine KC.seq ?_
  refine KC.block ?_
  refine KC.loop (fun _ : Nat × Nat => []) (fun p => [(0, .d (DI (p.1 : Nat))), (1, .d (DI (p.2 : Nat)))]) (fun p => Nat.gcd p.1 p.2 = Nat.gcd a b) (fun p => p.2) (a, b) rfl rfl (by simp [Go.Vm.look, extK, enterK]) ?_
  intro p hp
  obtain ⟨c, d⟩ := p
  simp only at hp ⊢
  refine KC.seq ?_
  refine KC.seq ?_
  refine KC.region ?_
  refine KT.step rfl rfl (K.move rfl) ?_
  refine KT.step rfl rfl (K.neq rfl rfl) ?_
  refine KT.nil ?_
  refine thenK_n ?_
  refine KC.cond rfl (fun hc6 => ?_) (fun hc6 => ?_)
  · skip
    replace hc6 := of_decide_eq_true hc6
    refine KC.skip ?_
    refine thenK_n ?_
    refine KC.block ?_
    refine KC.draw Try.mixed ?_
    refine KT.step rfl rfl (K.move rfl) ?_
    refine KT.step rfl rfl (K.move rfl) ?_
    refine KT.step rfl rfl (K.move rfl) ?_
    refine KT.step rfl rfl (K.rem rfl rfl (by omega) (tmodN c d)) ?_
    refine KT.step rfl rfl (K.assign rfl) ?_
    refine KT.step rfl rfl (K.assign rfl) ?_
    refine KT.nil ?_
    refine ⟨by kernel_rfl, ?_⟩
    refine blockK_n ?_
    refine thenK_n ?_
    refine ⟨(d, c % d), ?_, Nat.mod_lt _ (by omega), rfl, by simp [Go.Vm.look, extK]⟩
    show Nat.gcd d (c % d) = _
    rw [← hp, Nat.gcd_comm d, ← Nat.gcd_rec, Nat.gcd_comm]
  · skip
    replace hc6 := of_decide_eq_false hc6
    refine KC.exit ?_
    refine thenK_x ?_
    refine thenK_x ?_
    refine blockK_e ?_
    refine thenK_n ?_
    refine KC.seq ?_
    refine KC.region ?_
    refine KT.step rfl rfl (K.move rfl) ?_
    refine KT.step rfl rfl (K.assign rfl) ?_
    refine KT.nil ?_
    refine thenK_n ?_
    refine KC.ret ?_
    obtain rfl : d = 0 := by omega
    rw [Nat.gcd_zero_right] at hp
    subst hp
    exact ⟨.inl rfl, _, rfl, fin_d rfl⟩
end Go.Proofs.Ytnfnjnaheckdbaa

