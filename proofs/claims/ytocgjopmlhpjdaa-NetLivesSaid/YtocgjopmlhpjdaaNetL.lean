import Derived.Test.YtocgjopmlhpjdaaNetK
/-
  Nets: siphons and traps by the reference.
-/
namespace Go.Proofs.Ytocgjopmlhpjdaa
open Go.Vm
theorem nilBuild25 : pureRun Try.prog (Instr.build 25 #[(0, .slice none 0 0), (1, .slice none 0 0), (2, .slice none 0 0)]) = some (.agg #[.slice none 0 0, .slice none 0 0, .slice none 0 0]) := by kernel_rfl

def touchQ (r : List Int) (set p : Nat) : Bool := decide (0 < tk r p) && set.testBit p
def touchR (r : List Int) (set : Nat) : Bool := (List.range r.length).any (touchQ r set)
theorem touch_same {r : List Int} {set : Nat} (h6 : r.length ≤ 6) (h0 : ∀ x ∈ r, 0 ≤ x) : touchR r set = touchN r set := by
  rw [Bool.eq_iff_iff, touch_iff]
  unfold touchR
  rw [List.any_eq_true]
  constructor
  · rintro ⟨p, hp, h⟩
    simp only [List.mem_range] at hp
    simp only [touchQ, Bool.and_eq_true, decide_eq_true_eq] at h
    exact ⟨p, by omega, by omega, h.2⟩
  · rintro ⟨p, h1, h2, h3⟩
    have hp : p < r.length := by
      rcases Nat.lt_or_ge p r.length with h | h
      · exact h
      · exact absurd (by simp [tk, show ¬ p < r.length by omega]) h2
    have := h0 r[p] (List.getElem_mem hp)
    rw [tk_get hp] at h2
    exact ⟨p, by simpa using hp, by simp only [touchQ, Bool.and_eq_true, decide_eq_true_eq]; exact ⟨by rw [tk_get hp]; omega, h3⟩⟩
structure GoodR (m : List (List Int)) : Prop where
  len : ∀ r ∈ m, r.length ≤ 6
  pos : ∀ r ∈ m, ∀ x ∈ r, 0 ≤ x
theorem good_of {m : List (List Int)} {n : Nat} (h : allB m n 3 = true) (hn : n ≤ 6) : GoodR m := ⟨fun r hr => by rw [fitsB_len (allB_mem h r hr)]; exact hn, fun r hr x hx => (fitsB_mem (allB_mem h r hr) x hx).1⟩
theorem andOne {a : Nat} (ha : a < 2 ^ 63) : IntKind.i64.wrap (BitVec.ofInt IntKind.i64.bits (a : Int) &&& BitVec.ofInt IntKind.i64.bits 1).toNat = ((a &&& 1 : Nat) : Int) := andI ha (b := 1) (by decide)
set_option maxRecDepth 10000 in
theorem touches91 {d : DV} {r : List Int} {set : Nat} (hd : Ints d r) (hl : r.length ≤ 6) (hs : set < 2 ^ 63) : DeepCall Try.prog 91 [d, DI (set : Nat)] (DB (touchR r set)) := by
  refine deepCall_K 5 Try.func91 rfl (Nat.le_of_ble_eq_true rfl) fun M W0 => ?_
  refine KC.seq ?_
  refine KC.region ?_
  refine KT.step rfl rfl (K.assign rfl) ?_
  refine KT.nil ?_
  refine thenK_n ?_
  refine KC.seq ?_
  refine KC.seq ?_
  refine KC.region ?_
  refine KT.step rfl rfl (K.move rfl) ?_
  refine KT.step rfl rfl (K.len rfl (by assumption) Try.underlying23) ?_
  refine KT.step rfl rfl (K.move rfl) ?_
  refine KT.nil ?_
  refine thenK_n ?_
  refine KC.block ?_
  refine KC.loop (fun _ : Nat => []) (fun i => [(1, .d (DI (set : Nat))), (7, .d d), (8, .d (DI r.length)), (9, .d (DI i))]) (fun i => i ≤ r.length ∧ ((List.range r.length).take i).any (touchQ r set) = false) (fun i => r.length - i) 0 ⟨Nat.zero_le _, by simp⟩ rfl (by simp [Go.Vm.look, extK, enterK]) ?_
  intro i hi
  obtain ⟨hi, hall⟩ := hi
  refine KC.seq ?_
  refine KC.region ?_
  refine KT.step rfl rfl (K.lss rfl rfl) ?_
  refine KT.nil ?_
  refine thenK_n ?_
  refine KC.seq ?_
  refine KC.cond rfl (fun hc10 => ?_) (fun hc10 => ?_)
  · skip
    replace hc10 := of_decide_eq_true hc10
    have hil : i < r.length := by omega
    have hd63 : set / 2 ^ i < 2 ^ 63 := Nat.lt_of_le_of_lt (Nat.div_le_self _ _) hs
    refine KC.skip ?_
    refine thenK_n ?_
    refine KC.seq ?_
    refine KC.block ?_
    refine KC.seq ?_
    refine KC.region ?_
    refine KT.step rfl rfl (K.move rfl) ?_
    refine KT.idxI rfl rfl rfl (by assumption) rfl (by omega) Try.underlying23 Try.size3 fun cs12 => ?_
    refine KT.step rfl rfl (K.load rfl Try.agg3) ?_
    refine KT.step rfl rfl (K.assign rfl) ?_
    refine KT.step rfl rfl (K.assign rfl) ?_
    refine KT.nil ?_
    refine thenK_n ?_
    refine KC.seq ?_
    refine KC.region ?_
    refine KT.step rfl rfl (K.move rfl) ?_
    refine KT.step rfl rfl (K.gtr rfl rfl) ?_
    refine KT.step rfl rfl (K.move rfl) ?_
    refine KT.bcase (fun hb16 => ?_) (fun hb16 => ?_)
    · skip
      refine KT.step rfl rfl (K.move rfl) ?_
      refine KT.step rfl rfl (K.move rfl) ?_
      refine KT.step rfl rfl (K.shr rfl rfl (by omega) (shrI (by omega))) ?_
      refine KT.step rfl rfl (K.band rfl rfl (andOne hd63)) ?_
      refine KT.step rfl rfl (K.eql rfl rfl) ?_
      refine KT.step rfl rfl (K.pick rfl (fun _ => rfl) (fun h => by cases h)) ?_
      refine KT.nil ?_
      refine thenK_n ?_
      refine KC.cond rfl (fun hc22 => ?_) (fun hc22 => ?_)
      · skip
        rw [bitOne] at hc22
        refine KC.seq ?_
        refine KC.region ?_
        refine KT.step rfl rfl (K.assign rfl) ?_
        refine KT.nil ?_
        refine thenK_n ?_
        refine KC.ret ?_
        refine blockK_r ?_
        refine thenK_r ?_
        refine thenK_r ?_
        refine blockK_r ?_
        refine thenK_r ?_
        refine ⟨.inl rfl, _, rfl, fin_b (any_true (i := i) (by simp; omega) ?_)⟩
        rw [List.getElem_range, touchQ, tk_get hil]
        simp_all
      · skip
        rw [bitOne] at hc22
        refine KC.skip ?_
        refine blockK_n ?_
        refine thenK_n ?_
        refine KC.region ?_
        refine KT.step rfl rfl (K.add rfl rfl (wrap_id (by omega))) ?_
        refine KT.step rfl rfl (K.move rfl) ?_
        refine KT.nil ?_
        refine thenK_n ?_
        refine ⟨i + 1, ⟨by omega, ?_⟩, by omega, rfl, by simp [Go.Vm.look, extK]⟩
        rw [any_take _ (by simp; omega), hall, List.getElem_range, touchQ, tk_get hil, hb16, hc22]
        rfl
    · skip
      refine KT.skip rfl rfl ?_
      refine KT.skip rfl rfl ?_
      refine KT.skip rfl rfl ?_
      refine KT.skip rfl rfl ?_
      refine KT.skip rfl rfl ?_
      refine KT.step rfl rfl (K.pick rfl (fun h => by cases h) (fun _ => rfl)) ?_
      refine KT.nil ?_
      refine thenK_n ?_
      refine KC.cond rfl (fun hc22 => ?_) (fun hc22 => ?_)
      · cases hc22
      · skip
        refine KC.skip ?_
        refine blockK_n ?_
        refine thenK_n ?_
        refine KC.region ?_
        refine KT.step rfl rfl (K.add rfl rfl (wrap_id (by omega))) ?_
        refine KT.step rfl rfl (K.move rfl) ?_
        refine KT.nil ?_
        refine thenK_n ?_
        refine ⟨i + 1, ⟨by omega, ?_⟩, by omega, rfl, by simp [Go.Vm.look, extK]⟩
        rw [any_take _ (by simp; omega), hall, List.getElem_range, touchQ, tk_get hil, hb16]
        rfl
  · skip
    replace hc10 := of_decide_eq_false hc10
    refine KC.exit ?_
    refine thenK_x ?_
    refine thenK_x ?_
    refine blockK_e ?_
    refine thenK_n ?_
    refine KC.seq ?_
    refine KC.region ?_
    refine KT.step rfl rfl (K.assign rfl) ?_
    refine KT.nil ?_
    refine thenK_n ?_
    refine KC.ret ?_
    exact ⟨.inl rfl, _, rfl, fin_b (any_end (i := i) (by simp; omega) hall)⟩
set_option maxRecDepth 10000 in
theorem rSiphon90 {a b c : DV} {pre post : List (List Int)} {set : Nat} (ha : Mat a pre) (hb : Mat b post) (hpp : post.length = pre.length) (hlen : pre.length ≤ 6) (g1 : GoodR pre) (g2 : GoodR post) (hs : set < 2 ^ 63) : DeepCall Try.prog 90 [.agg [a, b, c], DI (set : Nat)] (DB (siphB pre post set)) := by
  refine deepCall_K 5 Try.func90 rfl (Nat.le_of_ble_eq_true rfl) fun M W0 => ?_
  refine KC.seq ?_
  refine KC.region ?_
  refine KT.step rfl rfl (K.box rfl) ?_
  refine KT.step rfl rfl (K.assign rfl) ?_
  refine KT.nil ?_
  refine thenK_n ?_
  refine KC.seq ?_
  refine KC.seq ?_
  refine KC.region ?_
  refine KT.step rfl rfl (K.fieldAddrO rfl Try.fld25_0 Try.size22) ?_
  refine KT.step rfl rfl (K.loadO rfl rfl (by simp) rfl Try.agg22) ?_
  refine KT.step rfl rfl (K.len rfl (by assumption) Try.underlying22) ?_
  refine KT.step rfl rfl (K.move rfl) ?_
  refine KT.nil ?_
  refine thenK_n ?_
  refine KC.block ?_
  refine KC.loop (fun _ : Nat => [⟨[.d a, .d b, .d c], 0⟩]) (fun i => [(1, .d (DI (set : Nat))), (2, .optr 0 0), (8, .d (DI pre.length)), (9, .d (DI i))]) (fun i => i ≤ pre.length ∧ ((pre.zip post).take i).all (siphQ set) = true) (fun i => pre.length - i) 0 ⟨Nat.zero_le _, by simp⟩ rfl (by simp [Go.Vm.look, extK, enterK]) ?_
  intro i hi
  obtain ⟨hi, hall⟩ := hi
  refine KC.seq ?_
  refine KC.region ?_
  refine KT.step rfl rfl (K.lss rfl rfl) ?_
  refine KT.nil ?_
  refine thenK_n ?_
  refine KC.seq ?_
  refine KC.cond rfl (fun hc10 => ?_) (fun hc10 => ?_)
  · skip
    replace hc10 := of_decide_eq_true hc10
    have hlt : i < pre.length := by omega
    have hlt2 : i < post.length := by omega
    have t1 := touch_same (set := set) (g1.len _ (List.getElem_mem hlt)) (g1.pos _ (List.getElem_mem hlt))
    have t2 := touch_same (set := set) (g2.len _ (List.getElem_mem hlt2)) (g2.pos _ (List.getElem_mem hlt2))
    refine KC.skip ?_
    refine thenK_n ?_
    refine KC.seq ?_
    refine KC.block ?_
    refine KC.seq ?_
    refine KC.region ?_
    refine KT.step rfl rfl (K.move rfl) ?_
    refine KT.step rfl rfl (K.assign rfl) ?_
    refine KT.nil ?_
    refine thenK_n ?_
    refine KC.seq ?_
    refine KC.region ?_
    refine KT.step rfl rfl (K.fieldAddrO rfl Try.fld25_1 Try.size22) ?_
    refine KT.step rfl rfl (K.loadO rfl rfl (by simp) rfl Try.agg22) ?_
    refine KT.step rfl rfl (K.move rfl) ?_
    refine KT.idx rfl rfl rfl (by assumption) rfl (by omega) Try.underlying22 Try.size23 fun c15 cs15 hq15 => ?_
    refine KT.step rfl rfl (K.load rfl Try.agg23) ?_
    refine KT.step rfl rfl (K.move rfl) ?_
    refine KT.step rfl rfl (K.call2 rfl rfl plainTry_91 (touches91 hq15 (g2.len _ (List.getElem_mem hlt2)) hs)) ?_
    refine KT.step rfl rfl (K.move rfl) ?_
    refine KT.bcase (fun hb19 => ?_) (fun hb19 => ?_)
    · skip
      refine KT.step rfl rfl (K.fieldAddrO rfl Try.fld25_0 Try.size22) ?_
      refine KT.step rfl rfl (K.loadO rfl rfl (by simp) rfl Try.agg22) ?_
      refine KT.step rfl rfl (K.move rfl) ?_
      refine KT.idx rfl rfl rfl (by assumption) rfl (by omega) Try.underlying22 Try.size23 fun c23 cs23 hq23 => ?_
      refine KT.step rfl rfl (K.load rfl Try.agg23) ?_
      refine KT.step rfl rfl (K.move rfl) ?_
      refine KT.step rfl rfl (K.call2 rfl rfl plainTry_91 (touches91 hq23 (g1.len _ (List.getElem_mem hlt)) hs)) ?_
      refine KT.step rfl rfl (K.not rfl) ?_
      refine KT.step rfl rfl (K.pick rfl (fun _ => rfl) (fun h => by cases h)) ?_
      refine KT.nil ?_
      refine thenK_n ?_
      refine KC.cond rfl (fun hc28 => ?_) (fun hc28 => ?_)
      · skip
        refine KC.seq ?_
        refine KC.region ?_
        refine KT.step rfl rfl (K.assign rfl) ?_
        refine KT.nil ?_
        refine thenK_n ?_
        refine KC.ret ?_
        refine blockK_r ?_
        refine thenK_r ?_
        refine thenK_r ?_
        refine blockK_r ?_
        refine thenK_r ?_
        refine ⟨.inl rfl, _, rfl, fin_b (all_false (i := i) (by simp; omega) ?_)⟩
        rw [zip_get hlt hlt2]
        simp only [siphQ, ← t1, ← t2]
        simp_all
      · skip
        refine KC.skip ?_
        refine blockK_n ?_
        refine thenK_n ?_
        refine KC.region ?_
        refine KT.step rfl rfl (K.add rfl rfl (wrap_id (by omega))) ?_
        refine KT.step rfl rfl (K.move rfl) ?_
        refine KT.nil ?_
        refine thenK_n ?_
        refine ⟨i + 1, ⟨by omega, ?_⟩, by omega, rfl, by simp [Go.Vm.look, extK]⟩
        rw [all_take _ (by simp; omega), hall, zip_get hlt hlt2]
        rw [show siphQ set (pre[i], post[i]) = true by simp only [siphQ, ← t1, ← t2]; simp_all]
        rfl
    · skip
      refine KT.skip rfl rfl ?_
      refine KT.skip rfl rfl ?_
      refine KT.skip rfl rfl ?_
      refine KT.skip rfl rfl ?_
      refine KT.skip rfl rfl ?_
      refine KT.skip rfl rfl ?_
      refine KT.skip rfl rfl ?_
      refine KT.skip rfl rfl ?_
      refine KT.step rfl rfl (K.pick rfl (fun h => by cases h) (fun _ => rfl)) ?_
      refine KT.nil ?_
      refine thenK_n ?_
      refine KC.cond rfl (fun hc28 => ?_) (fun hc28 => ?_)
      · cases hc28
      · skip
        refine KC.skip ?_
        refine blockK_n ?_
        refine thenK_n ?_
        refine KC.region ?_
        refine KT.step rfl rfl (K.add rfl rfl (wrap_id (by omega))) ?_
        refine KT.step rfl rfl (K.move rfl) ?_
        refine KT.nil ?_
        refine thenK_n ?_
        refine ⟨i + 1, ⟨by omega, ?_⟩, by omega, rfl, by simp [Go.Vm.look, extK]⟩
        rw [all_take _ (by simp; omega), hall, zip_get hlt hlt2]
        rw [show siphQ set (pre[i], post[i]) = true by simp only [siphQ, ← t1, ← t2]; simp_all]
        rfl
  · skip
    replace hc10 := of_decide_eq_false hc10
    refine KC.exit ?_
    refine thenK_x ?_
    refine thenK_x ?_
    refine blockK_e ?_
    refine thenK_n ?_
    refine KC.seq ?_
    refine KC.region ?_
    refine KT.step rfl rfl (K.assign rfl) ?_
    refine KT.nil ?_
    refine thenK_n ?_
    refine KC.ret ?_
    exact ⟨.inl rfl, _, rfl, fin_b (all_end (i := i) (by simp; omega) hall)⟩

theorem mk3_agg {a b c : DV} {pre : List (List Int)} (ha : Mat a pre) (h : 0 < pre.length) : mk3 a b c = .agg [a, b, c] := by
  unfold mk3
  cases ha with
  | nil => simp at h
  | sl hn hx => rfl
set_option maxRecDepth 10000 in
theorem rTrapIs92 {a b c : DV} {pre post : List (List Int)} {start : List Int} {set : Nat} (ha : Mat a pre) (hb : Mat b post) (hc : Ints c start) (hpp : post.length = pre.length) (h0 : 0 < pre.length) (hlen : pre.length ≤ 6) (g1 : GoodR pre) (g2 : GoodR post) (hs : set < 2 ^ 63) : DeepCall Try.prog 92 [.agg [a, b, c], DI (set : Nat)] (DB (siphB post pre set)) := by
  refine deepCall_K 5 Try.func92 rfl (Nat.le_of_ble_eq_true rfl) fun M W0 => ?_
  refine KC.seq ?_
  refine KC.region ?_
  refine KT.step rfl rfl (K.box rfl) ?_
  refine KT.step rfl rfl (K.assign rfl) ?_
  refine KT.nil ?_
  refine thenK_n ?_
  refine KC.seq ?_
  refine KC.region ?_
  refine KT.step rfl rfl (K.fieldAddrO rfl Try.fld25_1 Try.size22) ?_
  refine KT.step rfl rfl (K.loadO rfl rfl (by simp) rfl Try.agg22) ?_
  refine KT.step rfl rfl (K.fieldAddrO rfl Try.fld25_0 Try.size22) ?_
  refine KT.step rfl rfl (K.loadO rfl rfl (by simp) rfl Try.agg22) ?_
  refine KT.step rfl rfl (K.fieldAddrO rfl Try.fld25_2 Try.size23) ?_
  refine KT.step rfl rfl (K.loadO rfl rfl (by simp) rfl Try.agg23) ?_
  refine KT.step rfl rfl (K.build3 rfl rfl rfl (SlD.of hb) (SlD.of ha) (SlD.of hc) Try.zero25 Try.underlying25 Try.places25 nilBuild25) ?_
  rw [mk3_agg hb (by omega)]
  refine KT.step rfl rfl (K.move rfl) ?_
  refine KT.step rfl rfl (K.call2 rfl rfl plainTry_90 (rSiphon90 hb ha hpp.symm (by omega) g2 g1 hs)) ?_
  refine KT.step rfl rfl (K.assign rfl) ?_
  refine KT.nil ?_
  refine thenK_n ?_
  refine KC.ret ?_
  exact ⟨.inl rfl, _, rfl, fin_d rfl⟩

/-- Whether no smaller siphon below k is in n. -/
def leastK (pre post : List (List Int)) (n : Nat) : Nat → Bool
  | 0 => siphB pre post n
  | k + 1 => if k = 0 then leastK pre post n k else leastK pre post n k && (!partB n k || !siphB pre post k)
def refL (pre post : List (List Int)) : Nat → List Nat
  | 0 => []
  | n + 1 => if 1 ≤ n ∧ leastK pre post n n = true then refL pre post n ++ [n] else refL pre post n
theorem leastK_iff (pre post : List (List Int)) (n : Nat) : ∀ k, leastK pre post n k = true ↔ siphB pre post n = true ∧ ∀ q, 1 ≤ q → q < k → partB n q = true → siphB pre post q = false
  | 0 => by simp [leastK]
  | k + 1 => by
    have ih := leastK_iff pre post n k
    simp only [leastK]
    split
    · rename_i h
      subst h
      rw [ih]
      exact ⟨fun h => ⟨h.1, fun q h1 h2 => by omega⟩, fun h => ⟨h.1, fun q h1 h2 => by omega⟩⟩
    · rw [Bool.and_eq_true, ih]
      constructor
      · rintro ⟨⟨h1, h2⟩, h3⟩
        refine ⟨h1, fun q q1 q2 q3 => ?_⟩
        by_cases e : q = k
        · subst e; rw [q3] at h3; simpa using h3
        · exact h2 q q1 (by omega) q3
      · rintro ⟨h1, h2⟩
        refine ⟨⟨h1, fun q q1 q2 => h2 q q1 (by omega)⟩, ?_⟩
        cases hp : partB n k with
        | false => rfl
        | true => rw [h2 k (by omega) (by omega) hp]; rfl
theorem sip_has (pre post : List (List Int)) (n : Nat) : ∀ q, 1 ≤ q → q < n → siphB pre post q = true → ∃ p ∈ sipL pre post n, Sub p q := by
  intro q
  induction q using Nat.strongRecOn with
  | _ q ih =>
    intro h1 h2 h3
    have mono : ∀ m, q + 1 ≤ m → ∀ p ∈ sipL pre post (q + 1), p ∈ sipL pre post m := by
      intro m hm
      induction m with
      | zero => omega
      | succ m ihm =>
        intro p hp
        by_cases e : q + 1 = m + 1
        · rw [← e]; exact hp
        · have := ihm (by omega) p hp
          simp only [sipL]
          split
          · exact List.mem_append_left _ this
          · exact this
    cases ha : (sipL pre post q).any (partB q) with
    | false =>
      refine ⟨q, mono n (by omega) q ?_, fun _ h => h⟩
      simp only [sipL]
      rw [if_pos ⟨h1, h3, ha⟩]
      simp
    | true =>
      obtain ⟨p, hp, hq⟩ := List.any_eq_true.1 ha
      refine ⟨p, mono n (by omega) p ?_, diff_zero.1 (by simpa [partB] using hq)⟩
      simp only [sipL]
      split
      · exact List.mem_append_left _ hp
      · exact hp
theorem refL_sipL (pre post : List (List Int)) : ∀ n, refL pre post n = sipL pre post n
  | 0 => rfl
  | n + 1 => by
    have ih := refL_sipL pre post n
    simp only [refL, sipL, ih]
    by_cases h1 : 1 ≤ n
    · have key : leastK pre post n n = true ↔ siphB pre post n = true ∧ (sipL pre post n).any (partB n) = false := by
        rw [leastK_iff]
        constructor
        · rintro ⟨a1, a2⟩
          refine ⟨a1, ?_⟩
          cases ha : (sipL pre post n).any (partB n) with
          | false => rfl
          | true =>
            obtain ⟨p, hp, hq⟩ := List.any_eq_true.1 ha
            obtain ⟨p1, p2, p3⟩ := sipL_lt pre post n p hp
            rw [a2 p p1 p2 hq] at p3; cases p3
        · rintro ⟨a1, a2⟩
          refine ⟨a1, fun q q1 q2 q3 => ?_⟩
          cases hs : siphB pre post q with
          | false => rfl
          | true =>
            obtain ⟨p, hp, hsub⟩ := sip_has pre post n q q1 q2 hs
            have : (sipL pre post n).any (partB n) = true := List.any_eq_true.2 ⟨p, hp, by
              have h3 := diff_zero.1 (by simpa [partB] using q3)
              simpa [partB] using diff_zero.2 fun i hi => h3 i (hsub i hi)⟩
            rw [a2] at this; cases this
      by_cases hl : leastK pre post n n = true
      · rw [if_pos ⟨h1, hl⟩, if_pos ⟨h1, (key.1 hl).1, (key.1 hl).2⟩]
      · rw [if_neg (fun h => hl h.2), if_neg (fun h => hl (key.2 h.2))]
    · rw [if_neg (fun h => h1 h.1), if_neg (fun h => h1 h.1)]
structure RefI (a b c : DV) (size : Nat) (pre post : List (List Int)) (σ : List VObj) (x : XV) (n : Nat) : Prop where
  lo : 1 ≤ n
  hi : n ≤ 2 ^ size
  h0 : σ[0]? = some ⟨[.d a, .d b, .d c], 0⟩
  own : OwnK 1 σ x (natsX (refL pre post n))
  id0 : ∀ j, idX x = some j → 1 ≤ j
  nil : refL pre post n = [] → x = .d Dnil
theorem refL_len (pre post : List (List Int)) (n : Nat) : (refL pre post n).length ≤ n := by rw [refL_sipL]; exact sipL_len pre post n
set_option maxRecDepth 10000 in
theorem rSiphons68 {a b c : DV} {pre post : List (List Int)} {start : List Int} (ha : Mat a pre) (hb : Mat b post) (hc : Ints c start) (h6 : start.length ≤ 6) (hpp : post.length = pre.length) (hlen : pre.length ≤ 6) (g1 : GoodR pre) (g2 : GoodR post) : DeepCall Try.prog 68 [.agg [a, b, c]] (slOf ((refL pre post (2 ^ start.length)).map fun n => DI (n : Nat))) := by
  have hp6 := pow6 h6
  refine deepCall_K 5 Try.func68 rfl (Nat.le_of_ble_eq_true rfl) fun M W0 => ?_
  refine KC.seq ?_
  refine KC.region ?_
  refine KT.step rfl rfl (K.box rfl) ?_
  refine KT.step rfl rfl (K.assign rfl) ?_
  refine KT.nil ?_
  refine thenK_n ?_
  refine KC.seq ?_
  refine KC.region ?_
  refine KT.step rfl rfl (K.assign rfl) ?_
  refine KT.nil ?_
  refine thenK_n ?_
  refine KC.seq ?_
  refine KC.seq ?_
  refine KC.region ?_
  refine KT.step rfl rfl (K.assign rfl) ?_
  refine KT.nil ?_
  refine thenK_n ?_
  refine KC.block ?_
  refine KC.loop (fun p : List VObj × XV × Nat => p.1) (fun p => [(1, .optr 0 0), (3, p.2.1), (4, .d (DI (p.2.2 : Nat)))]) (fun p => RefI a b c start.length pre post p.1 p.2.1 p.2.2) (fun p => 2 ^ start.length - p.2.2) ([⟨[.d a, .d b, .d c], 0⟩], .d Dnil, 1) ⟨Nat.le_refl _, Nat.one_le_two_pow, rfl, .nil, (fun j h => by cases h), fun _ => rfl⟩ rfl (by simp [Go.Vm.look, extK, enterK]) ?_
  intro p hp
  obtain ⟨σ0, x0, n⟩ := p
  obtain ⟨lo, hi, h0, own, id0, nil⟩ := hp
  simp only at lo hi h0 own id0 nil ⊢
  have hn63 : n < 2 ^ 63 := by omega
  have hll := refL_len pre post n
  refine KC.seq ?_
  refine KC.seq ?_
  refine KC.region ?_
  refine KT.step rfl rfl (K.move rfl) ?_
  refine KT.step rfl rfl (K.fieldAddrO rfl Try.fld25_2 Try.size23) ?_
  refine KT.step rfl rfl (K.loadO rfl h0 (by simp) rfl Try.agg23) ?_
  refine KT.step rfl rfl (K.len (l := start) rfl hc Try.underlying23) ?_
  refine KT.step rfl rfl (K.shl rfl rfl (by omega) (shlI (by omega))) ?_
  refine KT.step rfl rfl (K.lss rfl rfl) ?_
  refine KT.nil ?_
  refine thenK_n ?_
  refine KC.cond rfl (fun hc12 => ?_) (fun hc12 => ?_)
  · skip
    replace hc12 := of_decide_eq_true hc12
    refine KC.skip ?_
    refine thenK_n ?_
    refine KC.seq ?_
    refine KC.block ?_
    refine KC.seq ?_
    refine KC.region ?_
    refine KT.step rfl rfl (K.loadOAgg (m := 3) rfl h0 (by simp) Try.agg25 Try.size25 (by simp)) ?_
    refine KT.step rfl rfl (K.move rfl) ?_
    refine KT.step rfl rfl (K.call2 rfl rfl plainTry_90 (rSiphon90 ha hb hpp hlen g1 g2 hn63)) ?_
    refine KT.step rfl rfl (K.assign rfl) ?_
    refine KT.nil ?_
    refine thenK_n ?_
    refine KC.seq ?_
    refine KC.seq ?_
    refine KC.region ?_
    refine KT.step rfl rfl (K.assign rfl) ?_
    refine KT.nil ?_
    refine thenK_n ?_
    refine KC.block ?_
    refine KC.loop (fun _ : Nat => σ0) (fun k => [(1, .optr 0 0), (3, x0), (4, .d (DI (n : Nat))), (5, .d (DB (leastK pre post n k))), (6, .d (DI (k : Nat)))]) (fun k => 1 ≤ k ∧ k ≤ n) (fun k => n - k) 1 ⟨Nat.le_refl _, lo⟩ rfl (by simp [Go.Vm.look, extK, leastK]) ?_
    intro k hk
    obtain ⟨hk1, hkn⟩ := hk
    have hk63 : k < 2 ^ 63 := by omega
    refine KC.seq ?_
    refine KC.seq ?_
    refine KC.region ?_
    refine KT.step rfl rfl (K.move rfl) ?_
    refine KT.step rfl rfl (K.move rfl) ?_
    refine KT.step rfl rfl (K.lss rfl rfl) ?_
    refine KT.nil ?_
    refine thenK_n ?_
    refine KC.cond rfl (fun hc20 => ?_) (fun hc20 => ?_)
    · skip
      replace hc20 := of_decide_eq_true hc20
      have hnx : leastK pre post n (k + 1) = (leastK pre post n k && (!partB n k || !siphB pre post k)) := by simp only [leastK]; rw [if_neg (by omega)]
      refine KC.skip ?_
      refine thenK_n ?_
      refine KC.seq ?_
      refine KC.block ?_
      refine KC.region ?_
      refine KT.step rfl rfl (K.move rfl) ?_
      refine KT.step rfl rfl (K.move rfl) ?_
      refine KT.bcase (fun hb24 => ?_) (fun hb24 => ?_)
      · skip
        refine KT.step rfl rfl (K.move rfl) ?_
        refine KT.step rfl rfl (K.move rfl) ?_
        refine KT.step rfl rfl (K.bandNot rfl rfl (diffI hk63 hn63)) ?_
        refine KT.step rfl rfl (K.neq rfl rfl) ?_
        refine KT.step rfl rfl (K.move rfl) ?_
        refine KT.bcase (fun hb29 => ?_) (fun hb29 => ?_)
        · skip
          rw [nat_ne] at hb29
          have hnext : leastK pre post n (k + 1) = true := by rw [hnx, hb24]; simp [partB, of_decide_eq_true hb29]
          refine KT.skip rfl rfl ?_
          refine KT.skip rfl rfl ?_
          refine KT.skip rfl rfl ?_
          refine KT.skip rfl rfl ?_
          refine KT.step rfl rfl (K.pick rfl (fun _ => rfl) (fun h => by cases h)) ?_
          refine KT.step rfl rfl (K.pick rfl (fun _ => rfl) (fun h => by cases h)) ?_
          refine KT.step rfl rfl (K.assign rfl) ?_
          refine KT.nil ?_
          refine blockK_n ?_
          refine thenK_n ?_
          refine KC.region ?_
          refine KT.step rfl rfl (K.move rfl) ?_
          refine KT.step rfl rfl (K.add rfl rfl (wrap_id (by omega))) ?_
          refine KT.step rfl rfl (K.assign rfl) ?_
          refine KT.nil ?_
          refine thenK_n ?_
          refine ⟨k + 1, ⟨by omega, by omega⟩, by omega, rfl, by simp [Go.Vm.look, extK, hnext]⟩
        · skip
          rw [nat_ne] at hb29
          have hnext : leastK pre post n (k + 1) = (!siphB pre post k) := by rw [hnx, hb24]; simp [partB, Classical.not_not.1 (of_decide_eq_false hb29)]
          refine KT.step rfl rfl (K.loadOAgg (m := 3) rfl h0 (by simp) Try.agg25 Try.size25 (by simp)) ?_
          refine KT.step rfl rfl (K.move rfl) ?_
          refine KT.step rfl rfl (K.call2 rfl rfl plainTry_90 (rSiphon90 ha hb hpp hlen g1 g2 hk63)) ?_
          refine KT.step rfl rfl (K.not rfl) ?_
          refine KT.step rfl rfl (K.pick rfl (fun h => by cases h) (fun _ => rfl)) ?_
          refine KT.step rfl rfl (K.pick rfl (fun _ => rfl) (fun h => by cases h)) ?_
          refine KT.step rfl rfl (K.assign rfl) ?_
          refine KT.nil ?_
          refine blockK_n ?_
          refine thenK_n ?_
          refine KC.region ?_
          refine KT.step rfl rfl (K.move rfl) ?_
          refine KT.step rfl rfl (K.add rfl rfl (wrap_id (by omega))) ?_
          refine KT.step rfl rfl (K.assign rfl) ?_
          refine KT.nil ?_
          refine thenK_n ?_
          refine ⟨k + 1, ⟨by omega, by omega⟩, by omega, rfl, by simp [Go.Vm.look, extK, hnext]⟩
      · skip
        have hnext : leastK pre post n (k + 1) = false := by rw [hnx, hb24]; rfl
        refine KT.skip rfl rfl ?_
        refine KT.skip rfl rfl ?_
        refine KT.skip rfl rfl ?_
        refine KT.skip rfl rfl ?_
        refine KT.skip rfl rfl ?_
        refine KT.skip rfl rfl ?_
        refine KT.skip rfl rfl ?_
        refine KT.skip rfl rfl ?_
        refine KT.skip rfl rfl ?_
        refine KT.skip rfl rfl ?_
        refine KT.step rfl rfl (K.pick rfl (fun h => by cases h) (fun _ => rfl)) ?_
        refine KT.step rfl rfl (K.assign rfl) ?_
        refine KT.nil ?_
        refine blockK_n ?_
        refine thenK_n ?_
        refine KC.region ?_
        refine KT.step rfl rfl (K.move rfl) ?_
        refine KT.step rfl rfl (K.add rfl rfl (wrap_id (by omega))) ?_
        refine KT.step rfl rfl (K.assign rfl) ?_
        refine KT.nil ?_
        refine thenK_n ?_
        refine ⟨k + 1, ⟨by omega, by omega⟩, by omega, rfl, by simp [Go.Vm.look, extK, hnext]⟩
    · skip
      replace hc20 := of_decide_eq_false hc20
      obtain rfl : n = k := by omega
      refine KC.exit ?_
      refine thenK_x ?_
      refine thenK_x ?_
      refine blockK_e ?_
      refine thenK_n ?_
      refine KC.seq ?_
      refine KC.region ?_
      refine KT.step rfl rfl (K.move rfl) ?_
      refine KT.nil ?_
      refine thenK_n ?_
      refine KC.cond rfl (fun hc36 => ?_) (fun hc36 => ?_)
      · skip
        have hstep : refL pre post (n + 1) = refL pre post n ++ [n] := by
          simp only [refL]
          rw [if_pos ⟨lo, hc36⟩]
        refine KC.region ?_
        refine KT.step rfl rfl (K.move rfl) ?_
        refine KT.step rfl rfl (K.move rfl) ?_
        refine KT.step rfl rfl (K.build1' rfl rfl Try.underlying23 Try.one3) ?_
        refine KT.appK (k := 1) (vs := [.d (DI (n : Nat))]) rfl rfl rfl rfl (own.pushed _) (by simp) rfl rfl (by simp [natsX]; omega) Try.underlying23 Try.size3 bytes3 cells3 (by omega) fun σ1 x1 ho1 k1 w1 => ?_
        refine KT.step rfl rfl (K.assign rfl) ?_
        refine KT.nil ?_
        refine blockK_n ?_
        refine thenK_n ?_
        refine KC.region ?_
        refine KT.step rfl rfl (K.move rfl) ?_
        refine KT.step rfl rfl (K.add rfl rfl (wrap_id (by omega))) ?_
        refine KT.step rfl rfl (K.assign rfl) ?_
        refine KT.nil ?_
        refine thenK_n ?_
        refine ⟨(σ1, x1, n + 1), ⟨by simp only; omega, by simp only; omega, ?_, ?_, ?_, ?_⟩, by simp only; omega, rfl, by simp [Go.Vm.look, extK]⟩
        · rw [k1 0 (fun e => by have := id0 _ e; omega) (by have := (List.getElem?_eq_some_iff.1 h0).1; simp), List.getElem?_append_left (List.getElem?_eq_some_iff.1 h0).1]; exact h0
        · simp only [hstep]; simpa [natsX] using ho1
        · intro j hj; obtain ⟨j', e1, f1⟩ := w1; rw [e1] at hj; cases hj; have := (List.getElem?_eq_some_iff.1 h0).1; simp at f1; omega
        · simp only [hstep]; intro e; simp at e
      · skip
        have hstep : refL pre post (n + 1) = refL pre post n := by
          simp only [refL]
          rw [if_neg (by simp [hc36])]
        refine KC.skip ?_
        refine blockK_n ?_
        refine thenK_n ?_
        refine KC.region ?_
        refine KT.step rfl rfl (K.move rfl) ?_
        refine KT.step rfl rfl (K.add rfl rfl (wrap_id (by omega))) ?_
        refine KT.step rfl rfl (K.assign rfl) ?_
        refine KT.nil ?_
        refine thenK_n ?_
        refine ⟨(σ0, x0, n + 1), ⟨by simp only; omega, by simp only; omega, h0, ?_, id0, ?_⟩, by simp only; omega, rfl, by simp [Go.Vm.look, extK]⟩
        · simp only [hstep]; exact own
        · simp only [hstep]; exact nil
  · skip
    replace hc12 := of_decide_eq_false hc12
    obtain rfl : n = 2 ^ start.length := by omega
    refine KC.exit ?_
    refine thenK_x ?_
    refine thenK_x ?_
    refine blockK_e ?_
    refine thenK_n ?_
    refine KC.seq ?_
    refine KC.region ?_
    refine KT.step rfl rfl (K.move rfl) ?_
    refine KT.step rfl rfl (K.assign rfl) ?_
    refine KT.nil ?_
    refine thenK_n ?_
    refine KC.ret ?_
    exact ⟨.inl rfl, _, rfl, fin_ownK own nil⟩

theorem trapN_sub (pre post : List (List Int)) (set n : Nat) : trapN pre post set n ≤ set := Sub.le fun i hi => by
  obtain ⟨q, _, h, _, h2⟩ := (trapN_bit pre post set n i).1 hi
  exact h i h2
set_option maxRecDepth 10000 in
theorem rTrap70 {a b c : DV} {pre post : List (List Int)} {start : List Int} {set : Nat} (ha : Mat a pre) (hb : Mat b post) (hc : Ints c start) (hpp : post.length = pre.length) (h0 : 0 < pre.length) (hlen : pre.length ≤ 6) (g1 : GoodR pre) (g2 : GoodR post) (hs : set < 64) : DeepCall Try.prog 70 [.agg [a, b, c], DI (set : Nat)] (DI (trapR pre post set : Nat)) := by
  refine deepCall_K 5 Try.func70 rfl (Nat.le_of_ble_eq_true rfl) fun M W0 => ?_
  refine KC.seq ?_
  refine KC.region ?_
  refine KT.step rfl rfl (K.box rfl) ?_
  refine KT.step rfl rfl (K.assign rfl) ?_
  refine KT.nil ?_
  refine thenK_n ?_
  refine KC.seq ?_
  refine KC.region ?_
  refine KT.step rfl rfl (K.assign rfl) ?_
  refine KT.nil ?_
  refine thenK_n ?_
  refine KC.seq ?_
  refine KC.seq ?_
  refine KC.region ?_
  refine KT.step rfl rfl (K.move rfl) ?_
  refine KT.step rfl rfl (K.add rfl rfl (wrap_id (by omega))) ?_
  refine KT.step rfl rfl (K.move rfl) ?_
  refine KT.nil ?_
  refine thenK_n ?_
  refine KC.block ?_
  refine KC.loop (fun _ : Nat => [⟨[.d a, .d b, .d c], 0⟩]) (fun q => [(1, .d (DI (set : Nat))), (2, .optr 0 0), (5, .d (DI (trapN pre post set q : Nat))), (8, .d (DI ((set : Int) + 1))), (9, .d (DI (q : Nat)))]) (fun q => q ≤ set + 1) (fun q => set + 1 - q) 0 (Nat.zero_le _) rfl (by simp [Go.Vm.look, extK, enterK, trapN]) ?_
  intro q hq
  have hq63 : q < 2 ^ 63 := by omega
  have hs63 : set < 2 ^ 63 := by omega
  have ht63 : trapN pre post set q < 2 ^ 63 := by have := trapN_sub pre post set q; omega
  refine KC.seq ?_
  refine KC.region ?_
  refine KT.step rfl rfl (K.lss rfl rfl) ?_
  refine KT.nil ?_
  refine thenK_n ?_
  refine KC.seq ?_
  refine KC.cond rfl (fun hc10 => ?_) (fun hc10 => ?_)
  · skip
    replace hc10 := of_decide_eq_true hc10
    refine KC.skip ?_
    refine thenK_n ?_
    refine KC.seq ?_
    refine KC.block ?_
    refine KC.seq ?_
    refine KC.region ?_
    refine KT.step rfl rfl (K.move rfl) ?_
    refine KT.step rfl rfl (K.assign rfl) ?_
    refine KT.nil ?_
    refine thenK_n ?_
    refine KC.seq ?_
    refine KC.region ?_
    refine KT.step rfl rfl (K.move rfl) ?_
    refine KT.step rfl rfl (K.move rfl) ?_
    refine KT.step rfl rfl (K.bandNot rfl rfl (diffI hq63 hs63)) ?_
    refine KT.step rfl rfl (K.eql rfl rfl) ?_
    refine KT.step rfl rfl (K.move rfl) ?_
    refine KT.bcase (fun hb16 => ?_) (fun hb16 => ?_)
    · skip
      rw [nat_eq] at hb16
      refine KT.step rfl rfl (K.loadOAgg (m := 3) rfl rfl (by simp) Try.agg25 Try.size25 (by simp [cellsX])) ?_
      refine KT.step rfl rfl (K.move rfl) ?_
      refine KT.step rfl rfl (K.call2 rfl rfl plainTry_92 (rTrapIs92 ha hb hc hpp h0 hlen g1 g2 hq63)) ?_
      refine KT.step rfl rfl (K.pick rfl (fun _ => rfl) (fun h => by cases h)) ?_
      refine KT.nil ?_
      refine thenK_n ?_
      refine KC.cond rfl (fun hc20 => ?_) (fun hc20 => ?_)
      · skip
        refine KC.region ?_
        refine KT.step rfl rfl (K.move rfl) ?_
        refine KT.step rfl rfl (K.move rfl) ?_
        refine KT.step rfl rfl (K.bor rfl rfl (orI ht63 hq63)) ?_
        refine KT.step rfl rfl (K.assign rfl) ?_
        refine KT.nil ?_
        refine blockK_n ?_
        refine thenK_n ?_
        refine KC.region ?_
        refine KT.step rfl rfl (K.add rfl rfl (wrap_id (by omega))) ?_
        refine KT.step rfl rfl (K.move rfl) ?_
        refine KT.nil ?_
        refine thenK_n ?_
        refine ⟨q + 1, by omega, by omega, rfl, by simp [Go.Vm.look, extK, trapN]; simp_all⟩
      · skip
        refine KC.skip ?_
        refine blockK_n ?_
        refine thenK_n ?_
        refine KC.region ?_
        refine KT.step rfl rfl (K.add rfl rfl (wrap_id (by omega))) ?_
        refine KT.step rfl rfl (K.move rfl) ?_
        refine KT.nil ?_
        refine thenK_n ?_
        refine ⟨q + 1, by omega, by omega, rfl, by simp [Go.Vm.look, extK, trapN]; simp_all⟩
    · skip
      rw [nat_eq] at hb16
      refine KT.skip rfl rfl ?_
      refine KT.skip rfl rfl ?_
      refine KT.skip rfl rfl ?_
      refine KT.step rfl rfl (K.pick rfl (fun h => by cases h) (fun _ => rfl)) ?_
      refine KT.nil ?_
      refine thenK_n ?_
      refine KC.cond rfl (fun hc20 => ?_) (fun hc20 => ?_)
      · cases hc20
      · skip
        refine KC.skip ?_
        refine blockK_n ?_
        refine thenK_n ?_
        refine KC.region ?_
        refine KT.step rfl rfl (K.add rfl rfl (wrap_id (by omega))) ?_
        refine KT.step rfl rfl (K.move rfl) ?_
        refine KT.nil ?_
        refine thenK_n ?_
        refine ⟨q + 1, by omega, by omega, rfl, by simp [Go.Vm.look, extK, trapN]; simp_all⟩
  · skip
    replace hc10 := of_decide_eq_false hc10
    obtain rfl : q = set + 1 := by omega
    refine KC.exit ?_
    refine thenK_x ?_
    refine thenK_x ?_
    refine blockK_e ?_
    refine thenK_n ?_
    refine KC.seq ?_
    refine KC.region ?_
    refine KT.step rfl rfl (K.move rfl) ?_
    refine KT.step rfl rfl (K.assign rfl) ?_
    refine KT.nil ?_
    refine thenK_n ?_
    refine KC.ret ?_
    exact ⟨.inl rfl, _, rfl, fin_d rfl⟩
end Go.Proofs.Ytocgjopmlhpjdaa

