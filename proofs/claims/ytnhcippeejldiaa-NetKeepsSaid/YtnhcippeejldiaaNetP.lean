/-
  The law NetKeeps: a siphon without tokens stays without tokens, and a marked trap stays marked.
-/
import Derived.Test.YtnhcippeejldiaaNetO
namespace Go.Proofs.Ytnhcippeejldiaa
open Go.Vm
/-- What every firing keeps, a word keeps. -/
theorem runS_keep {pre post : List (List Int)} {n : Nat} (hpp : post.length = pre.length) (rp : ∀ r ∈ pre, r.length = n) (rq : ∀ r ∈ post, r.length = n) (s1 : Small pre) (s2 : Small post) (Q : List Int → Prop)
    (hQ : ∀ (m : List Int) (t : Nat) (ht : t < pre.length) (ht2 : t < post.length), m.length = n → (∀ p, 0 ≤ tk m p) → (∀ p, tk pre[t] p ≤ tk m p) → (∀ p, tk (fireL pre[t] post[t] m) p = tk m p + (tk post[t] p - tk pre[t] p)) → Q m → Q (fireL pre[t] post[t] m)) :
    ∀ (ts : List Int) (i : Nat) (s : PSt), i ≤ 61 → s.m.length = n → (∀ p, 0 ≤ tk s.m p ∧ tk s.m p ≤ 5 + 3 * i) → Q s.m → Q (runS pre post ts i s).m ∧ (runS pre post ts i s).m.length = n ∧ ∀ p, 0 ≤ tk (runS pre post ts i s).m p
  | [], i, s, _, hl, hb, hq => ⟨hq, hl, fun p => (hb p).1⟩
  | t :: ts, i, s, hi, hl, hb, hq => by
    simp only [runS]
    split
    · exact ⟨hq, hl, fun p => (hb p).1⟩
    · rename_i hc
      obtain ⟨k, rfl⟩ := Int.eq_ofNat_of_zero_le (show 0 ≤ t by omega)
      have ht : k < pre.length := by omega
      have ht2 : k < post.length := by omega
      have e1 : pre.getD k [] = pre[k] := by simp [ht]
      have e2 : post.getD k [] = post[k] := by simp [ht2]
      have l1 := rp _ (List.getElem_mem ht)
      have l2 := rq _ (List.getElem_mem ht2)
      rw [Int.toNat_natCast]
      unfold stepS
      rw [e1, e2]
      by_cases hw : withinB pre[k] s.m = true
      · rw [if_pos hw]
        have hwi := (within_iff (by omega)).1 hw
        have hf : ∀ p, tk (fireL pre[k] post[k] s.m) p = tk s.m p + (tk post[k] p - tk pre[k] p) := fun p => by
          rw [fireL_tk (by omega) (by omega)]
          unfold fireW
          rw [if_pos (by have := hb p; omega)]
        refine runS_keep hpp rp rq s1 s2 Q hQ ts (i + 1) _ (by omega) (by simp only [fireL_len]; exact hl) (fun p => ?_) (hQ s.m k ht ht2 hl (fun p => (hb p).1) hwi hf hq)
        have b1 := hb p
        have b2 := s2.bd k ht2 p
        have b3 := s1.bd k ht p
        have b4 := hwi p
        simp only
        rw [hf p]
        omega
      · rw [if_neg hw]
        exact runS_keep hpp rp rq s1 s2 Q hQ ts (i + 1) s (by omega) hl (fun p => by have := hb p; omega) hq
theorem touchN_no {r : List Int} {set : Nat} (h : touchN r set = false) {p : Nat} (hp : p < 6) (hb : set.testBit p = true) : tk r p = 0 := by
  rcases Classical.em (tk r p = 0) with h0 | h0
  · exact h0
  · have := touch_iff.2 ⟨p, hp, h0, hb⟩
    rw [h] at this; cases this
theorem keep_siphon {pre post : List (List Int)} {n set : Nat} (hpp : post.length = pre.length) (rp : ∀ r ∈ pre, r.length = n) (rq : ∀ r ∈ post, r.length = n) (s1 : Small pre) (s2 : Small post) (hs : siphB pre post set = true) (ts : List Int) (s : PSt) (hl : s.m.length = n)
    (hb : ∀ p, 0 ≤ tk s.m p ∧ tk s.m p ≤ 5) (hq : touchN s.m set = false) : touchN (runS pre post ts 0 s).m set = false ∧ (runS pre post ts 0 s).m.length = n ∧ ∀ p, 0 ≤ tk (runS pre post ts 0 s).m p := by
  refine runS_keep hpp rp rq s1 s2 (fun m => touchN m set = false) (fun m t ht ht2 _ h0 hw hf hq => ?_) ts 0 s (by omega) hl (fun p => by have := hb p; omega) hq
  cases hn : touchN (fireL pre[t] post[t] m) set with
  | false => rfl
  | true =>
    exfalso
    obtain ⟨p, p1, p2, p3⟩ := touch_iff.1 hn
    have m0 := touchN_no hq p1 p3
    rw [hf p, m0] at p2
    have b1 := hw p
    have b2 := (s1.bd t ht p).1
    have h3 : touchN post[t] set = true := touch_iff.2 ⟨p, p1, by omega, p3⟩
    have h4 := (siphB_iff hpp).1 hs t ht (by rw [show post.getD t [] = post[t] by simp [ht2]]; exact h3)
    rw [show pre.getD t [] = pre[t] by simp [ht]] at h4
    obtain ⟨q, q1, q2, q3⟩ := touch_iff.1 h4
    have m1 := touchN_no hq q1 q3
    have b3 := hw q
    have b4 := (s1.bd t ht q).1
    omega
theorem keep_trap {pre post : List (List Int)} {n set : Nat} (hpp : post.length = pre.length) (rp : ∀ r ∈ pre, r.length = n) (rq : ∀ r ∈ post, r.length = n) (s1 : Small pre) (s2 : Small post) (hs : siphB post pre set = true) (ts : List Int) (s : PSt) (hl : s.m.length = n)
    (hb : ∀ p, 0 ≤ tk s.m p ∧ tk s.m p ≤ 5) (hq : touchN s.m set = true) : touchN (runS pre post ts 0 s).m set = true := by
  refine (runS_keep hpp rp rq s1 s2 (fun m => touchN m set = true) (fun m t ht ht2 _ h0 hw hf hq => ?_) ts 0 s (by omega) hl (fun p => by have := hb p; omega) hq).1
  obtain ⟨p, p1, p2, p3⟩ := touch_iff.1 hq
  rcases Classical.em (tk (fireL pre[t] post[t] m) p = 0) with h5 | h5
  · have b1 := h0 p
    have b2 := (s2.bd t ht2 p).1
    have b3 := hf p
    have h3 : touchN pre[t] set = true := touch_iff.2 ⟨p, p1, by omega, p3⟩
    have h4 := (siphB_iff hpp.symm).1 hs t (by omega) (by rw [show pre.getD t [] = pre[t] by simp [ht]]; exact h3)
    rw [show post.getD t [] = post[t] by simp [ht2]] at h4
    obtain ⟨q, q1, q2, q3⟩ := touch_iff.1 h4
    refine touch_iff.2 ⟨q, q1, ?_, q3⟩
    have c1 := hw q
    have c2 := (s2.bd t ht2 q).1
    have c3 := hf q
    omega
  · exact touch_iff.2 ⟨p, p1, h5, p3⟩
theorem trapR_trap {pre post : List (List Int)} {set : Nat} (hpp : post.length = pre.length) : siphB post pre (trapR pre post set) = true := by
  refine (siphB_iff hpp.symm).2 fun t ht h => ?_
  obtain ⟨p, p1, p2, p3⟩ := touch_iff.1 h
  obtain ⟨q, q0, q1, q2, q3⟩ := (trapN_bit pre post set (set + 1) p).1 p3
  refine touch_mono (fun i hi => (trapN_bit pre post set (set + 1) i).2 ⟨q, q0, q1, q2, hi⟩) ((siphB_iff hpp.symm).1 q2 t ht (touch_iff.2 ⟨p, p1, p2, q3⟩))
theorem trapR_sub (pre post : List (List Int)) (set : Nat) : Sub (trapR pre post set) set := fun i hi => by
  obtain ⟨q, _, h, _, h2⟩ := (trapN_bit pre post set (set + 1) i).1 hi
  exact h i h2
theorem shlU {n : Nat} (h : n ≤ 6) : IntKind.u64.wrap ((1 : Int) * 2 ^ min ((n : Int)).toNat IntKind.u64.bits) = ((2 ^ n : Nat) : Int) := by
  have e : min ((n : Int)).toNat IntKind.u64.bits = n := by
    show min n 64 = n
    omega
  have := pow6 h
  rw [e, Int.one_mul, show ((2 : Int) ^ n) = ((2 ^ n : Nat) : Int) by simp, wrapU]
  congr 1
  exact Nat.mod_eq_of_lt (by omega)
theorem wrapUs {n : Nat} (h : n ≤ 6) : IntKind.u64.wrap (n : Int) = (n : Int) := by
  rw [wrapU, Nat.mod_eq_of_lt (by omega)]
theorem modU (a b : Nat) : (a : Int).tmod (b : Int) = ((a % b : Nat) : Int) := by
  rw [Int.tmod_eq_emod_of_nonneg (by omega)]; rfl
set_option maxRecDepth 10000 in
theorem lawK_no {a b c d : DV} {pre post : List (List Int)} {start w : List Int} {set : Int} (h : NetD a b c pre post start) (hv : validB pre post start = false) : DeepCall Try.prog 14 [.agg [a, b, c], d, DI set] (DB true) := by
  have c1 := Siphons39 h.cp
  rw [sipD_cp] at c1
  have c3 := rvalid20 h
  rw [hv] at c3
  rw [show sipD pre post start = .tup [Dnil, DI 2] by unfold sipD; rw [if_neg (by simp [hv])]] at c1
  refine deepCall_K 5 Try.func14 rfl (Nat.le_of_ble_eq_true rfl) fun M W0 => ?_
  refine KC.seq ?_
  refine KC.region ?_
  refine KT.step rfl rfl (K.box rfl) ?_
  refine KT.step rfl rfl (K.assign rfl) ?_
  refine KT.nil ?_
  refine thenK_n ?_
  refine KC.seq ?_
  refine KC.region ?_
  refine KT.step rfl rfl (K.loadOAgg (m := 3) rfl rfl (by simp) Try.agg25 Try.size25 (by simp [cellsX])) ?_
  refine KT.step rfl rfl (K.call1 rfl plainTry_16 (of16 h)) ?_
  refine KT.step rfl rfl (K.call1 rfl plainTry_39 (c1)) ?_
  refine KT.step rfl rfl (K.move rfl) ?_
  refine KT.step rfl rfl (K.extract rfl rfl) ?_
  refine KT.step rfl rfl (K.extract rfl rfl) ?_
  refine KT.step rfl rfl (K.assign rfl) ?_
  refine KT.step rfl rfl (K.assign rfl) ?_
  refine KT.nil ?_
  refine thenK_n ?_
  refine KC.seq ?_
  refine KC.seq ?_
  refine KC.region ?_
  refine KT.step rfl rfl (K.move rfl) ?_
  refine KT.step rfl rfl (K.neq rfl rfl) ?_
  refine KT.step rfl rfl (K.move rfl) ?_
  refine KT.bcase (fun hb23 => ?_) (fun hb23 => ?_)
  · skip
    refine KT.skip rfl rfl ?_
    refine KT.skip rfl rfl ?_
    refine KT.skip rfl rfl ?_
    refine KT.step rfl rfl (K.pick rfl (fun _ => rfl) (fun h => by cases h)) ?_
    refine KT.nil ?_
    refine thenK_n ?_
    refine KC.cond rfl (fun hc27 => ?_) (fun hc27 => ?_)
    · skip
      refine KC.seq ?_
      refine KC.region ?_
      refine KT.step rfl rfl (K.move rfl) ?_
      refine KT.step rfl rfl (K.eql rfl rfl) ?_
      refine KT.step rfl rfl (K.move rfl) ?_
      refine KT.bcase (fun hb30 => ?_) (fun hb30 => ?_)
      · skip
        refine KT.step rfl rfl (K.call0 plainTry_22 (awake22)) ?_
        refine KT.step rfl rfl (K.pick rfl (fun _ => rfl) (fun h => by cases h)) ?_
        refine KT.step rfl rfl (K.assign rfl) ?_
        refine KT.nil ?_
        refine thenK_n ?_
        refine KC.ret ?_
        refine thenK_r ?_
        exact ⟨.inl rfl, _, rfl, fin_d rfl⟩
      · skip
        simp at hb30
    · cases hc27
  · skip
    simp at hb23
set_option maxRecDepth 10000 in
theorem lawK_yes {a b c d : DV} {pre post : List (List Int)} {start w : List Int} {set : Int} (h : NetD a b c pre post start) (hv : validB pre post start = true) (hd : Ints d w) (hw : w.length ≤ 9223372036854775807) : DeepCall Try.prog 14 [.agg [a, b, c], d, DI set] (DB true) := by
  have c1 := Siphons39 h.cp
  rw [sipD_cp] at c1
  have c3 := rvalid20 h
  rw [hv] at c3
  rw [show sipD pre post start = .tup [slOf ((sipL pre post (2 ^ start.length)).map fun n => DI (n : Nat)), DI 0] by unfold sipD; rw [if_pos hv]] at c1
  obtain ⟨v1, v2, v3, v4, v5, v6, v7, v8⟩ := validB_iff.1 hv
  have hp6 := pow6 v2
  have hp0 : 0 < 2 ^ start.length := Nat.two_pow_pos _
  have hc0 := h.hc
  have hl3 := h.l3
  have hin := slNat_ints (sipL pre post (2 ^ start.length))
  have hln : (natsI (sipL pre post (2 ^ start.length))).length = (sipL pre post (2 ^ start.length)).length := by simp [natsI]
  have hle := sipL_len pre post (2 ^ start.length)
  have c4 := played51 h hv hd hw
  have b5 := tk_bd (l := start) (by decide) (fitsB_mem v3)
  have rp : ∀ r ∈ pre, r.length = start.length := fun r hr => fitsB_len (allB_mem v7 r hr)
  have rq : ∀ r ∈ post, r.length = start.length := fun r hr => fitsB_len (allB_mem v8 r hr)
  have kp := runS_keep v6 rp rq (small_of v7) (small_of v8) (fun _ => True) (fun _ _ _ _ _ _ _ _ _ => trivial) w 0 ⟨start, fun _ => 0⟩ (by omega) rfl (fun p => by have := b5 p; simp only; omega) trivial
  have ks := fun (q : Nat) (hq : siphB pre post q = true) => keep_siphon v6 rp rq (small_of v7) (small_of v8) hq w ⟨start, fun _ => 0⟩ rfl b5
  have kt := fun (q : Nat) (hq : siphB post pre q = true) => keep_trap v6 rp rq (small_of v7) (small_of v8) hq w ⟨start, fun _ => 0⟩ rfl b5
  generalize runS pre post w 0 ⟨start, fun _ => 0⟩ = fin at c4 kp ks kt
  obtain ⟨_, fl, f0⟩ := kp
  have t1 := fun q => touch_same (r := start) (set := q) v2 (fun x hx => (fitsB_mem v3 x hx).1)
  have t2 := fun q => touch_same (r := fin.m) (set := q) (by omega) (fun x hx => by
    obtain ⟨i, hi, rfl⟩ := List.getElem_of_mem hx
    have := f0 i
    rwa [tk_get hi] at this)
  obtain ⟨k, hk⟩ : ∃ k, (set % 2 ^ 64).toNat % 2 ^ start.length = k := ⟨_, rfl⟩
  have hk2 : k < 2 ^ start.length := by rw [← hk]; exact Nat.mod_lt _ hp0
  have hk63 : k < 2 ^ 63 := by omega
  have c5 := Trap40 (set := (k : Int)) h.cp
  rw [trapD_cp, show trapD pre post start (k : Int) = .tup [DI (trapR pre post k : Nat), DI 0] by unfold trapD; rw [if_pos (by unfold okTrap; rw [hv]; simp only [Bool.true_and, Bool.and_eq_true, decide_eq_true_eq]; omega)]; rfl] at c5
  have hT63 : trapR pre post k < 2 ^ 63 := by have := (trapR_sub pre post k).le; omega
  refine deepCall_K 5 Try.func14 rfl (Nat.le_of_ble_eq_true rfl) fun M W0 => ?_
  refine KC.seq ?_
  refine KC.region ?_
  refine KT.step rfl rfl (K.box rfl) ?_
  refine KT.step rfl rfl (K.assign rfl) ?_
  refine KT.nil ?_
  refine thenK_n ?_
  refine KC.seq ?_
  refine KC.region ?_
  refine KT.step rfl rfl (K.loadOAgg (m := 3) rfl rfl (by simp) Try.agg25 Try.size25 (by simp [cellsX])) ?_
  refine KT.step rfl rfl (K.call1 rfl plainTry_16 (of16 h)) ?_
  refine KT.step rfl rfl (K.call1 rfl plainTry_39 (c1)) ?_
  refine KT.step rfl rfl (K.move rfl) ?_
  refine KT.step rfl rfl (K.extract rfl rfl) ?_
  refine KT.step rfl rfl (K.extract rfl rfl) ?_
  refine KT.step rfl rfl (K.assign rfl) ?_
  refine KT.step rfl rfl (K.assign rfl) ?_
  refine KT.nil ?_
  refine thenK_n ?_
  refine KC.seq ?_
  refine KC.seq ?_
  refine KC.region ?_
  refine KT.step rfl rfl (K.move rfl) ?_
  refine KT.step rfl rfl (K.neq rfl rfl) ?_
  refine KT.step rfl rfl (K.move rfl) ?_
  refine KT.bcase (fun hb23 => ?_) (fun hb23 => ?_)
  · skip
    simp at hb23
  · skip
    refine KT.step rfl rfl (K.loadOAgg (m := 3) rfl rfl (by simp) Try.agg25 Try.size25 (by simp [cellsX])) ?_
    refine KT.step rfl rfl (K.call1 rfl plainTry_20 (c3)) ?_
    refine KT.step rfl rfl (K.not rfl) ?_
    refine KT.step rfl rfl (K.pick rfl (fun h => by cases h) (fun _ => rfl)) ?_
    refine KT.nil ?_
    refine thenK_n ?_
    refine KC.cond rfl (fun hc27 => ?_) (fun hc27 => ?_)
    · skip
      simp at hc27
    · skip
      refine KC.skip ?_
      refine thenK_n ?_
      refine KC.seq ?_
      refine KC.region ?_
      refine KT.step rfl rfl (K.loadOAgg (m := 3) rfl rfl (by simp) Try.agg25 Try.size25 (by simp [cellsX])) ?_
      refine KT.step rfl rfl (K.move rfl) ?_
      refine KT.step rfl rfl (K.call2 rfl rfl plainTry_51 (c4)) ?_
      refine KT.step rfl rfl (K.move rfl) ?_
      refine KT.step rfl rfl (K.extract rfl rfl) ?_
      refine KT.step rfl rfl (K.extract rfl rfl) ?_
      refine KT.step rfl rfl (K.extract rfl rfl) ?_
      refine KT.step rfl rfl (K.assign rfl) ?_
      refine KT.step rfl rfl (K.assign rfl) ?_
      refine KT.step rfl rfl (K.assign rfl) ?_
      refine KT.nil ?_
      refine thenK_n ?_
      refine KC.seq ?_
      refine KC.seq ?_
      refine KC.region ?_
      refine KT.step rfl rfl (K.move rfl) ?_
      refine KT.step rfl rfl (K.not rfl) ?_
      refine KT.nil ?_
      refine thenK_n ?_
      refine KC.cond rfl (fun hc41 => ?_) (fun hc41 => ?_)
      · skip
        simp at hc41
      · skip
        refine KC.skip ?_
        refine thenK_n ?_
        refine KC.seq ?_
        refine KC.seq ?_
        refine KC.region ?_
        refine KT.step rfl rfl (K.move rfl) ?_
        refine KT.step rfl rfl (K.len rfl hin Try.underlying23) ?_
        refine KT.step rfl rfl (K.move rfl) ?_
        refine KT.nil ?_
        refine thenK_n ?_
        refine KC.block ?_
        refine KC.loop (fun _ : Nat => [⟨[.d a, .d b, .d c], 0⟩]) (fun i => [(2, .d (DI set)), (3, .optr 0 0), (9, .d (mD fin.m)), (42, .d (slOf ((sipL pre post (2 ^ start.length)).map fun n => DI (n : Nat)))), (43, .d (DI (natsI (sipL pre post (2 ^ start.length))).length)), (44, .d (DI i))]) (fun i => i ≤ (natsI (sipL pre post (2 ^ start.length))).length) (fun i => (natsI (sipL pre post (2 ^ start.length))).length - i) 0 (Nat.zero_le _) rfl (by simp [Go.Vm.look, extK, enterK]) ?_
        intro i hi
        refine KC.seq ?_
        refine KC.region ?_
        refine KT.step rfl rfl (K.lss rfl rfl) ?_
        refine KT.nil ?_
        refine thenK_n ?_
        refine KC.seq ?_
        refine KC.cond rfl (fun hc45 => ?_) (fun hc45 => ?_)
        · skip
          replace hc45 := of_decide_eq_true hc45
          refine KC.skip ?_
          refine thenK_n ?_
          refine KC.seq ?_
          refine KC.block ?_
          refine KC.seq ?_
          refine KC.region ?_
          refine KT.idxI rfl rfl rfl (by assumption) rfl (by omega) Try.underlying23 Try.size3 fun cs46 => ?_
          refine KT.step rfl rfl (K.load rfl Try.agg3) ?_
          refine KT.step rfl rfl (K.assign rfl) ?_
          refine KT.nil ?_
          refine thenK_n ?_
          refine KC.seq ?_
          refine KC.region ?_
          have hil : i < (sipL pre post (2 ^ start.length)).length := by omega
          have hg : (natsI (sipL pre post (2 ^ start.length)))[i]'(by omega) = (((sipL pre post (2 ^ start.length))[i] : Nat) : Int) := by simp [natsI]
          obtain ⟨z1, z2, z3⟩ := sipL_lt pre post _ _ (List.getElem_mem hil)
          have hs63 : (sipL pre post (2 ^ start.length))[i] < 2 ^ 63 := by omega
          rw [hg]
          refine KT.step rfl rfl (K.fieldAddrO rfl Try.fld25_2 Try.size23) ?_
          refine KT.step rfl rfl (K.loadO rfl rfl (by simp) rfl Try.agg23) ?_
          refine KT.step rfl rfl (K.move rfl) ?_
          refine KT.step rfl rfl (K.call2 rfl rfl plainTry_55 (tokens55 hc0 v2 hs63)) ?_
          refine KT.step rfl rfl (K.not rfl) ?_
          refine KT.step rfl rfl (K.move rfl) ?_
          refine KT.bcase (fun hb53 => ?_) (fun hb53 => ?_)
          · skip
            refine KT.step rfl rfl (K.move rfl) ?_
            refine KT.step rfl rfl (K.move rfl) ?_
            refine KT.step rfl rfl (K.call2 rfl rfl plainTry_55 (tokens55 (mD_ints fin.m) (by omega) hs63)) ?_
            refine KT.step rfl rfl (K.pick rfl (fun _ => rfl) (fun h => by cases h)) ?_
            refine KT.nil ?_
            refine thenK_n ?_
            refine KC.cond rfl (fun hc57 => ?_) (fun hc57 => ?_)
            · skip
              exfalso
              rw [t1] at hb53
              rw [t2, (ks _ z3 (by simpa using hb53)).1] at hc57
              cases hc57
            · skip
              refine KC.skip ?_
              refine blockK_n ?_
              refine thenK_n ?_
              refine KC.region ?_
              refine KT.step rfl rfl (K.add rfl rfl (wrap_id (by omega))) ?_
              refine KT.step rfl rfl (K.move rfl) ?_
              refine KT.nil ?_
              refine thenK_n ?_
              exact ⟨i + 1, by omega, by omega, rfl, by simp [Go.Vm.look, extK]⟩
          · skip
            refine KT.skip rfl rfl ?_
            refine KT.skip rfl rfl ?_
            refine KT.skip rfl rfl ?_
            refine KT.step rfl rfl (K.pick rfl (fun h => by cases h) (fun _ => rfl)) ?_
            refine KT.nil ?_
            refine thenK_n ?_
            refine KC.cond rfl (fun hc57 => ?_) (fun hc57 => ?_)
            · cases hc57
            · skip
              refine KC.skip ?_
              refine blockK_n ?_
              refine thenK_n ?_
              refine KC.region ?_
              refine KT.step rfl rfl (K.add rfl rfl (wrap_id (by omega))) ?_
              refine KT.step rfl rfl (K.move rfl) ?_
              refine KT.nil ?_
              refine thenK_n ?_
              exact ⟨i + 1, by omega, by omega, rfl, by simp [Go.Vm.look, extK]⟩
        · skip
          replace hc45 := of_decide_eq_false hc45
          refine KC.exit ?_
          refine thenK_x ?_
          refine thenK_x ?_
          refine blockK_e ?_
          refine thenK_n ?_
          refine KC.seq ?_
          refine KC.region ?_
          refine KT.step rfl rfl (K.move rfl) ?_
          refine KT.step rfl rfl (K.conv rfl Try.underlying3 Try.underlying69 (wrapUI _)) ?_
          refine KT.step rfl rfl (K.fieldAddrO rfl Try.fld25_2 Try.size23) ?_
          refine KT.step rfl rfl (K.loadO rfl rfl (by simp) rfl Try.agg23) ?_
          refine KT.step rfl rfl (K.len (l := start) rfl hc0 Try.underlying23) ?_
          refine KT.step rfl rfl (K.conv rfl Try.underlying3 Try.underlying69 (wrapUs v2)) ?_
          refine KT.step rfl rfl (K.shl rfl rfl (by omega) (shlU v2)) ?_
          refine KT.step rfl rfl (K.rem rfl rfl (by omega) (modU _ _)) ?_
          rw [hk]
          refine KT.step rfl rfl (K.conv rfl Try.underlying69 Try.underlying3 (wrap_id (n := (k : Int)) (by omega))) ?_
          refine KT.step rfl rfl (K.assign rfl) ?_
          refine KT.nil ?_
          refine thenK_n ?_
          refine KC.seq ?_
          refine KC.region ?_
          refine KT.step rfl rfl (K.loadOAgg (m := 3) rfl rfl (by simp) Try.agg25 Try.size25 (by simp [cellsX])) ?_
          refine KT.step rfl rfl (K.call1 rfl plainTry_16 (of16 h)) ?_
          refine KT.step rfl rfl (K.move rfl) ?_
          refine KT.step rfl rfl (K.call2 rfl rfl plainTry_40 (c5)) ?_
          refine KT.step rfl rfl (K.move rfl) ?_
          refine KT.step rfl rfl (K.extract rfl rfl) ?_
          refine KT.step rfl rfl (K.extract rfl rfl) ?_
          refine KT.step rfl rfl (K.assign rfl) ?_
          refine KT.step rfl rfl (K.assign rfl) ?_
          refine KT.nil ?_
          refine thenK_n ?_
          refine KC.seq ?_
          refine KC.region ?_
          refine KT.step rfl rfl (K.move rfl) ?_
          refine KT.step rfl rfl (K.eql rfl rfl) ?_
          refine KT.step rfl rfl (K.move rfl) ?_
          refine KT.bcase (fun hb77 => ?_) (fun hb77 => ?_)
          · skip
            refine KT.step rfl rfl (K.move rfl) ?_
            refine KT.step rfl rfl (K.move rfl) ?_
            refine KT.step rfl rfl (K.bandNot rfl rfl (diffI hT63 hk63)) ?_
            refine KT.step rfl rfl (K.eql rfl rfl) ?_
            refine KT.step rfl rfl (K.pick rfl (fun _ => rfl) (fun h => by cases h)) ?_
            refine KT.step rfl rfl (K.move rfl) ?_
            refine KT.bcase (fun hb83 => ?_) (fun hb83 => ?_)
            · skip
              refine KT.step rfl rfl (K.fieldAddrO rfl Try.fld25_2 Try.size23) ?_
              refine KT.step rfl rfl (K.loadO rfl rfl (by simp) rfl Try.agg23) ?_
              refine KT.step rfl rfl (K.move rfl) ?_
              refine KT.step rfl rfl (K.call2 rfl rfl plainTry_55 (tokens55 hc0 v2 hT63)) ?_
              refine KT.step rfl rfl (K.not rfl) ?_
              refine KT.step rfl rfl (K.move rfl) ?_
              refine KT.bcase (fun hb89 => ?_) (fun hb89 => ?_)
              · skip
                refine KT.skip rfl rfl ?_
                refine KT.skip rfl rfl ?_
                refine KT.skip rfl rfl ?_
                refine KT.step rfl rfl (K.pick rfl (fun _ => rfl) (fun h => by cases h)) ?_
                refine KT.step rfl rfl (K.pick rfl (fun _ => rfl) (fun h => by cases h)) ?_
                refine KT.step rfl rfl (K.move rfl) ?_
                refine KT.step rfl rfl (K.call0 plainTry_22 (awake22)) ?_
                refine KT.step rfl rfl (K.pick rfl (fun _ => rfl) (fun h => by cases h)) ?_
                refine KT.step rfl rfl (K.assign rfl) ?_
                refine KT.nil ?_
                refine thenK_n ?_
                refine KC.ret ?_
                exact ⟨.inl rfl, _, rfl, fin_d rfl⟩
              · skip
                refine KT.step rfl rfl (K.move rfl) ?_
                refine KT.step rfl rfl (K.move rfl) ?_
                refine KT.step rfl rfl (K.call2 rfl rfl plainTry_55 (tokens55 (mD_ints fin.m) (by omega) hT63)) ?_
                refine KT.step rfl rfl (K.pick rfl (fun h => by cases h) (fun _ => rfl)) ?_
                refine KT.step rfl rfl (K.pick rfl (fun _ => rfl) (fun h => by cases h)) ?_
                refine KT.step rfl rfl (K.move rfl) ?_
                refine KT.bcase (fun hb95 => ?_) (fun hb95 => ?_)
                · skip
                  refine KT.step rfl rfl (K.call0 plainTry_22 (awake22)) ?_
                  refine KT.step rfl rfl (K.pick rfl (fun _ => rfl) (fun h => by cases h)) ?_
                  refine KT.step rfl rfl (K.assign rfl) ?_
                  refine KT.nil ?_
                  refine thenK_n ?_
                  refine KC.ret ?_
                  exact ⟨.inl rfl, _, rfl, fin_d rfl⟩
                · skip
                  exfalso
                  rw [t1] at hb89
                  rw [t2, kt _ (trapR_trap v6) (by simpa using hb89)] at hb95
                  cases hb95
            · skip
              rw [nat_eq, decide_eq_true (diff_zero.2 (trapR_sub pre post k))] at hb83; cases hb83
          · skip
            simp at hb77
theorem law14 {a b c d : DV} {pre post : List (List Int)} {start w : List Int} {set : Int} (h : NetD a b c pre post start) (hd : Ints d w) (hw : w.length ≤ 9223372036854775807) : DeepCall Try.prog 14 [.agg [a, b, c], d, DI set] (DB true) := by
  cases hv : validB pre post start with
  | true => exact lawK_yes h hv hd hw
  | false => exact lawK_no (w := w) h hv
end Go.Proofs.Ytnhcippeejldiaa
