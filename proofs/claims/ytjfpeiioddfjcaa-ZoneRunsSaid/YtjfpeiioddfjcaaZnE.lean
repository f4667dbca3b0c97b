import Derived.Test.YtjfpeiioddfjcaaZnU
import Derived.Test.YtjfpeiioddfjcaaZnC
/-
  Zones: rows of operations; Tight, And, Delay, Reset, Includes.
-/
namespace Go.Proofs.Ytjfpeiioddfjcaa
open Go.Vm Go.Zn
theorem plainTry_61 : plainFn Try.prog 61 = true := by kernel_rfl
theorem plainTry_66 : plainFn Try.prog 66 = true := by kernel_rfl
theorem plainTry_62 : plainFn Try.prog 62 = true := by kernel_rfl
theorem plainTry_67 : plainFn Try.prog 67 = true := by kernel_rfl
theorem plainTry_96 : plainFn Try.prog 96 = true := by kernel_rfl
theorem plainTry_97 : plainFn Try.prog 97 = true := by kernel_rfl
theorem plainTry_50 : plainFn Try.prog 50 = true := by kernel_rfl
theorem plainTry_15 : plainFn Try.prog 15 = true := by kernel_rfl
theorem plainTry_23 : plainFn Try.prog 23 = true := by kernel_rfl
theorem plainTry_25 : plainFn Try.prog 25 = true := by kernel_rfl
theorem plainTry_27 : plainFn Try.prog 27 = true := by kernel_rfl
theorem plainTry_29 : plainFn Try.prog 29 = true := by kernel_rfl
theorem one82 : OneT Try.prog 82 .nilFunc := ⟨by kernel_rfl, by kernel_rfl, rfl, of_decide_eq_true (by kernel_rfl)⟩
theorem Try.agg98 : isAggT Try.prog 98 = some false := by kernel_rfl
theorem Try.agg102 : isAggT Try.prog 102 = some false := by kernel_rfl
set_option maxRecDepth 10000 in
theorem validGuard61 (i j b cl most : Int) (hm : 0 ≤ most ∧ most ≤ 1000000) : DeepCall Try.prog 61 [.agg [DI i, DI j, DI b], DI cl, DI most] (DB (guardB cl most i j b)) := by
  refine deepCall_K 5 Try.func61 rfl (Nat.le_of_ble_eq_true rfl) fun M W0 => ?_
  refine KC.seq ?_
  refine KC.region ?_
  refine KT.step rfl rfl (K.box rfl) ?_
  refine KT.step rfl rfl (K.assign rfl) ?_
  refine KT.nil ?_
  refine thenK_n ?_
  refine KC.seq ?_
  refine KC.region ?_
  refine KT.step rfl rfl (K.fieldAddrO rfl Try.fld38_0 Try.size3) ?_
  refine KT.step rfl rfl (K.loadO rfl rfl (by simp) rfl Try.agg3) ?_
  refine KT.step rfl rfl (K.move rfl) ?_
  refine KT.step rfl rfl (K.call3 rfl rfl rfl plainTry_71 (in71 _ _ _)) ?_
  refine KT.step rfl rfl (K.move rfl) ?_
  refine KT.bcase (fun hb11 => ?_) (fun hb11 => ?_)
  · skip
    refine KT.step rfl rfl (K.fieldAddrO rfl Try.fld38_1 Try.size3) ?_
    refine KT.step rfl rfl (K.loadO rfl rfl (by simp) rfl Try.agg3) ?_
    refine KT.step rfl rfl (K.move rfl) ?_
    refine KT.step rfl rfl (K.call3 rfl rfl rfl plainTry_71 (in71 _ _ _)) ?_
    refine KT.step rfl rfl (K.pick rfl (fun _ => rfl) (fun h => by cases h)) ?_
    refine KT.step rfl rfl (K.move rfl) ?_
    refine KT.bcase (fun hb17 => ?_) (fun hb17 => ?_)
    · skip
      refine KT.step rfl rfl (K.fieldAddrO rfl Try.fld38_2 Try.size3) ?_
      refine KT.step rfl rfl (K.loadO rfl rfl (by simp) rfl Try.agg3) ?_
      refine KT.step rfl rfl (K.move rfl) ?_
      refine KT.step rfl rfl (K.call2 rfl rfl plainTry_93 (isBound93 _ _ hm)) ?_
      refine KT.step rfl rfl (K.pick rfl (fun _ => rfl) (fun h => by cases h)) ?_
      refine KT.step rfl rfl (K.assign rfl) ?_
      refine KT.nil ?_
      refine thenK_n ?_
      refine KC.ret ?_
      exact ⟨.inl rfl, _, rfl, fin_b (by unfold guardB; rw [hb11, hb17]; rfl)⟩
    · skip
      refine KT.skip rfl rfl ?_
      refine KT.skip rfl rfl ?_
      refine KT.skip rfl rfl ?_
      refine KT.skip rfl rfl ?_
      refine KT.step rfl rfl (K.pick rfl (fun h => by cases h) (fun _ => rfl)) ?_
      refine KT.step rfl rfl (K.assign rfl) ?_
      refine KT.nil ?_
      refine thenK_n ?_
      refine KC.ret ?_
      exact ⟨.inl rfl, _, rfl, fin_b (by unfold guardB; rw [hb11, hb17]; rfl)⟩
  · skip
    refine KT.skip rfl rfl ?_
    refine KT.skip rfl rfl ?_
    refine KT.skip rfl rfl ?_
    refine KT.skip rfl rfl ?_
    refine KT.step rfl rfl (K.pick rfl (fun h => by cases h) (fun _ => rfl)) ?_
    refine KT.step rfl rfl (K.move rfl) ?_
    refine KT.skip rfl rfl ?_
    refine KT.skip rfl rfl ?_
    refine KT.skip rfl rfl ?_
    refine KT.skip rfl rfl ?_
    refine KT.step rfl rfl (K.pick rfl (fun h => by cases h) (fun _ => rfl)) ?_
    refine KT.step rfl rfl (K.assign rfl) ?_
    refine KT.nil ?_
    refine thenK_n ?_
    refine KC.ret ?_
    exact ⟨.inl rfl, _, rfl, fin_b (by unfold guardB; rw [hb11]; rfl)⟩
set_option maxRecDepth 10000 in
theorem isSet66 (s : Int) {L : Nat} (hL : L ≤ 6) : DeepCall Try.prog 66 [DI s, DI ((L : Int) - 1)] (DB (setB L s)) := by
  have hp : 2 ^ L ≤ 2 ^ 6 := Nat.pow_le_pow_right (by decide) hL
  have hq : -9223372036854775808 ≤ ((2 ^ L : Nat) : Int) - 1 ∧ ((2 ^ L : Nat) : Int) - 1 ≤ 9223372036854775807 := by generalize 2 ^ L = q at *; omega
  refine deepCall_K 5 Try.func66 rfl (Nat.le_of_ble_eq_true rfl) fun M W0 => ?_
  refine KC.seq ?_
  refine KC.region ?_
  refine KT.step rfl rfl (K.assign rfl) ?_
  refine KT.nil ?_
  refine thenK_n ?_
  refine KC.seq ?_
  refine KC.region ?_
  refine KT.step rfl rfl (K.move rfl) ?_
  refine KT.step rfl rfl (K.move rfl) ?_
  refine KT.step rfl rfl (K.add rfl rfl (show IntKind.i64.wrap (((L : Nat) : Int) - 1 + 1) = ((L : Nat) : Int) from by rw [Int.sub_add_cancel]; exact wrap_id (by omega))) ?_
  refine KT.step rfl rfl (K.shl rfl rfl (by omega) (shlI (by omega))) ?_
  refine KT.step rfl rfl (K.sub rfl rfl (wrap_id hq)) ?_
  refine KT.step rfl rfl (K.call3 rfl rfl rfl plainTry_71 (in71 _ _ _)) ?_
  refine KT.step rfl rfl (K.move rfl) ?_
  refine KT.bcase (fun hb11 => ?_) (fun hb11 => ?_)
  · skip
    refine KT.step rfl rfl (K.move rfl) ?_
    refine KT.step rfl rfl (K.band rfl rfl (andOne s)) ?_
    refine KT.step rfl rfl (K.eql rfl rfl) ?_
    refine KT.step rfl rfl (K.pick rfl (fun _ => rfl) (fun h => by cases h)) ?_
    refine KT.step rfl rfl (K.assign rfl) ?_
    refine KT.nil ?_
    refine thenK_n ?_
    refine KC.ret ?_
    exact ⟨.inl rfl, _, rfl, fin_b (by unfold setB; rw [hb11, Bool.true_and])⟩
  · skip
    refine KT.skip rfl rfl ?_
    refine KT.skip rfl rfl ?_
    refine KT.skip rfl rfl ?_
    refine KT.step rfl rfl (K.pick rfl (fun h => by cases h) (fun _ => rfl)) ?_
    refine KT.step rfl rfl (K.assign rfl) ?_
    refine KT.nil ?_
    refine thenK_n ?_
    refine KC.ret ?_
    exact ⟨.inl rfl, _, rfl, fin_b (by unfold setB; rw [hb11, Bool.false_and])⟩
set_option maxRecDepth 10000 in
theorem with62 {i j b : Int} : DeepCall Try.prog 62 [.fn (.func 63) [] [], .agg [DI i, DI j, DI b]] (.fn (.func 96) [] [.ptr [.fn (.func 63) [] []], .ptr [DI i, DI j, DI b]]) := by
  refine deepCall_K 5 Try.func62 rfl (Nat.le_of_ble_eq_true rfl) fun M W0 => ?_
  refine KC.seq ?_
  refine KC.region ?_
  refine KT.step rfl rfl (K.box rfl) ?_
  refine KT.step rfl rfl (K.box rfl) ?_
  refine KT.step rfl rfl (K.assign rfl) ?_
  refine KT.nil ?_
  refine thenK_n ?_
  refine KC.seq ?_
  refine KC.region ?_
  refine KT.step rfl rfl (K.makeF (m := 0) rfl rfl rfl rfl) ?_
  refine KT.step rfl rfl (K.assign rfl) ?_
  refine KT.nil ?_
  refine thenK_n ?_
  refine KC.ret ?_
  exact ⟨.inl rfl, _, rfl, rfl⟩
set_option maxRecDepth 10000 in
theorem with67 {s : Int} : DeepCall Try.prog 67 [.fn (.func 68) [] [], DI s] (.fn (.func 97) [] [.ptr [.fn (.func 68) [] []], .ptr [DI s]]) := by
  refine deepCall_K 5 Try.func67 rfl (Nat.le_of_ble_eq_true rfl) fun M W0 => ?_
  refine KC.seq ?_
  refine KC.region ?_
  refine KT.step rfl rfl (K.box rfl) ?_
  refine KT.step rfl rfl (K.box rfl) ?_
  refine KT.step rfl rfl (K.assign rfl) ?_
  refine KT.nil ?_
  refine thenK_n ?_
  refine KC.seq ?_
  refine KC.region ?_
  refine KT.step rfl rfl (K.makeF (m := 0) rfl rfl rfl rfl) ?_
  refine KT.step rfl rfl (K.assign rfl) ?_
  refine KT.nil ?_
  refine thenK_n ?_
  refine KC.ret ?_
  exact ⟨.inl rfl, _, rfl, rfl⟩
set_option maxRecDepth 10000 in
theorem withC96 {n i j : Nat} {a : Nat → Nat → Int} {b : Int} (hn : n ≤ 4) (hi : i < n) (hj : j < n) (ha : ZgM 5000 (Go.Zn.flo n (set2 a i j (min (a i j) b)))) : DeepCall Try.prog 96 [.agg (mc n a), .ptr [.fn (.func 63) [] []], .ptr [DI i, DI j, DI b]] (.agg (mc n (tightM n (set2 a i j (min (a i j) b))))) := by
  refine deepCall_K 5 Try.func96 rfl (Nat.le_of_ble_eq_true rfl) fun M W0 => ?_
  refine KC.seq ?_
  refine KC.region ?_
  refine KT.step rfl rfl (K.box rfl) ?_
  refine KT.step rfl rfl (K.alloc Try.zero87) ?_
  refine KT.nil ?_
  refine thenK_n ?_
  refine KC.seq ?_
  refine KC.region ?_
  refine KT.step rfl rfl (K.load rfl Try.agg98) ?_
  refine KT.step rfl rfl (K.loadOA (mc (n) (a)) rfl rfl (by decide) Try.agg87 Try.size87 rfl) ?_
  refine KT.step rfl rfl (K.loadAgg (m := 3) rfl Try.agg38 Try.size38 (by simp [cellsX])) ?_
  refine KT.step rfl rfl (K.callW (ds := [.agg (mc n a), .agg [DI i, DI j, DI b]]) rfl rfl rfl plainTry_63 (and63 hn hi hj ha)) ?_
  refine KT.putAll (cs := mcx n (tightM n (set2 a i j (min (a i j) b)))) rfl rfl rfl rfl rfl rfl rfl rfl Try.size87 ?_
  refine KT.nil ?_
  refine thenK_n ?_
  refine KC.ret ?_
  exact ⟨.inl rfl, _, resK_c (mc (n) (tightM n (set2 a i j (min (a i j) b)))) rfl rfl rfl (by decide) Try.agg87 Try.size87 rfl, fin_mc rfl⟩
set_option maxRecDepth 10000 in
theorem withC97 {n s : Nat} {a : Nat → Nat → Int} (hn : n ≤ 4) (h1 : 1 ≤ n) (hs : s < 2 ^ 63) : DeepCall Try.prog 97 [.agg (mc n a), .ptr [.fn (.func 68) [] []], .ptr [DI s]] (.agg (mc n (resM n s a))) := by
  refine deepCall_K 5 Try.func97 rfl (Nat.le_of_ble_eq_true rfl) fun M W0 => ?_
  refine KC.seq ?_
  refine KC.region ?_
  refine KT.step rfl rfl (K.box rfl) ?_
  refine KT.step rfl rfl (K.alloc Try.zero87) ?_
  refine KT.nil ?_
  refine thenK_n ?_
  refine KC.seq ?_
  refine KC.region ?_
  refine KT.step rfl rfl (K.load rfl Try.agg102) ?_
  refine KT.step rfl rfl (K.loadOA (mc (n) (a)) rfl rfl (by decide) Try.agg87 Try.size87 rfl) ?_
  refine KT.step rfl rfl (K.load rfl Try.agg3) ?_
  refine KT.step rfl rfl (K.callW (ds := [.agg (mc n a), DI s]) rfl rfl rfl plainTry_68 (reset68 hn h1 hs)) ?_
  refine KT.putAll (cs := mcx n (resM n s a)) rfl rfl rfl rfl rfl rfl rfl rfl Try.size87 ?_
  refine KT.nil ?_
  refine thenK_n ?_
  refine KC.ret ?_
  exact ⟨.inl rfl, _, resK_c (mc (n) (resM n s a)) rfl rfl rfl (by decide) Try.agg87 Try.size87 rfl, fin_mc rfl⟩
set_option maxRecDepth 10000 in
theorem operated50 {d e : DV} {z : List (List Int)} {fs : List DV} {A : Nat → Nat → Nat → Int} (hd : Mat d z) (hl : z.length ≤ 9223372036854775807) (hr : ∀ r ∈ z, r.length ≤ 9223372036854775807) (he : Fns e fs) (hlf : fs.length ≤ 1000) (h0 : A 0 = zf z)
    (hops : validZ z = true → ∀ i (h : i < fs.length), (∀ j, 1 ≤ j → j ≤ i → emptyB z.length (A j) = false) → FnOk Try.prog fs[i] [.agg (mc z.length (A i))] (.agg (mc z.length (A (i + 1))))) :
    DeepCall Try.prog 50 [d, e] (.tup [resD (opE z fs.length A) z.length (A fs.length), DI (opE z fs.length A)]) := by
  refine deepCall_K 5 Try.func50 rfl (Nat.le_of_ble_eq_true rfl) fun M W0 => ?_
  refine KC.seq ?_
  refine KC.region ?_
  refine KT.step rfl rfl (K.assign rfl) ?_
  refine KT.step rfl rfl (K.assign rfl) ?_
  refine KT.nil ?_
  refine thenK_n ?_
  refine KC.seq ?_
  refine KC.region ?_
  refine KT.step rfl rfl (K.move rfl) ?_
  refine KT.step rfl rfl (K.call1 rfl plainTry_53 (read53 hd hl hr)) ?_
  refine KT.step rfl rfl (K.move rfl) ?_
  refine KT.step rfl rfl (K.extract rfl rfl) ?_
  refine KT.step rfl rfl (K.extract rfl rfl) ?_
  refine KT.step rfl rfl (K.alloc Try.zero87) ?_
  refine KT.putAll (cs := mcx (rdN z) (rdA z)) rfl rfl rfl rfl rfl rfl rfl rfl Try.size87 ?_
  refine KT.step rfl rfl (K.assign rfl) ?_
  refine KT.nil ?_
  refine thenK_n ?_
  refine KC.seq ?_
  refine KC.seq ?_
  refine KC.region ?_
  refine KT.step rfl rfl (K.move rfl) ?_
  refine KT.step rfl rfl (K.not rfl) ?_
  refine KT.nil ?_
  refine thenK_n ?_
  refine KC.cond rfl (fun hc16 => ?_) (fun hc16 => ?_)
  · skip
    rw [Bool.not_eq_true'] at hc16
    refine KC.seq ?_
    refine KC.region ?_
    refine KT.step rfl rfl (K.assign rfl) ?_
    refine KT.step rfl rfl (K.assign rfl) ?_
    refine KT.nil ?_
    refine thenK_n ?_
    refine KC.ret ?_
    refine thenK_r ?_
    have he : opE z fs.length A = 2 := if_neg (by rw [hc16]; decide)
    rw [he]
    exact ⟨.inl rfl, _, rfl, rfl⟩
  · skip
    rw [Bool.not_eq_false'] at hc16
    have hz4 : z.length ≤ 4 := (validZ_rows hc16).2.1
    refine KC.skip ?_
    refine thenK_n ?_
    refine KC.seq ?_
    refine KC.seq ?_
    refine KC.region ?_
    refine KT.step rfl rfl (K.move rfl) ?_
    refine KT.step rfl rfl (K.len rfl he Try.underlying137) ?_
    refine KT.step rfl rfl (K.move rfl) ?_
    refine KT.nil ?_
    refine thenK_n ?_
    refine KC.block ?_
    refine KC.loop (fun i : Nat => [⟨mcx z.length (A i), 0⟩]) (fun i => [(6, .optr 0 0), (17, .d e), (18, .d (DI (fs.length : Nat))), (19, .d (DI (i : Nat)))]) (fun i => i ≤ fs.length ∧ ∀ j, 1 ≤ j → j ≤ i → emptyB z.length (A j) = false) (fun i => fs.length - i) 0 ⟨Nat.zero_le _, fun j h1 h2 => by omega⟩ (by rw [h0, show rdN z = z.length from if_pos hc16, show rdA z = zf z from if_pos hc16]; rfl) (by simp [Go.Vm.look, extK, enterK]) ?_
    intro i hi
    obtain ⟨hi, hall⟩ := hi
    refine KC.seq ?_
    refine KC.region ?_
    refine KT.step rfl rfl (K.lss rfl rfl) ?_
    refine KT.nil ?_
    refine thenK_n ?_
    refine KC.seq ?_
    refine KC.cond rfl (fun hc20 => ?_) (fun hc20 => ?_)
    · skip
      replace hc20 := of_decide_eq_true hc20
      have hil : i < fs.length := by omega
      obtain ⟨f, cs, hf1, hf2, hf3⟩ := hops hc16 i hil hall
      refine KC.skip ?_
      refine thenK_n ?_
      refine KC.seq ?_
      refine KC.block ?_
      refine KC.seq ?_
      refine KC.region ?_
      refine KT.idx rfl rfl rfl (by assumption) rfl (by omega) Try.underlying137 Try.size82 fun c21 cs21 hq21 => ?_
      have hcc : c21 = fs[i] := hq21
      subst hcc
      refine KT.step rfl rfl (K.load rfl Try.agg82) ?_
      refine KT.step rfl rfl (K.assign rfl) ?_
      refine KT.nil ?_
      refine thenK_n ?_
      refine KC.seq ?_
      refine KC.region ?_
      refine KT.step rfl rfl (K.move rfl) ?_
      refine KT.step rfl rfl (K.loadOA (mc (z.length) (A i)) rfl rfl (by decide) Try.agg87 Try.size87 rfl) ?_
      refine KT.step rfl rfl (K.callC (ds := [.agg (mc z.length (A i))]) rfl hf1 rfl hf2 hf3) ?_
      refine KT.putAll (cs := mcx z.length (A (i + 1))) rfl rfl rfl rfl rfl rfl rfl rfl Try.size87 ?_
      refine KT.nil ?_
      refine thenK_n ?_
      refine KC.seq ?_
      refine KC.region ?_
      refine KT.step rfl rfl (K.loadOA (mc (z.length) (A (i + 1))) rfl rfl (by decide) Try.agg87 Try.size87 rfl) ?_
      refine KT.step rfl rfl (K.call1 rfl plainTry_69 (empty69 hz4)) ?_
      refine KT.nil ?_
      refine thenK_n ?_
      refine KC.cond rfl (fun hc27 => ?_) (fun hc27 => ?_)
      · skip
        refine KC.seq ?_
        refine KC.region ?_
        refine KT.step rfl rfl (K.assign rfl) ?_
        refine KT.step rfl rfl (K.assign rfl) ?_
        refine KT.nil ?_
        refine thenK_n ?_
        refine KC.ret ?_
        refine blockK_r ?_
        refine thenK_r ?_
        refine thenK_r ?_
        refine blockK_r ?_
        refine thenK_r ?_
        have he : opE z fs.length A = 5 := by
          unfold opE
          rw [if_pos hc16, if_pos (List.any_eq_true.2 ⟨i, List.mem_range.2 hil, hc27⟩)]
        rw [he]
        exact ⟨.inl rfl, _, rfl, rfl⟩
      · skip
        refine KC.skip ?_
        refine blockK_n ?_
        refine thenK_n ?_
        refine KC.region ?_
        refine KT.step rfl rfl (K.add rfl rfl (wrap_id (by omega))) ?_
        refine KT.step rfl rfl (K.move rfl) ?_
        refine KT.nil ?_
        refine thenK_n ?_
        refine ⟨i + 1, ⟨by omega, fun j h1 h2 => ?_⟩, by omega, rfl, by simp [Go.Vm.look, extK]⟩
        by_cases e : j = i + 1
        · subst e; exact hc27
        · exact hall j h1 (by omega)
    · skip
      replace hc20 := of_decide_eq_false hc20
      refine KC.exit ?_
      refine thenK_x ?_
      refine thenK_x ?_
      refine blockK_e ?_
      refine thenK_n ?_
      refine KC.seq ?_
      refine KC.region ?_
      refine KT.step rfl rfl (K.loadOA (mc (z.length) (A i)) rfl rfl (by decide) Try.agg87 Try.size87 rfl) ?_
      refine KT.step rfl rfl (K.call1 rfl plainTry_89 (rows89 hz4)) ?_
      refine KT.step rfl rfl (K.assign rfl) ?_
      refine KT.step rfl rfl (K.assign rfl) ?_
      refine KT.nil ?_
      refine thenK_n ?_
      refine KC.ret ?_
      have e : i = fs.length := by omega
      subst e
      have he : opE z fs.length A = 0 := by
        unfold opE
        rw [if_pos hc16, if_neg (fun h => by
          obtain ⟨j, h1, h2⟩ := List.any_eq_true.1 h
          have := hall (j + 1) (by omega) (by have := List.mem_range.1 h1; omega)
          rw [this] at h2; cases h2)]
      rw [he]
      exact ⟨.inl rfl, _, rfl, rfl⟩

theorem opE_cong {z z' : List (List Int)} {k : Nat} {A B : Nat → Nat → Nat → Int} (h : z = z') (h2 : A = B) : opE z k A = opE z' k B := by rw [h, h2]
def tgA (z : List (List Int)) : Nat → Nat → Nat → Int
  | 0 => zf z
  | _ => tightM z.length (zf z)
def tgE (z : List (List Int)) : Int := opE z 1 (tgA z)
theorem tight_ok {z : List (List Int)} (hv : validZ z = true) : FnOk Try.prog (.fn (.func 51) [] []) [.agg (mc z.length (zf z))] (.agg (mc z.length (tightM z.length (zf z)))) :=
  ⟨51, [], rfl, plainTry_51, tight51 (validZ_rows hv).2.1 (flo_lim (by omega) ((fun i j => Lim.mono (zf_lim hv i j) (by omega) (by omega))))⟩
set_option maxRecDepth 10000 in
theorem Tight15 {d : DV} {z : List (List Int)} (hd : Mat d z) (hl : z.length ≤ 9223372036854775807) (hr : ∀ r ∈ z, r.length ≤ 9223372036854775807) : DeepCall Try.prog 15 [d] (.tup [resD (tgE z) z.length (tightM z.length (zf z)), DI (tgE z)]) := by
  refine deepCall_K 5 Try.func15 rfl (Nat.le_of_ble_eq_true rfl) fun M W0 => ?_
  refine KC.seq ?_
  refine KC.region ?_
  refine KT.step rfl rfl (K.assign rfl) ?_
  refine KT.step rfl rfl (K.assign rfl) ?_
  refine KT.nil ?_
  refine thenK_n ?_
  refine KC.seq ?_
  refine KC.region ?_
  refine KT.step rfl rfl (K.move rfl) ?_
  refine KT.step rfl rfl (K.build1' rfl rfl Try.underlying137 one82) ?_
  refine KT.step rfl rfl (K.callZ (ds := [d, .sl [.fn (.func 51) [] []] 1 (some 1)]) [0] 6 rfl plainTry_50 rfl (operated50 (A := tgA z) hd hl hr (fns_of [.fn (.func 51) [] []] _) (by decide) rfl fun hv i h hall => by
    have e : i = 0 := by simp at h; omega
    subst e
    exact tight_ok hv)) ?_
  refine KT.step rfl rfl (K.extract rfl rfl) ?_
  refine KT.step rfl rfl (K.extract rfl rfl) ?_
  refine KT.step rfl rfl (K.assign rfl) ?_
  refine KT.step rfl rfl (K.assign rfl) ?_
  refine KT.nil ?_
  refine thenK_n ?_
  refine KC.ret ?_
  exact ⟨.inl rfl, _, rfl, rfl⟩
end Go.Proofs.Ytjfpeiioddfjcaa

