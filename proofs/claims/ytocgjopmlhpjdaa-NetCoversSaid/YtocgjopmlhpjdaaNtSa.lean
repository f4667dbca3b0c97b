import Derived.Test.YtocgjopmlhpjdaaProg
import Derived.Test.YtocgjopmlhpjdaaVmKi
import Derived.Lib.Small
import Derived.Lib.Walk
import Derived.Shelf.RegionOpenPlain
import Derived.WalkKit
import Derived.Deep.LoopGhost
import Derived.Deep.Draws
/-
  Package net: slices.Compare of two markings only reads: its contract, in the library's own manner.
-/
namespace Go.Proofs.Ytocgjopmlhpjdaa
open Go.Shelf Go.RowKit Go.Lib Go.Proofs Go.Nt

theorem mixedS : Try.prog.follows .mixedOrders = true := by kernel_rfl

theorem isNaN113 (x : Int) (w : World) : Calls Try.prog 113 #[.int .i64 x] w fun e w' => e = .returned (.bool false) ∧ w' = w := by
  have mixed := mixedS
  go_enter Try.func113, Try.ntmps113
  go_wp2
  go_ret
  exact ⟨by simp, rfl⟩

set_option maxHeartbeats 1000000 in
theorem compare97 (x y : Int) (w : World) : Calls Try.prog 97 #[.int .i64 x, .int .i64 y] w fun e w' => e = .returned (.int .i64 (Lib.compareInt x y)) ∧ w' = w := by
  have mixed := mixedS
  go_enter Try.func97, Try.ntmps97
  go_wp2_with (go_at_call 113; refine (isNaN113 _ _).mono ?_; rintro e w' ⟨rfl, hw⟩; rw [hw])
  all_goals (go_ret; refine ⟨?_, rfl⟩; unfold Lib.compareInt; (repeat' split) <;> first | rfl | (exfalso; omega))

theorem cmpL_step {xs ys : List Int} {k : Nat} (h1 : k < xs.length) (h2 : k < ys.length) : cmpL (xs.drop k) (ys.drop k) = if Lib.compareInt xs[k]! ys[k]! = 0 then cmpL (xs.drop (k + 1)) (ys.drop (k + 1)) else Lib.compareInt xs[k]! ys[k]! := by
  rw [List.drop_eq_getElem_cons h1, List.drop_eq_getElem_cons h2, getElem!_pos xs k h1, getElem!_pos ys k h2]; rfl

set_option maxHeartbeats 2000000 in
set_option maxRecDepth 100000 in
theorem compare76 (a1 a2 : Addr) (c1 c2 : Nat) (xs ys : List Int) (w : World) (hx : xs.length ≤ 9223372036854775807) (hy : ys.length ≤ 9223372036854775807) (s1 : 0 < xs.length → a1.spot = none) (s2 : 0 < ys.length → a2.spot = none)
    (hc1 : ∀ j, j < xs.length → w.cell? ⟨a1.block, a1.off + j, none⟩ = some (.int .i64 xs[j]!)) (hc2 : ∀ j, j < ys.length → w.cell? ⟨a2.block, a2.off + j, none⟩ = some (.int .i64 ys[j]!)) :
    Calls Try.prog 76 #[.slice (some a1) xs.length c1, .slice (some a2) ys.length c2] w fun e w' => e = .returned (.int .i64 (cmpL xs ys)) ∧ ∃ q, w' = w.drewN q := by
  have mixed := mixedS
  obtain ⟨n, hn⟩ : ∃ n, n = xs.length := ⟨_, rfl⟩
  obtain ⟨m, hm⟩ : ∃ m, m = ys.length := ⟨_, rfl⟩
  rw [← hn, ← hm]
  rw [← hn] at hx hc1 s1
  rw [← hm] at hy hc2 s2
  have HN : Aside (n = xs.length ∧ m = ys.length) := ⟨hn, hm⟩
  clear hn hm
  go_enter Try.func76, Try.ntmps76
  go_wp2
  go_loopg [11] n (fun g s11 wr => ∃ k q : Nat, k ≤ n ∧ k ≤ m ∧ n - k ≤ g ∧ s11 = .int .i64 k ∧ wr = w.drewN q ∧ Aside (cmpL (xs.drop k) (ys.drop k) = cmpL xs ys))
  case atStart => exact ⟨0, 0, Nat.zero_le _, Nat.zero_le _, by omega, rfl, rfl, rfl⟩
  case round =>
    obtain ⟨k, q, hk, hkm, hg, rfl, rfl, A⟩ := hrel
    by_cases hlt : k < n
    · by_cases hlm : k < m
      · have g1 : w.cell? ⟨a1.block, a1.off + k, none⟩ = some (.int .i64 xs[k]!) := hc1 k hlt
        have g2 : w.cell? ⟨a2.block, a2.off + k, none⟩ = some (.int .i64 ys[k]!) := hc2 k hlm
        have E : Aside _ := cmpL_step (xs := xs) (ys := ys) (k := k) (by have := HN.out; omega) (by have := HN.out; omega)
        have q1 := s1 (by omega)
        have q2 := s2 (by omega)
        clear hc1 hc2 s1 s2
        obtain ⟨b1, o1, p1⟩ := a1
        obtain ⟨b2, o2, p2⟩ := a2
        simp only at q1 q2 g1 g2
        subst q1 q2
        generalize xs[k]! = x at g1 E
        generalize ys[k]! = y at g2 E
        by_cases hz : Lib.compareInt x y = 0
        · go_wp2_with (go_at_call 97; refine (compare97 _ _ _).mono ?_; rintro e w' ⟨rfl, hw⟩; rw [hw])
          go_roundg (n - (k + 1))
          case measure => omega
          case rel =>
            refine ⟨k + 1, _, by omega, by omega, by omega, by go_num, rfl, ?_⟩
            show _ = _
            rw [← A.out, E.out, if_pos hz]
        · go_wp2_with (go_at_call 97; refine (compare97 _ _ _).mono ?_; rintro e w' ⟨rfl, hw⟩; rw [hw])
          go_ret
          refine ⟨?_, _, rfl⟩
          rw [← A.out, E.out, if_neg hz]; rfl
      · have : k = m := by omega
        subst this
        have g1 : w.cell? ⟨a1.block, a1.off + k, none⟩ = some (.int .i64 xs[k]!) := hc1 k hlt
        have q1 := s1 (by omega)
        have cy : Aside (cmpL xs ys = 1) := by
          have e := A.out
          have h1 := HN.out
          rw [List.drop_eq_nil_of_le (show ys.length ≤ k by omega), List.drop_eq_getElem_cons (show k < xs.length by omega)] at e
          exact e.symm
        clear hc1 hc2 s1 s2
        obtain ⟨b1, o1, p1⟩ := a1
        simp only at q1 g1
        subst q1
        generalize xs[k]! = x at g1
        go_wp2
        go_ret
        refine ⟨?_, _, rfl⟩
        rw [cy.out]; rfl
    · have : k = n := by omega
      subst this
      have cy : Aside (cmpL xs ys = if k < m then -1 else 0) := by
        have e := A.out
        have h1 := HN.out
        rw [List.drop_eq_nil_of_le (show xs.length ≤ k by omega)] at e
        by_cases h : k < m
        · rw [List.drop_eq_getElem_cons (show k < ys.length by omega)] at e
          rw [if_pos h]; exact e.symm
        · rw [List.drop_eq_nil_of_le (show ys.length ≤ k by omega)] at e
          rw [if_neg h]; exact e.symm
      clear hc1 hc2
      by_cases h : k < m
      · go_wp2
        go_ret
        refine ⟨?_, _, rfl⟩
        rw [cy.out, if_pos h]; rfl
      · go_wp2
        go_ret
        refine ⟨?_, _, rfl⟩
        rw [cy.out, if_neg h]; rfl
end Go.Proofs.Ytocgjopmlhpjdaa

