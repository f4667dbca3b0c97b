import Derived.Test.YtcjcchceeidgkaaLgCd
/-
  Logic: what the reference makes of clauses.
-/
namespace Go.Proofs.Ytcjcchceeidgkaa
open Go.Vm Go.Lg
theorem plainTry_24 : plainFn Try.prog 24 = true := by kernel_rfl

end Go.Proofs.Ytcjcchceeidgkaa
namespace Go.Vm
theorem KAll.nil {p : Nat → Prop} : KAll p [] := trivial
theorem KAll.cons {p : Nat → Prop} {i : Nat} {l : List Nat} (h : p i) (hl : KAll p l) : KAll p (i :: l) := ⟨h, hl⟩
theorem KC.ordersN {P : Program} {M : Nat → Prop} {W0 : World} {n : Nat} {ops : Array Oper} {σ : List VObj} {kn : Kn} (hm : P.follows .mixedOrders = true) {rid m : Nat} (hs : ops.size = m) {T T' : Exit → List VObj → Kn → Prop} (h : KA P M W0 n ops (T' .normal) m (Array.replicate m false) σ kn) (ht : ∀ e τ k, T' e τ k → T e τ k) : KC P M W0 n (.region rid ops true) σ kn T := by
  subst hs
  exact (KC.orders hm h).mono ht
end Go.Vm
namespace Go.Proofs.Ytcjcchceeidgkaa
open Go.Vm Go.Lg
theorem cl_split {c : Cl} {i : Nat} (h : folP c i) : (kd c = 0 ∨ (kd c = 2 ∧ c.op = and')) ∨ (kd c = 1 ∨ (kd c = 2 ∧ c.op = or')) := by
  rcases h with h | h | h
  · exact .inl (.inl h.1)
  · exact .inr (.inl h.1)
  · rcases kind2 h.1 with e | e
    · exact .inl (.inr ⟨h.1, e⟩)
    · exact .inr (.inr ⟨h.1, e⟩)
set_option maxHeartbeats 1000000 in
set_option maxRecDepth 10000 in
theorem rlast24 {dn dl : DV} {nx lb : List Nat} (hS : Str dn dl nx lb) (ht : Tot nx) {d : DV} {l : List Cl} (hd : ClsD d l) (hok : okC l = true) : DeepCall Try.prog 24 [.agg [dn, dl], d] (.tup [DI ((depC l l.length).getD (l.length - 1) 0), DI ((satC nx lb l l.length).getD (l.length - 1) 0 : Nat)]) := by
  have al := allN_lt nx.length
  have al' := pow16 hS.n16 al
  obtain ⟨n1, n5, hfol⟩ := okC_all hok
  refine deepCall_K 5 Try.func24 rfl (Nat.le_of_ble_eq_true rfl) fun M W0 => ?_
  refine KC.seq ?_
  refine KC.region ?_
  refine KT.step rfl rfl (K.box rfl) ?_
  refine KT.step rfl rfl (K.assign rfl) ?_
  refine KT.step rfl rfl (K.assign rfl) ?_
  refine KT.nil ?_
  refine thenK_n ?_
  refine KC.seq ?_
  refine KC.weaken (kn' := [(1, .d d), (2, .optr 0 0)]) ?_ (by simp [Go.Vm.look, extK, enterK])
  refine KC.ordersN Try.mixed (m := 8) rfl (T' := fun e τ k => e = .normal ∧ ∃ P Q, Two [(⟨[.d dn, .d dl], 0⟩ : VObj)] τ l.length P Q ∧ ∀ e ∈ ([(1, .d d), (2, .optr 0 0), (6, .osl P 0 l.length 1 l.length true), (7, .osl Q 0 l.length 1 l.length true)] : Kn), Go.Vm.look k e.1 = some e.2) ?_ ?_
  · skip
    refine KA.next (i0 := 0) (r := [3]) (by kernel_rfl) ?_
    refine KAll.cons ?_ (KAll.cons ?_ KAll.nil)
    · refine KO.op rfl rfl rfl (K.move rfl) ?_
      refine KA.next (i0 := 1) (r := [3]) (by kernel_rfl) ?_
      refine KAll.cons ?_ (KAll.cons ?_ KAll.nil)
      · refine KO.op rfl rfl rfl (K.lenCls rfl hd Try.underlying49) ?_
        refine KA.next (i0 := 2) (r := [3]) (by kernel_rfl) ?_
        refine KAll.cons ?_ (KAll.cons ?_ KAll.nil)
        · refine KO.op rfl rfl rfl (K.make rfl rfl (Nat.le_refl _) (by omega) Try.underlying22 Try.one3) ?_
          refine KA.next (i0 := 3) (r := [6]) (by kernel_rfl) ?_
          refine KAll.cons ?_ (KAll.cons ?_ KAll.nil)
          · refine KO.op rfl rfl rfl (K.move rfl) ?_
            refine KA.next (i0 := 4) (r := [6]) (by kernel_rfl) ?_
            refine KAll.cons ?_ (KAll.cons ?_ KAll.nil)
            · refine KO.op rfl rfl rfl (K.lenCls rfl hd Try.underlying49) ?_
              refine KA.next (i0 := 5) (r := [6]) (by kernel_rfl) ?_
              refine KAll.cons ?_ (KAll.cons ?_ KAll.nil)
              · refine KO.op rfl rfl rfl (K.make rfl rfl (Nat.le_refl _) (by omega) Try.underlying22 Try.one3) ?_
                refine KA.next (i0 := 6) (r := []) (by kernel_rfl) ?_
                refine KAll.cons ?_ KAll.nil
                · refine KO.op rfl rfl rfl (K.assign rfl) ?_
                  refine KA.next (i0 := 7) (r := []) (by kernel_rfl) ?_
                  refine KAll.cons ?_ KAll.nil
                  · refine KO.op rfl rfl rfl (K.assign rfl) ?_
                    exact KA.done (by kernel_rfl) ⟨rfl, [(⟨[.d dn, .d dl], 0⟩ : VObj)].length, ([(⟨[.d dn, .d dl], 0⟩ : VObj)] ++ [zObj l.length]).length, two_new [(⟨[.d dn, .d dl], 0⟩ : VObj)] l.length, (by simp [Go.Vm.look, extK, enterK])⟩
              · refine KO.op rfl rfl rfl (K.assign rfl) ?_
                refine KA.next (i0 := 5) (r := []) (by kernel_rfl) ?_
                refine KAll.cons ?_ KAll.nil
                · refine KO.op rfl rfl rfl (K.make rfl rfl (Nat.le_refl _) (by omega) Try.underlying22 Try.one3) ?_
                  refine KA.next (i0 := 7) (r := []) (by kernel_rfl) ?_
                  refine KAll.cons ?_ KAll.nil
                  · refine KO.op rfl rfl rfl (K.assign rfl) ?_
                    exact KA.done (by kernel_rfl) ⟨rfl, [(⟨[.d dn, .d dl], 0⟩ : VObj)].length, ([(⟨[.d dn, .d dl], 0⟩ : VObj)] ++ [zObj l.length]).length, two_new [(⟨[.d dn, .d dl], 0⟩ : VObj)] l.length, (by simp [Go.Vm.look, extK, enterK])⟩
            · refine KO.op rfl rfl rfl (K.assign rfl) ?_
              refine KA.next (i0 := 4) (r := []) (by kernel_rfl) ?_
              refine KAll.cons ?_ KAll.nil
              · refine KO.op rfl rfl rfl (K.lenCls rfl hd Try.underlying49) ?_
                refine KA.next (i0 := 5) (r := []) (by kernel_rfl) ?_
                refine KAll.cons ?_ KAll.nil
                · refine KO.op rfl rfl rfl (K.make rfl rfl (Nat.le_refl _) (by omega) Try.underlying22 Try.one3) ?_
                  refine KA.next (i0 := 7) (r := []) (by kernel_rfl) ?_
                  refine KAll.cons ?_ KAll.nil
                  · refine KO.op rfl rfl rfl (K.assign rfl) ?_
                    exact KA.done (by kernel_rfl) ⟨rfl, [(⟨[.d dn, .d dl], 0⟩ : VObj)].length, ([(⟨[.d dn, .d dl], 0⟩ : VObj)] ++ [zObj l.length]).length, two_new [(⟨[.d dn, .d dl], 0⟩ : VObj)] l.length, (by simp [Go.Vm.look, extK, enterK])⟩
          · refine KO.op rfl rfl rfl (K.assign rfl) ?_
            refine KA.next (i0 := 3) (r := []) (by kernel_rfl) ?_
            refine KAll.cons ?_ KAll.nil
            · refine KO.op rfl rfl rfl (K.move rfl) ?_
              refine KA.next (i0 := 4) (r := []) (by kernel_rfl) ?_
              refine KAll.cons ?_ KAll.nil
              · refine KO.op rfl rfl rfl (K.lenCls rfl hd Try.underlying49) ?_
                refine KA.next (i0 := 5) (r := []) (by kernel_rfl) ?_
                refine KAll.cons ?_ KAll.nil
                · refine KO.op rfl rfl rfl (K.make rfl rfl (Nat.le_refl _) (by omega) Try.underlying22 Try.one3) ?_
                  refine KA.next (i0 := 7) (r := []) (by kernel_rfl) ?_
                  refine KAll.cons ?_ KAll.nil
                  · refine KO.op rfl rfl rfl (K.assign rfl) ?_
                    exact KA.done (by kernel_rfl) ⟨rfl, [(⟨[.d dn, .d dl], 0⟩ : VObj)].length, ([(⟨[.d dn, .d dl], 0⟩ : VObj)] ++ [zObj l.length]).length, two_new [(⟨[.d dn, .d dl], 0⟩ : VObj)] l.length, (by simp [Go.Vm.look, extK, enterK])⟩
        · refine KO.op rfl rfl rfl (K.move rfl) ?_
          refine KA.next (i0 := 2) (r := [4]) (by kernel_rfl) ?_
          refine KAll.cons ?_ (KAll.cons ?_ KAll.nil)
          · refine KO.op rfl rfl rfl (K.make rfl rfl (Nat.le_refl _) (by omega) Try.underlying22 Try.one3) ?_
            refine KA.next (i0 := 4) (r := [6]) (by kernel_rfl) ?_
            refine KAll.cons ?_ (KAll.cons ?_ KAll.nil)
            · refine KO.op rfl rfl rfl (K.lenCls rfl hd Try.underlying49) ?_
              refine KA.next (i0 := 5) (r := [6]) (by kernel_rfl) ?_
              refine KAll.cons ?_ (KAll.cons ?_ KAll.nil)
              · refine KO.op rfl rfl rfl (K.make rfl rfl (Nat.le_refl _) (by omega) Try.underlying22 Try.one3) ?_
                refine KA.next (i0 := 6) (r := []) (by kernel_rfl) ?_
                refine KAll.cons ?_ KAll.nil
                · refine KO.op rfl rfl rfl (K.assign rfl) ?_
                  refine KA.next (i0 := 7) (r := []) (by kernel_rfl) ?_
                  refine KAll.cons ?_ KAll.nil
                  · refine KO.op rfl rfl rfl (K.assign rfl) ?_
                    exact KA.done (by kernel_rfl) ⟨rfl, [(⟨[.d dn, .d dl], 0⟩ : VObj)].length, ([(⟨[.d dn, .d dl], 0⟩ : VObj)] ++ [zObj l.length]).length, two_new [(⟨[.d dn, .d dl], 0⟩ : VObj)] l.length, (by simp [Go.Vm.look, extK, enterK])⟩
              · refine KO.op rfl rfl rfl (K.assign rfl) ?_
                refine KA.next (i0 := 5) (r := []) (by kernel_rfl) ?_
                refine KAll.cons ?_ KAll.nil
                · refine KO.op rfl rfl rfl (K.make rfl rfl (Nat.le_refl _) (by omega) Try.underlying22 Try.one3) ?_
                  refine KA.next (i0 := 7) (r := []) (by kernel_rfl) ?_
                  refine KAll.cons ?_ KAll.nil
                  · refine KO.op rfl rfl rfl (K.assign rfl) ?_
                    exact KA.done (by kernel_rfl) ⟨rfl, [(⟨[.d dn, .d dl], 0⟩ : VObj)].length, ([(⟨[.d dn, .d dl], 0⟩ : VObj)] ++ [zObj l.length]).length, two_new [(⟨[.d dn, .d dl], 0⟩ : VObj)] l.length, (by simp [Go.Vm.look, extK, enterK])⟩
            · refine KO.op rfl rfl rfl (K.assign rfl) ?_
              refine KA.next (i0 := 4) (r := []) (by kernel_rfl) ?_
              refine KAll.cons ?_ KAll.nil
              · refine KO.op rfl rfl rfl (K.lenCls rfl hd Try.underlying49) ?_
                refine KA.next (i0 := 5) (r := []) (by kernel_rfl) ?_
                refine KAll.cons ?_ KAll.nil
                · refine KO.op rfl rfl rfl (K.make rfl rfl (Nat.le_refl _) (by omega) Try.underlying22 Try.one3) ?_
                  refine KA.next (i0 := 7) (r := []) (by kernel_rfl) ?_
                  refine KAll.cons ?_ KAll.nil
                  · refine KO.op rfl rfl rfl (K.assign rfl) ?_
                    exact KA.done (by kernel_rfl) ⟨rfl, [(⟨[.d dn, .d dl], 0⟩ : VObj)].length, ([(⟨[.d dn, .d dl], 0⟩ : VObj)] ++ [zObj l.length]).length, two_new [(⟨[.d dn, .d dl], 0⟩ : VObj)] l.length, (by simp [Go.Vm.look, extK, enterK])⟩
          · refine KO.op rfl rfl rfl (K.lenCls rfl hd Try.underlying49) ?_
            refine KA.next (i0 := 2) (r := [5]) (by kernel_rfl) ?_
            refine KAll.cons ?_ (KAll.cons ?_ KAll.nil)
            · refine KO.op rfl rfl rfl (K.make rfl rfl (Nat.le_refl _) (by omega) Try.underlying22 Try.one3) ?_
              refine KA.next (i0 := 5) (r := [6]) (by kernel_rfl) ?_
              refine KAll.cons ?_ (KAll.cons ?_ KAll.nil)
              · refine KO.op rfl rfl rfl (K.make rfl rfl (Nat.le_refl _) (by omega) Try.underlying22 Try.one3) ?_
                refine KA.next (i0 := 6) (r := []) (by kernel_rfl) ?_
                refine KAll.cons ?_ KAll.nil
                · refine KO.op rfl rfl rfl (K.assign rfl) ?_
                  refine KA.next (i0 := 7) (r := []) (by kernel_rfl) ?_
                  refine KAll.cons ?_ KAll.nil
                  · refine KO.op rfl rfl rfl (K.assign rfl) ?_
                    exact KA.done (by kernel_rfl) ⟨rfl, [(⟨[.d dn, .d dl], 0⟩ : VObj)].length, ([(⟨[.d dn, .d dl], 0⟩ : VObj)] ++ [zObj l.length]).length, two_new [(⟨[.d dn, .d dl], 0⟩ : VObj)] l.length, (by simp [Go.Vm.look, extK, enterK])⟩
              · refine KO.op rfl rfl rfl (K.assign rfl) ?_
                refine KA.next (i0 := 5) (r := []) (by kernel_rfl) ?_
                refine KAll.cons ?_ KAll.nil
                · refine KO.op rfl rfl rfl (K.make rfl rfl (Nat.le_refl _) (by omega) Try.underlying22 Try.one3) ?_
                  refine KA.next (i0 := 7) (r := []) (by kernel_rfl) ?_
                  refine KAll.cons ?_ KAll.nil
                  · refine KO.op rfl rfl rfl (K.assign rfl) ?_
                    exact KA.done (by kernel_rfl) ⟨rfl, [(⟨[.d dn, .d dl], 0⟩ : VObj)].length, ([(⟨[.d dn, .d dl], 0⟩ : VObj)] ++ [zObj l.length]).length, two_new [(⟨[.d dn, .d dl], 0⟩ : VObj)] l.length, (by simp [Go.Vm.look, extK, enterK])⟩
            · refine KO.op rfl rfl rfl (K.make rfl rfl (Nat.le_refl _) (by omega) Try.underlying22 Try.one3) ?_
              refine KA.next (i0 := 2) (r := []) (by kernel_rfl) ?_
              refine KAll.cons ?_ KAll.nil
              · refine KO.op rfl rfl rfl (K.make rfl rfl (Nat.le_refl _) (by omega) Try.underlying22 Try.one3) ?_
                refine KA.next (i0 := 6) (r := []) (by kernel_rfl) ?_
                refine KAll.cons ?_ KAll.nil
                · refine KO.op rfl rfl rfl (K.assign rfl) ?_
                  refine KA.next (i0 := 7) (r := []) (by kernel_rfl) ?_
                  refine KAll.cons ?_ KAll.nil
                  · refine KO.op rfl rfl rfl (K.assign rfl) ?_
                    exact KA.done (by kernel_rfl) ⟨rfl, ([(⟨[.d dn, .d dl], 0⟩ : VObj)] ++ [zObj l.length]).length, [(⟨[.d dn, .d dl], 0⟩ : VObj)].length, two_new2 [(⟨[.d dn, .d dl], 0⟩ : VObj)] l.length, (by simp [Go.Vm.look, extK, enterK])⟩
      · refine KO.op rfl rfl rfl (K.move rfl) ?_
        refine KA.next (i0 := 1) (r := [4]) (by kernel_rfl) ?_
        refine KAll.cons ?_ (KAll.cons ?_ KAll.nil)
        · refine KO.op rfl rfl rfl (K.lenCls rfl hd Try.underlying49) ?_
          refine KA.next (i0 := 2) (r := [4]) (by kernel_rfl) ?_
          refine KAll.cons ?_ (KAll.cons ?_ KAll.nil)
          · refine KO.op rfl rfl rfl (K.make rfl rfl (Nat.le_refl _) (by omega) Try.underlying22 Try.one3) ?_
            refine KA.next (i0 := 4) (r := [6]) (by kernel_rfl) ?_
            refine KAll.cons ?_ (KAll.cons ?_ KAll.nil)
            · refine KO.op rfl rfl rfl (K.lenCls rfl hd Try.underlying49) ?_
              refine KA.next (i0 := 5) (r := [6]) (by kernel_rfl) ?_
              refine KAll.cons ?_ (KAll.cons ?_ KAll.nil)
              · refine KO.op rfl rfl rfl (K.make rfl rfl (Nat.le_refl _) (by omega) Try.underlying22 Try.one3) ?_
                refine KA.next (i0 := 6) (r := []) (by kernel_rfl) ?_
                refine KAll.cons ?_ KAll.nil
                · refine KO.op rfl rfl rfl (K.assign rfl) ?_
                  refine KA.next (i0 := 7) (r := []) (by kernel_rfl) ?_
                  refine KAll.cons ?_ KAll.nil
                  · refine KO.op rfl rfl rfl (K.assign rfl) ?_
                    exact KA.done (by kernel_rfl) ⟨rfl, [(⟨[.d dn, .d dl], 0⟩ : VObj)].length, ([(⟨[.d dn, .d dl], 0⟩ : VObj)] ++ [zObj l.length]).length, two_new [(⟨[.d dn, .d dl], 0⟩ : VObj)] l.length, (by simp [Go.Vm.look, extK, enterK])⟩
              · refine KO.op rfl rfl rfl (K.assign rfl) ?_
                refine KA.next (i0 := 5) (r := []) (by kernel_rfl) ?_
                refine KAll.cons ?_ KAll.nil
                · refine KO.op rfl rfl rfl (K.make rfl rfl (Nat.le_refl _) (by omega) Try.underlying22 Try.one3) ?_
                  refine KA.next (i0 := 7) (r := []) (by kernel_rfl) ?_
                  refine KAll.cons ?_ KAll.nil
                  · refine KO.op rfl rfl rfl (K.assign rfl) ?_
                    exact KA.done (by kernel_rfl) ⟨rfl, [(⟨[.d dn, .d dl], 0⟩ : VObj)].length, ([(⟨[.d dn, .d dl], 0⟩ : VObj)] ++ [zObj l.length]).length, two_new [(⟨[.d dn, .d dl], 0⟩ : VObj)] l.length, (by simp [Go.Vm.look, extK, enterK])⟩
            · refine KO.op rfl rfl rfl (K.assign rfl) ?_
              refine KA.next (i0 := 4) (r := []) (by kernel_rfl) ?_
              refine KAll.cons ?_ KAll.nil
              · refine KO.op rfl rfl rfl (K.lenCls rfl hd Try.underlying49) ?_
                refine KA.next (i0 := 5) (r := []) (by kernel_rfl) ?_
                refine KAll.cons ?_ KAll.nil
                · refine KO.op rfl rfl rfl (K.make rfl rfl (Nat.le_refl _) (by omega) Try.underlying22 Try.one3) ?_
                  refine KA.next (i0 := 7) (r := []) (by kernel_rfl) ?_
                  refine KAll.cons ?_ KAll.nil
                  · refine KO.op rfl rfl rfl (K.assign rfl) ?_
                    exact KA.done (by kernel_rfl) ⟨rfl, [(⟨[.d dn, .d dl], 0⟩ : VObj)].length, ([(⟨[.d dn, .d dl], 0⟩ : VObj)] ++ [zObj l.length]).length, two_new [(⟨[.d dn, .d dl], 0⟩ : VObj)] l.length, (by simp [Go.Vm.look, extK, enterK])⟩
          · refine KO.op rfl rfl rfl (K.lenCls rfl hd Try.underlying49) ?_
            refine KA.next (i0 := 2) (r := [5]) (by kernel_rfl) ?_
            refine KAll.cons ?_ (KAll.cons ?_ KAll.nil)
            · refine KO.op rfl rfl rfl (K.make rfl rfl (Nat.le_refl _) (by omega) Try.underlying22 Try.one3) ?_
              refine KA.next (i0 := 5) (r := [6]) (by kernel_rfl) ?_
              refine KAll.cons ?_ (KAll.cons ?_ KAll.nil)
              · refine KO.op rfl rfl rfl (K.make rfl rfl (Nat.le_refl _) (by omega) Try.underlying22 Try.one3) ?_
                refine KA.next (i0 := 6) (r := []) (by kernel_rfl) ?_
                refine KAll.cons ?_ KAll.nil
                · refine KO.op rfl rfl rfl (K.assign rfl) ?_
                  refine KA.next (i0 := 7) (r := []) (by kernel_rfl) ?_
                  refine KAll.cons ?_ KAll.nil
                  · refine KO.op rfl rfl rfl (K.assign rfl) ?_
                    exact KA.done (by kernel_rfl) ⟨rfl, [(⟨[.d dn, .d dl], 0⟩ : VObj)].length, ([(⟨[.d dn, .d dl], 0⟩ : VObj)] ++ [zObj l.length]).length, two_new [(⟨[.d dn, .d dl], 0⟩ : VObj)] l.length, (by simp [Go.Vm.look, extK, enterK])⟩
              · refine KO.op rfl rfl rfl (K.assign rfl) ?_
                refine KA.next (i0 := 5) (r := []) (by kernel_rfl) ?_
                refine KAll.cons ?_ KAll.nil
                · refine KO.op rfl rfl rfl (K.make rfl rfl (Nat.le_refl _) (by omega) Try.underlying22 Try.one3) ?_
                  refine KA.next (i0 := 7) (r := []) (by kernel_rfl) ?_
                  refine KAll.cons ?_ KAll.nil
                  · refine KO.op rfl rfl rfl (K.assign rfl) ?_
                    exact KA.done (by kernel_rfl) ⟨rfl, [(⟨[.d dn, .d dl], 0⟩ : VObj)].length, ([(⟨[.d dn, .d dl], 0⟩ : VObj)] ++ [zObj l.length]).length, two_new [(⟨[.d dn, .d dl], 0⟩ : VObj)] l.length, (by simp [Go.Vm.look, extK, enterK])⟩
            · refine KO.op rfl rfl rfl (K.make rfl rfl (Nat.le_refl _) (by omega) Try.underlying22 Try.one3) ?_
              refine KA.next (i0 := 2) (r := []) (by kernel_rfl) ?_
              refine KAll.cons ?_ KAll.nil
              · refine KO.op rfl rfl rfl (K.make rfl rfl (Nat.le_refl _) (by omega) Try.underlying22 Try.one3) ?_
                refine KA.next (i0 := 6) (r := []) (by kernel_rfl) ?_
                refine KAll.cons ?_ KAll.nil
                · refine KO.op rfl rfl rfl (K.assign rfl) ?_
                  refine KA.next (i0 := 7) (r := []) (by kernel_rfl) ?_
                  refine KAll.cons ?_ KAll.nil
                  · refine KO.op rfl rfl rfl (K.assign rfl) ?_
                    exact KA.done (by kernel_rfl) ⟨rfl, ([(⟨[.d dn, .d dl], 0⟩ : VObj)] ++ [zObj l.length]).length, [(⟨[.d dn, .d dl], 0⟩ : VObj)].length, two_new2 [(⟨[.d dn, .d dl], 0⟩ : VObj)] l.length, (by simp [Go.Vm.look, extK, enterK])⟩
        · refine KO.op rfl rfl rfl (K.lenCls rfl hd Try.underlying49) ?_
          refine KA.next (i0 := 1) (r := [5]) (by kernel_rfl) ?_
          refine KAll.cons ?_ (KAll.cons ?_ KAll.nil)
          · refine KO.op rfl rfl rfl (K.lenCls rfl hd Try.underlying49) ?_
            refine KA.next (i0 := 2) (r := [5]) (by kernel_rfl) ?_
            refine KAll.cons ?_ (KAll.cons ?_ KAll.nil)
            · refine KO.op rfl rfl rfl (K.make rfl rfl (Nat.le_refl _) (by omega) Try.underlying22 Try.one3) ?_
              refine KA.next (i0 := 5) (r := [6]) (by kernel_rfl) ?_
              refine KAll.cons ?_ (KAll.cons ?_ KAll.nil)
              · refine KO.op rfl rfl rfl (K.make rfl rfl (Nat.le_refl _) (by omega) Try.underlying22 Try.one3) ?_
                refine KA.next (i0 := 6) (r := []) (by kernel_rfl) ?_
                refine KAll.cons ?_ KAll.nil
                · refine KO.op rfl rfl rfl (K.assign rfl) ?_
                  refine KA.next (i0 := 7) (r := []) (by kernel_rfl) ?_
                  refine KAll.cons ?_ KAll.nil
                  · refine KO.op rfl rfl rfl (K.assign rfl) ?_
                    exact KA.done (by kernel_rfl) ⟨rfl, [(⟨[.d dn, .d dl], 0⟩ : VObj)].length, ([(⟨[.d dn, .d dl], 0⟩ : VObj)] ++ [zObj l.length]).length, two_new [(⟨[.d dn, .d dl], 0⟩ : VObj)] l.length, (by simp [Go.Vm.look, extK, enterK])⟩
              · refine KO.op rfl rfl rfl (K.assign rfl) ?_
                refine KA.next (i0 := 5) (r := []) (by kernel_rfl) ?_
                refine KAll.cons ?_ KAll.nil
                · refine KO.op rfl rfl rfl (K.make rfl rfl (Nat.le_refl _) (by omega) Try.underlying22 Try.one3) ?_
                  refine KA.next (i0 := 7) (r := []) (by kernel_rfl) ?_
                  refine KAll.cons ?_ KAll.nil
                  · refine KO.op rfl rfl rfl (K.assign rfl) ?_
                    exact KA.done (by kernel_rfl) ⟨rfl, [(⟨[.d dn, .d dl], 0⟩ : VObj)].length, ([(⟨[.d dn, .d dl], 0⟩ : VObj)] ++ [zObj l.length]).length, two_new [(⟨[.d dn, .d dl], 0⟩ : VObj)] l.length, (by simp [Go.Vm.look, extK, enterK])⟩
            · refine KO.op rfl rfl rfl (K.make rfl rfl (Nat.le_refl _) (by omega) Try.underlying22 Try.one3) ?_
              refine KA.next (i0 := 2) (r := []) (by kernel_rfl) ?_
              refine KAll.cons ?_ KAll.nil
              · refine KO.op rfl rfl rfl (K.make rfl rfl (Nat.le_refl _) (by omega) Try.underlying22 Try.one3) ?_
                refine KA.next (i0 := 6) (r := []) (by kernel_rfl) ?_
                refine KAll.cons ?_ KAll.nil
                · refine KO.op rfl rfl rfl (K.assign rfl) ?_
                  refine KA.next (i0 := 7) (r := []) (by kernel_rfl) ?_
                  refine KAll.cons ?_ KAll.nil
                  · refine KO.op rfl rfl rfl (K.assign rfl) ?_
                    exact KA.done (by kernel_rfl) ⟨rfl, ([(⟨[.d dn, .d dl], 0⟩ : VObj)] ++ [zObj l.length]).length, [(⟨[.d dn, .d dl], 0⟩ : VObj)].length, two_new2 [(⟨[.d dn, .d dl], 0⟩ : VObj)] l.length, (by simp [Go.Vm.look, extK, enterK])⟩
          · refine KO.op rfl rfl rfl (K.make rfl rfl (Nat.le_refl _) (by omega) Try.underlying22 Try.one3) ?_
            refine KA.next (i0 := 1) (r := []) (by kernel_rfl) ?_
            refine KAll.cons ?_ KAll.nil
            · refine KO.op rfl rfl rfl (K.lenCls rfl hd Try.underlying49) ?_
              refine KA.next (i0 := 2) (r := []) (by kernel_rfl) ?_
              refine KAll.cons ?_ KAll.nil
              · refine KO.op rfl rfl rfl (K.make rfl rfl (Nat.le_refl _) (by omega) Try.underlying22 Try.one3) ?_
                refine KA.next (i0 := 6) (r := []) (by kernel_rfl) ?_
                refine KAll.cons ?_ KAll.nil
                · refine KO.op rfl rfl rfl (K.assign rfl) ?_
                  refine KA.next (i0 := 7) (r := []) (by kernel_rfl) ?_
                  refine KAll.cons ?_ KAll.nil
                  · refine KO.op rfl rfl rfl (K.assign rfl) ?_
                    exact KA.done (by kernel_rfl) ⟨rfl, ([(⟨[.d dn, .d dl], 0⟩ : VObj)] ++ [zObj l.length]).length, [(⟨[.d dn, .d dl], 0⟩ : VObj)].length, two_new2 [(⟨[.d dn, .d dl], 0⟩ : VObj)] l.length, (by simp [Go.Vm.look, extK, enterK])⟩
    · refine KO.op rfl rfl rfl (K.move rfl) ?_
      refine KA.next (i0 := 0) (r := [4]) (by kernel_rfl) ?_
      refine KAll.cons ?_ (KAll.cons ?_ KAll.nil)
      · refine KO.op rfl rfl rfl (K.move rfl) ?_
        refine KA.next (i0 := 1) (r := [4]) (by kernel_rfl) ?_
        refine KAll.cons ?_ (KAll.cons ?_ KAll.nil)
        · refine KO.op rfl rfl rfl (K.lenCls rfl hd Try.underlying49) ?_
          refine KA.next (i0 := 2) (r := [4]) (by kernel_rfl) ?_
          refine KAll.cons ?_ (KAll.cons ?_ KAll.nil)
          · refine KO.op rfl rfl rfl (K.make rfl rfl (Nat.le_refl _) (by omega) Try.underlying22 Try.one3) ?_
            refine KA.next (i0 := 4) (r := [6]) (by kernel_rfl) ?_
            refine KAll.cons ?_ (KAll.cons ?_ KAll.nil)
            · refine KO.op rfl rfl rfl (K.lenCls rfl hd Try.underlying49) ?_
              refine KA.next (i0 := 5) (r := [6]) (by kernel_rfl) ?_
              refine KAll.cons ?_ (KAll.cons ?_ KAll.nil)
              · refine KO.op rfl rfl rfl (K.make rfl rfl (Nat.le_refl _) (by omega) Try.underlying22 Try.one3) ?_
                refine KA.next (i0 := 6) (r := []) (by kernel_rfl) ?_
                refine KAll.cons ?_ KAll.nil
                · refine KO.op rfl rfl rfl (K.assign rfl) ?_
                  refine KA.next (i0 := 7) (r := []) (by kernel_rfl) ?_
                  refine KAll.cons ?_ KAll.nil
                  · refine KO.op rfl rfl rfl (K.assign rfl) ?_
                    exact KA.done (by kernel_rfl) ⟨rfl, [(⟨[.d dn, .d dl], 0⟩ : VObj)].length, ([(⟨[.d dn, .d dl], 0⟩ : VObj)] ++ [zObj l.length]).length, two_new [(⟨[.d dn, .d dl], 0⟩ : VObj)] l.length, (by simp [Go.Vm.look, extK, enterK])⟩
              · refine KO.op rfl rfl rfl (K.assign rfl) ?_
                refine KA.next (i0 := 5) (r := []) (by kernel_rfl) ?_
                refine KAll.cons ?_ KAll.nil
                · refine KO.op rfl rfl rfl (K.make rfl rfl (Nat.le_refl _) (by omega) Try.underlying22 Try.one3) ?_
                  refine KA.next (i0 := 7) (r := []) (by kernel_rfl) ?_
                  refine KAll.cons ?_ KAll.nil
                  · refine KO.op rfl rfl rfl (K.assign rfl) ?_
                    exact KA.done (by kernel_rfl) ⟨rfl, [(⟨[.d dn, .d dl], 0⟩ : VObj)].length, ([(⟨[.d dn, .d dl], 0⟩ : VObj)] ++ [zObj l.length]).length, two_new [(⟨[.d dn, .d dl], 0⟩ : VObj)] l.length, (by simp [Go.Vm.look, extK, enterK])⟩
            · refine KO.op rfl rfl rfl (K.assign rfl) ?_
              refine KA.next (i0 := 4) (r := []) (by kernel_rfl) ?_
              refine KAll.cons ?_ KAll.nil
              · refine KO.op rfl rfl rfl (K.lenCls rfl hd Try.underlying49) ?_
                refine KA.next (i0 := 5) (r := []) (by kernel_rfl) ?_
                refine KAll.cons ?_ KAll.nil
                · refine KO.op rfl rfl rfl (K.make rfl rfl (Nat.le_refl _) (by omega) Try.underlying22 Try.one3) ?_
                  refine KA.next (i0 := 7) (r := []) (by kernel_rfl) ?_
                  refine KAll.cons ?_ KAll.nil
                  · refine KO.op rfl rfl rfl (K.assign rfl) ?_
                    exact KA.done (by kernel_rfl) ⟨rfl, [(⟨[.d dn, .d dl], 0⟩ : VObj)].length, ([(⟨[.d dn, .d dl], 0⟩ : VObj)] ++ [zObj l.length]).length, two_new [(⟨[.d dn, .d dl], 0⟩ : VObj)] l.length, (by simp [Go.Vm.look, extK, enterK])⟩
          · refine KO.op rfl rfl rfl (K.lenCls rfl hd Try.underlying49) ?_
            refine KA.next (i0 := 2) (r := [5]) (by kernel_rfl) ?_
            refine KAll.cons ?_ (KAll.cons ?_ KAll.nil)
            · refine KO.op rfl rfl rfl (K.make rfl rfl (Nat.le_refl _) (by omega) Try.underlying22 Try.one3) ?_
              refine KA.next (i0 := 5) (r := [6]) (by kernel_rfl) ?_
              refine KAll.cons ?_ (KAll.cons ?_ KAll.nil)
              · refine KO.op rfl rfl rfl (K.make rfl rfl (Nat.le_refl _) (by omega) Try.underlying22 Try.one3) ?_
                refine KA.next (i0 := 6) (r := []) (by kernel_rfl) ?_
                refine KAll.cons ?_ KAll.nil
                · refine KO.op rfl rfl rfl (K.assign rfl) ?_
                  refine KA.next (i0 := 7) (r := []) (by kernel_rfl) ?_
                  refine KAll.cons ?_ KAll.nil
                  · refine KO.op rfl rfl rfl (K.assign rfl) ?_
                    exact KA.done (by kernel_rfl) ⟨rfl, [(⟨[.d dn, .d dl], 0⟩ : VObj)].length, ([(⟨[.d dn, .d dl], 0⟩ : VObj)] ++ [zObj l.length]).length, two_new [(⟨[.d dn, .d dl], 0⟩ : VObj)] l.length, (by simp [Go.Vm.look, extK, enterK])⟩
              · refine KO.op rfl rfl rfl (K.assign rfl) ?_
                refine KA.next (i0 := 5) (r := []) (by kernel_rfl) ?_
                refine KAll.cons ?_ KAll.nil
                · refine KO.op rfl rfl rfl (K.make rfl rfl (Nat.le_refl _) (by omega) Try.underlying22 Try.one3) ?_
                  refine KA.next (i0 := 7) (r := []) (by kernel_rfl) ?_
                  refine KAll.cons ?_ KAll.nil
                  · refine KO.op rfl rfl rfl (K.assign rfl) ?_
                    exact KA.done (by kernel_rfl) ⟨rfl, [(⟨[.d dn, .d dl], 0⟩ : VObj)].length, ([(⟨[.d dn, .d dl], 0⟩ : VObj)] ++ [zObj l.length]).length, two_new [(⟨[.d dn, .d dl], 0⟩ : VObj)] l.length, (by simp [Go.Vm.look, extK, enterK])⟩
            · refine KO.op rfl rfl rfl (K.make rfl rfl (Nat.le_refl _) (by omega) Try.underlying22 Try.one3) ?_
              refine KA.next (i0 := 2) (r := []) (by kernel_rfl) ?_
              refine KAll.cons ?_ KAll.nil
              · refine KO.op rfl rfl rfl (K.make rfl rfl (Nat.le_refl _) (by omega) Try.underlying22 Try.one3) ?_
                refine KA.next (i0 := 6) (r := []) (by kernel_rfl) ?_
                refine KAll.cons ?_ KAll.nil
                · refine KO.op rfl rfl rfl (K.assign rfl) ?_
                  refine KA.next (i0 := 7) (r := []) (by kernel_rfl) ?_
                  refine KAll.cons ?_ KAll.nil
                  · refine KO.op rfl rfl rfl (K.assign rfl) ?_
                    exact KA.done (by kernel_rfl) ⟨rfl, ([(⟨[.d dn, .d dl], 0⟩ : VObj)] ++ [zObj l.length]).length, [(⟨[.d dn, .d dl], 0⟩ : VObj)].length, two_new2 [(⟨[.d dn, .d dl], 0⟩ : VObj)] l.length, (by simp [Go.Vm.look, extK, enterK])⟩
        · refine KO.op rfl rfl rfl (K.lenCls rfl hd Try.underlying49) ?_
          refine KA.next (i0 := 1) (r := [5]) (by kernel_rfl) ?_
          refine KAll.cons ?_ (KAll.cons ?_ KAll.nil)
          · refine KO.op rfl rfl rfl (K.lenCls rfl hd Try.underlying49) ?_
            refine KA.next (i0 := 2) (r := [5]) (by kernel_rfl) ?_
            refine KAll.cons ?_ (KAll.cons ?_ KAll.nil)
            · refine KO.op rfl rfl rfl (K.make rfl rfl (Nat.le_refl _) (by omega) Try.underlying22 Try.one3) ?_
              refine KA.next (i0 := 5) (r := [6]) (by kernel_rfl) ?_
              refine KAll.cons ?_ (KAll.cons ?_ KAll.nil)
              · refine KO.op rfl rfl rfl (K.make rfl rfl (Nat.le_refl _) (by omega) Try.underlying22 Try.one3) ?_
                refine KA.next (i0 := 6) (r := []) (by kernel_rfl) ?_
                refine KAll.cons ?_ KAll.nil
                · refine KO.op rfl rfl rfl (K.assign rfl) ?_
                  refine KA.next (i0 := 7) (r := []) (by kernel_rfl) ?_
                  refine KAll.cons ?_ KAll.nil
                  · refine KO.op rfl rfl rfl (K.assign rfl) ?_
                    exact KA.done (by kernel_rfl) ⟨rfl, [(⟨[.d dn, .d dl], 0⟩ : VObj)].length, ([(⟨[.d dn, .d dl], 0⟩ : VObj)] ++ [zObj l.length]).length, two_new [(⟨[.d dn, .d dl], 0⟩ : VObj)] l.length, (by simp [Go.Vm.look, extK, enterK])⟩
              · refine KO.op rfl rfl rfl (K.assign rfl) ?_
                refine KA.next (i0 := 5) (r := []) (by kernel_rfl) ?_
                refine KAll.cons ?_ KAll.nil
                · refine KO.op rfl rfl rfl (K.make rfl rfl (Nat.le_refl _) (by omega) Try.underlying22 Try.one3) ?_
                  refine KA.next (i0 := 7) (r := []) (by kernel_rfl) ?_
                  refine KAll.cons ?_ KAll.nil
                  · refine KO.op rfl rfl rfl (K.assign rfl) ?_
                    exact KA.done (by kernel_rfl) ⟨rfl, [(⟨[.d dn, .d dl], 0⟩ : VObj)].length, ([(⟨[.d dn, .d dl], 0⟩ : VObj)] ++ [zObj l.length]).length, two_new [(⟨[.d dn, .d dl], 0⟩ : VObj)] l.length, (by simp [Go.Vm.look, extK, enterK])⟩
            · refine KO.op rfl rfl rfl (K.make rfl rfl (Nat.le_refl _) (by omega) Try.underlying22 Try.one3) ?_
              refine KA.next (i0 := 2) (r := []) (by kernel_rfl) ?_
              refine KAll.cons ?_ KAll.nil
              · refine KO.op rfl rfl rfl (K.make rfl rfl (Nat.le_refl _) (by omega) Try.underlying22 Try.one3) ?_
                refine KA.next (i0 := 6) (r := []) (by kernel_rfl) ?_
                refine KAll.cons ?_ KAll.nil
                · refine KO.op rfl rfl rfl (K.assign rfl) ?_
                  refine KA.next (i0 := 7) (r := []) (by kernel_rfl) ?_
                  refine KAll.cons ?_ KAll.nil
                  · refine KO.op rfl rfl rfl (K.assign rfl) ?_
                    exact KA.done (by kernel_rfl) ⟨rfl, ([(⟨[.d dn, .d dl], 0⟩ : VObj)] ++ [zObj l.length]).length, [(⟨[.d dn, .d dl], 0⟩ : VObj)].length, two_new2 [(⟨[.d dn, .d dl], 0⟩ : VObj)] l.length, (by simp [Go.Vm.look, extK, enterK])⟩
          · refine KO.op rfl rfl rfl (K.make rfl rfl (Nat.le_refl _) (by omega) Try.underlying22 Try.one3) ?_
            refine KA.next (i0 := 1) (r := []) (by kernel_rfl) ?_
            refine KAll.cons ?_ KAll.nil
            · refine KO.op rfl rfl rfl (K.lenCls rfl hd Try.underlying49) ?_
              refine KA.next (i0 := 2) (r := []) (by kernel_rfl) ?_
              refine KAll.cons ?_ KAll.nil
              · refine KO.op rfl rfl rfl (K.make rfl rfl (Nat.le_refl _) (by omega) Try.underlying22 Try.one3) ?_
                refine KA.next (i0 := 6) (r := []) (by kernel_rfl) ?_
                refine KAll.cons ?_ KAll.nil
                · refine KO.op rfl rfl rfl (K.assign rfl) ?_
                  refine KA.next (i0 := 7) (r := []) (by kernel_rfl) ?_
                  refine KAll.cons ?_ KAll.nil
                  · refine KO.op rfl rfl rfl (K.assign rfl) ?_
                    exact KA.done (by kernel_rfl) ⟨rfl, ([(⟨[.d dn, .d dl], 0⟩ : VObj)] ++ [zObj l.length]).length, [(⟨[.d dn, .d dl], 0⟩ : VObj)].length, two_new2 [(⟨[.d dn, .d dl], 0⟩ : VObj)] l.length, (by simp [Go.Vm.look, extK, enterK])⟩
      · refine KO.op rfl rfl rfl (K.lenCls rfl hd Try.underlying49) ?_
        refine KA.next (i0 := 0) (r := [5]) (by kernel_rfl) ?_
        refine KAll.cons ?_ (KAll.cons ?_ KAll.nil)
        · refine KO.op rfl rfl rfl (K.move rfl) ?_
          refine KA.next (i0 := 1) (r := [5]) (by kernel_rfl) ?_
          refine KAll.cons ?_ (KAll.cons ?_ KAll.nil)
          · refine KO.op rfl rfl rfl (K.lenCls rfl hd Try.underlying49) ?_
            refine KA.next (i0 := 2) (r := [5]) (by kernel_rfl) ?_
            refine KAll.cons ?_ (KAll.cons ?_ KAll.nil)
            · refine KO.op rfl rfl rfl (K.make rfl rfl (Nat.le_refl _) (by omega) Try.underlying22 Try.one3) ?_
              refine KA.next (i0 := 5) (r := [6]) (by kernel_rfl) ?_
              refine KAll.cons ?_ (KAll.cons ?_ KAll.nil)
              · refine KO.op rfl rfl rfl (K.make rfl rfl (Nat.le_refl _) (by omega) Try.underlying22 Try.one3) ?_
                refine KA.next (i0 := 6) (r := []) (by kernel_rfl) ?_
                refine KAll.cons ?_ KAll.nil
                · refine KO.op rfl rfl rfl (K.assign rfl) ?_
                  refine KA.next (i0 := 7) (r := []) (by kernel_rfl) ?_
                  refine KAll.cons ?_ KAll.nil
                  · refine KO.op rfl rfl rfl (K.assign rfl) ?_
                    exact KA.done (by kernel_rfl) ⟨rfl, [(⟨[.d dn, .d dl], 0⟩ : VObj)].length, ([(⟨[.d dn, .d dl], 0⟩ : VObj)] ++ [zObj l.length]).length, two_new [(⟨[.d dn, .d dl], 0⟩ : VObj)] l.length, (by simp [Go.Vm.look, extK, enterK])⟩
              · refine KO.op rfl rfl rfl (K.assign rfl) ?_
                refine KA.next (i0 := 5) (r := []) (by kernel_rfl) ?_
                refine KAll.cons ?_ KAll.nil
                · refine KO.op rfl rfl rfl (K.make rfl rfl (Nat.le_refl _) (by omega) Try.underlying22 Try.one3) ?_
                  refine KA.next (i0 := 7) (r := []) (by kernel_rfl) ?_
                  refine KAll.cons ?_ KAll.nil
                  · refine KO.op rfl rfl rfl (K.assign rfl) ?_
                    exact KA.done (by kernel_rfl) ⟨rfl, [(⟨[.d dn, .d dl], 0⟩ : VObj)].length, ([(⟨[.d dn, .d dl], 0⟩ : VObj)] ++ [zObj l.length]).length, two_new [(⟨[.d dn, .d dl], 0⟩ : VObj)] l.length, (by simp [Go.Vm.look, extK, enterK])⟩
            · refine KO.op rfl rfl rfl (K.make rfl rfl (Nat.le_refl _) (by omega) Try.underlying22 Try.one3) ?_
              refine KA.next (i0 := 2) (r := []) (by kernel_rfl) ?_
              refine KAll.cons ?_ KAll.nil
              · refine KO.op rfl rfl rfl (K.make rfl rfl (Nat.le_refl _) (by omega) Try.underlying22 Try.one3) ?_
                refine KA.next (i0 := 6) (r := []) (by kernel_rfl) ?_
                refine KAll.cons ?_ KAll.nil
                · refine KO.op rfl rfl rfl (K.assign rfl) ?_
                  refine KA.next (i0 := 7) (r := []) (by kernel_rfl) ?_
                  refine KAll.cons ?_ KAll.nil
                  · refine KO.op rfl rfl rfl (K.assign rfl) ?_
                    exact KA.done (by kernel_rfl) ⟨rfl, ([(⟨[.d dn, .d dl], 0⟩ : VObj)] ++ [zObj l.length]).length, [(⟨[.d dn, .d dl], 0⟩ : VObj)].length, two_new2 [(⟨[.d dn, .d dl], 0⟩ : VObj)] l.length, (by simp [Go.Vm.look, extK, enterK])⟩
          · refine KO.op rfl rfl rfl (K.make rfl rfl (Nat.le_refl _) (by omega) Try.underlying22 Try.one3) ?_
            refine KA.next (i0 := 1) (r := []) (by kernel_rfl) ?_
            refine KAll.cons ?_ KAll.nil
            · refine KO.op rfl rfl rfl (K.lenCls rfl hd Try.underlying49) ?_
              refine KA.next (i0 := 2) (r := []) (by kernel_rfl) ?_
              refine KAll.cons ?_ KAll.nil
              · refine KO.op rfl rfl rfl (K.make rfl rfl (Nat.le_refl _) (by omega) Try.underlying22 Try.one3) ?_
                refine KA.next (i0 := 6) (r := []) (by kernel_rfl) ?_
                refine KAll.cons ?_ KAll.nil
                · refine KO.op rfl rfl rfl (K.assign rfl) ?_
                  refine KA.next (i0 := 7) (r := []) (by kernel_rfl) ?_
                  refine KAll.cons ?_ KAll.nil
                  · refine KO.op rfl rfl rfl (K.assign rfl) ?_
                    exact KA.done (by kernel_rfl) ⟨rfl, ([(⟨[.d dn, .d dl], 0⟩ : VObj)] ++ [zObj l.length]).length, [(⟨[.d dn, .d dl], 0⟩ : VObj)].length, two_new2 [(⟨[.d dn, .d dl], 0⟩ : VObj)] l.length, (by simp [Go.Vm.look, extK, enterK])⟩
        · refine KO.op rfl rfl rfl (K.make rfl rfl (Nat.le_refl _) (by omega) Try.underlying22 Try.one3) ?_
          refine KA.next (i0 := 0) (r := []) (by kernel_rfl) ?_
          refine KAll.cons ?_ KAll.nil
          · refine KO.op rfl rfl rfl (K.move rfl) ?_
            refine KA.next (i0 := 1) (r := []) (by kernel_rfl) ?_
            refine KAll.cons ?_ KAll.nil
            · refine KO.op rfl rfl rfl (K.lenCls rfl hd Try.underlying49) ?_
              refine KA.next (i0 := 2) (r := []) (by kernel_rfl) ?_
              refine KAll.cons ?_ KAll.nil
              · refine KO.op rfl rfl rfl (K.make rfl rfl (Nat.le_refl _) (by omega) Try.underlying22 Try.one3) ?_
                refine KA.next (i0 := 6) (r := []) (by kernel_rfl) ?_
                refine KAll.cons ?_ KAll.nil
                · refine KO.op rfl rfl rfl (K.assign rfl) ?_
                  refine KA.next (i0 := 7) (r := []) (by kernel_rfl) ?_
                  refine KAll.cons ?_ KAll.nil
                  · refine KO.op rfl rfl rfl (K.assign rfl) ?_
                    exact KA.done (by kernel_rfl) ⟨rfl, ([(⟨[.d dn, .d dl], 0⟩ : VObj)] ++ [zObj l.length]).length, [(⟨[.d dn, .d dl], 0⟩ : VObj)].length, two_new2 [(⟨[.d dn, .d dl], 0⟩ : VObj)] l.length, (by simp [Go.Vm.look, extK, enterK])⟩
  rintro e τ k ⟨rfl, P, Q, ⟨hP, hQ, hPQ, yP, yQ, v0⟩, hlk⟩
  have y0 : τ[0]? = some ⟨[.d dn, .d dl], 0⟩ := (v0 0 (Nat.zero_lt_succ _)).trans rfl
  replace hP : 1 ≤ P := hP
  replace hQ : 1 ≤ Q := hQ
  clear v0
  refine thenK_n ?_
  refine KC.seq ?_
  refine KC.seq ?_
  refine KC.weaken ?_ hlk
  refine KC.region ?_
  refine KT.step rfl rfl (K.move rfl) ?_
  refine KT.step rfl rfl (K.lenCls rfl hd Try.underlying49) ?_
  refine KT.step rfl rfl (K.move rfl) ?_
  refine KT.nil ?_
  refine thenK_n ?_
  refine KC.block ?_
  refine KC.loop (fun p : List VObj × Nat => p.1) (fun p => [(1, .d d), (2, .optr 0 0), (6, .osl P 0 l.length 1 l.length true), (7, .osl Q 0 l.length 1 l.length true), (18, .d d), (19, .d (DI (l.length : Nat))), (20, .d (DI (p.2 : Nat)))]) (fun p => p.2 ≤ l.length ∧ p.1[0]? = some ⟨[.d dn, .d dl], 0⟩ ∧ p.1[P]? = some ⟨dX l l.length p.2, 0⟩ ∧ p.1[Q]? = some ⟨sX nx lb l l.length p.2, 0⟩) (fun p => l.length - p.2) (τ, 0) ⟨Nat.zero_le _, y0, yP, yQ⟩ rfl (by simp [Go.Vm.look, extK, enterK]) ?_
  clear y0 yP yQ
  intro p hp
  obtain ⟨hi, y0, yP, yQ⟩ := hp
  refine KC.seq ?_
  refine KC.region ?_
  refine KT.step rfl rfl (K.lss rfl rfl) ?_
  refine KT.nil ?_
  refine thenK_n ?_
  refine KC.seq ?_
  refine KC.cond rfl (fun hc21 => ?_) (fun hc21 => ?_)
  · skip
    replace hc21 := of_decide_eq_true hc21
    have hfo := hfol p.2 (by omega)
    have hin := fol_in hfo (show p.2 < l.length by omega)
    refine KC.skip ?_
    refine thenK_n ?_
    refine KC.seq ?_
    refine KC.block ?_
    refine KC.seq ?_
    refine KC.region ?_
    refine KT.step rfl rfl (K.move rfl) ?_
    refine KT.idxCls (m := p.2) rfl rfl rfl hd rfl (by omega) Try.underlying49 Try.size90 fun rest => ?_
    refine KT.step rfl rfl (K.loadAgg (cs := .lit (.string (cg l p.2).op) :: DI (cg l p.2).x :: DI (cg l p.2).y :: rest) (m := 3) rfl Try.agg90 Try.size90 (by simp)) ?_
    refine KT.step rfl rfl (K.alloc Try.zero90) ?_
    refine KT.step rfl rfl (K.assign rfl) ?_
    refine KT.storeL (cs := [.d (.lit (.string (cg l p.2).op)), .d (DI (cg l p.2).x), .d (DI (cg l p.2).y)]) rfl rfl rfl rfl rfl rfl rfl Try.size90 ?_
    refine KT.nil ?_
    refine thenK_n ?_
    refine KC.seq ?_
    refine KC.region ?_
    by_cases hA : kd (cg l p.2) ≤ 1
    · skip
      refine KT.step rfl rfl (K.fieldAddrO rfl Try.fld90_0 Try.size9) ?_
      rcases cl_split hfo with hB | hB
      · skip
        refine KT.step rfl rfl (K.loadO rfl (List.getElem?_concat_length ..) (by simp) rfl Try.agg9) ?_
        refine KT.step rfl rfl (K.call1 rfl plainTry_48 (kids48 _)) ?_
        refine KT.step rfl rfl (K.assign rfl) ?_
        refine KT.nil ?_
        refine thenK_n ?_
        refine KC.seq ?_
        have hk : kd (cg l p.2) = 0 := by rcases hB with h | h <;> omega
        have har : arI (cg l p.2).op = 0 := ar_kind0 hk
        obtain ⟨hx0, hy0⟩ : (cg l p.2).x = 0 ∧ (cg l p.2).y = 0 := by unfold folP at hfo; omega
        refine KC.region ?_
        refine KT.step rfl rfl (K.fieldAddrO rfl Try.fld90_0 Try.size9) ?_
        refine KT.step rfl rfl (K.loadO rfl (List.getElem?_concat_length ..) (by simp) rfl Try.agg9) ?_
        refine KT.step rfl rfl (K.build1X rfl rfl Try.zero27 Try.underlying27 Try.places27) ?_
        refine KT.step rfl rfl (K.alloc Try.zero27) ?_
        refine KT.storeL (cs := [.d (.lit (.string (cg l p.2).op)), .d Dnil]) rfl rfl rfl rfl rfl rfl rfl Try.size27 ?_
        refine KT.nil ?_
        refine thenK_n ?_
        refine KC.seq ?_
        refine KC.seq ?_
        have z0 := get_left (B := [(⟨[.d (.lit (.string (cg l p.2).op)), .d Dnil], 0⟩ : VObj)]) (get_left (B := [(⟨[.d (.lit (.string (cg l p.2).op)), .d (DI (cg l p.2).x), .d (DI (cg l p.2).y)], 0⟩ : VObj)]) y0)
        have zP := get_left (B := [(⟨[.d (.lit (.string (cg l p.2).op)), .d Dnil], 0⟩ : VObj)]) (get_left (B := [(⟨[.d (.lit (.string (cg l p.2).op)), .d (DI (cg l p.2).x), .d (DI (cg l p.2).y)], 0⟩ : VObj)]) yP)
        have zQ := get_left (B := [(⟨[.d (.lit (.string (cg l p.2).op)), .d Dnil], 0⟩ : VObj)]) (get_left (B := [(⟨[.d (.lit (.string (cg l p.2).op)), .d (DI (cg l p.2).x), .d (DI (cg l p.2).y)], 0⟩ : VObj)]) yQ)
        have zc : ((p.1 ++ [(⟨[.d (.lit (.string (cg l p.2).op)), .d (DI (cg l p.2).x), .d (DI (cg l p.2).y)], 0⟩ : VObj)]) ++ [(⟨[.d (.lit (.string (cg l p.2).op)), .d Dnil], 0⟩ : VObj)])[p.1.length]? = some (⟨[.d (.lit (.string (cg l p.2).op)), .d (DI (cg l p.2).x), .d (DI (cg l p.2).y)], 0⟩ : VObj) := get_left (List.getElem?_concat_length ..)
        have zf : ((p.1 ++ [(⟨[.d (.lit (.string (cg l p.2).op)), .d (DI (cg l p.2).x), .d (DI (cg l p.2).y)], 0⟩ : VObj)]) ++ [(⟨[.d (.lit (.string (cg l p.2).op)), .d Dnil], 0⟩ : VObj)])[(p.1 ++ [(⟨[.d (.lit (.string (cg l p.2).op)), .d (DI (cg l p.2).x), .d (DI (cg l p.2).y)], 0⟩ : VObj)]).length]? = some (⟨[.d (.lit (.string (cg l p.2).op)), .d Dnil], 0⟩ : VObj) := List.getElem?_concat_length ..
        have hPl := len_of yP
        have hQl := len_of yQ
        have hF : (p.1 ++ [(⟨[.d (.lit (.string (cg l p.2).op)), .d (DI (cg l p.2).x), .d (DI (cg l p.2).y)], 0⟩ : VObj)]).length = p.1.length + 1 := by simp
        refine KC.region ?_
        refine KT.step rfl rfl (K.move rfl) ?_
        refine KT.step rfl rfl (K.gtr rfl rfl) ?_
        refine KT.nil ?_
        refine thenK_n ?_
        refine KC.cond rfl (fun hc32 => ?_) (fun hc32 => ?_)
        · skip
          exact absurd (of_decide_eq_true hc32) (by omega)
        · skip
          replace hc32 := of_decide_eq_false hc32
          refine KC.skip ?_
          refine thenK_n ?_
          refine KC.seq ?_
          refine KC.seq ?_
          refine KC.region ?_
          refine KT.step rfl rfl (K.move rfl) ?_
          refine KT.step rfl rfl (K.gtr rfl rfl) ?_
          refine KT.nil ?_
          refine thenK_n ?_
          refine KC.cond rfl (fun hc51 => ?_) (fun hc51 => ?_)
          · skip
            exact absurd (of_decide_eq_true hc51) (by omega)
          · skip
            replace hc51 := of_decide_eq_false hc51
            refine KC.skip ?_
            refine thenK_n ?_
            refine KC.seq ?_
            refine KC.region ?_
            refine KT.step rfl rfl (K.fieldAddrO rfl Try.fld90_0 Try.size9) ?_
            refine KT.step rfl rfl (K.loadO rfl zc (by simp) rfl Try.agg9) ?_
            refine KT.nil ?_
            refine thenK_n ?_
            refine KC.block ?_
            refine KC.seq ?_
            refine KC.region ?_
            refine KT.step rfl rfl (K.eqlS rfl rfl) ?_
            refine KT.step rfl rfl (K.assign rfl) ?_
            refine KT.nil ?_
            refine thenK_n ?_
            refine KC.cond rfl (fun hc73 => ?_) (fun hc73 => ?_)
            · skip
              exact absurd hk (by unfold kd; rw [of_decide_eq_true hc73]; decide)
            · skip
              replace hc73 := of_decide_eq_false hc73
              refine KC.seq ?_
              refine KC.region ?_
              refine KT.step rfl rfl (K.eqlS rfl rfl) ?_
              refine KT.step rfl rfl (K.assign rfl) ?_
              refine KT.nil ?_
              refine thenK_n ?_
              refine KC.cond rfl (fun hc89 => ?_) (fun hc89 => ?_)
              · skip
                exact absurd hk (by unfold kd; rw [of_decide_eq_true hc89]; decide)
              · skip
                replace hc89 := of_decide_eq_false hc89
                refine KC.seq ?_
                refine KC.region ?_
                refine KT.step rfl rfl (K.eqlS rfl rfl) ?_
                refine KT.step rfl rfl (K.assign rfl) ?_
                refine KT.nil ?_
                refine thenK_n ?_
                refine KC.cond rfl (fun hc105 => ?_) (fun hc105 => ?_)
                · skip
                  exact absurd hk (by unfold kd; rw [of_decide_eq_true hc105]; decide)
                · skip
                  replace hc105 := of_decide_eq_false hc105
                  refine KC.seq ?_
                  refine KC.region ?_
                  refine KT.step rfl rfl (K.eqlS rfl rfl) ?_
                  refine KT.step rfl rfl (K.assign rfl) ?_
                  refine KT.nil ?_
                  refine thenK_n ?_
                  refine KC.cond rfl (fun hc121 => ?_) (fun hc121 => ?_)
                  · skip
                    exact absurd hk (by unfold kd; rw [of_decide_eq_true hc121]; decide)
                  · skip
                    replace hc121 := of_decide_eq_false hc121
                    have hwf : wfF (.mk (cg l p.2).op []) = true := by unfold wfF; rw [har]; rfl
                    refine KC.region ?_
                    refine KT.step rfl rfl (K.move rfl) ?_
                    refine KT.step rfl rfl (K.move rfl) ?_
                    refine KT.step rfl rfl (K.loadOA [dn, dl] rfl z0 (by decide) Try.agg24 Try.size24 rfl) ?_
                    refine KT.step rfl rfl (K.loadOA [.lit (.string (cg l p.2).op), Dnil] rfl zf (by decide) Try.agg27 Try.size27 rfl) ?_
                    refine KT.step rfl rfl (K.call2 rfl rfl plainTry_15 (rsat15 hS ht (cg l p.2).op [] Dnil hwf .nil)) ?_
                    refine KT.step rfl rfl (K.idxO (m := p.2) rfl rfl (by omega) Try.underlying22 Try.size3) ?_
                    refine KT.storeG rfl rfl rfl rfl zQ (by rw [nX_len]; omega) rfl rfl Try.size3 fun σ4 l4 u4 v4 => ?_
                    replace z0 := (v4 0 (by omega)).trans z0
                    replace zP := (v4 P (by omega)).trans zP
                    replace zc := (v4 p.1.length (by omega)).trans zc
                    replace zf := (v4 _ (by omega)).trans zf
                    replace zQ := u4.trans (congrArg (fun c => some (VObj.mk c 0)) (sX_put (by unfold satF; exact (opN_zero (show kindC (opc (cg l p.2).op) = 0 from hk) _ _).symm)))
                    refine KT.nil ?_
                    refine blockK_n ?_
                    refine blockK_n ?_
                    refine thenK_n ?_
                    refine KC.region ?_
                    refine KT.step rfl rfl (K.add rfl rfl (wrap_id (by omega))) ?_
                    refine KT.step rfl rfl (K.move rfl) ?_
                    refine KT.nil ?_
                    refine thenK_n ?_
                    refine ⟨(_, p.2 + 1), ⟨by simp only; omega, z0, zP.trans (congrArg (fun c => some (VObj.mk c 0)) (dX_same hk hx0 hy0 (hfol 0 (by omega)))), zQ⟩, by simp only; omega, rfl, by simp [Go.Vm.look, extK]⟩
      · skip
        refine KT.step rfl rfl (K.loadO rfl (List.getElem?_concat_length ..) (by simp) rfl Try.agg9) ?_
        refine KT.step rfl rfl (K.call1 rfl plainTry_48 (kids48 _)) ?_
        refine KT.step rfl rfl (K.assign rfl) ?_
        refine KT.nil ?_
        refine thenK_n ?_
        refine KC.seq ?_
        have hk : kd (cg l p.2) = 1 := by rcases hB with h | h <;> omega
        have har : arI (cg l p.2).op = 1 := ar_kind1 hk
        have hor := kind1 hk
        have hy0 : (cg l p.2).y = 0 := by unfold folP at hfo; omega
        refine KC.region ?_
        refine KT.step rfl rfl (K.fieldAddrO rfl Try.fld90_0 Try.size9) ?_
        refine KT.step rfl rfl (K.loadO rfl (List.getElem?_concat_length ..) (by simp) rfl Try.agg9) ?_
        refine KT.step rfl rfl (K.build1X rfl rfl Try.zero27 Try.underlying27 Try.places27) ?_
        refine KT.step rfl rfl (K.alloc Try.zero27) ?_
        refine KT.storeL (cs := [.d (.lit (.string (cg l p.2).op)), .d Dnil]) rfl rfl rfl rfl rfl rfl rfl Try.size27 ?_
        refine KT.nil ?_
        refine thenK_n ?_
        refine KC.seq ?_
        refine KC.seq ?_
        have z0 := get_left (B := [(⟨[.d (.lit (.string (cg l p.2).op)), .d Dnil], 0⟩ : VObj)]) (get_left (B := [(⟨[.d (.lit (.string (cg l p.2).op)), .d (DI (cg l p.2).x), .d (DI (cg l p.2).y)], 0⟩ : VObj)]) y0)
        have zP := get_left (B := [(⟨[.d (.lit (.string (cg l p.2).op)), .d Dnil], 0⟩ : VObj)]) (get_left (B := [(⟨[.d (.lit (.string (cg l p.2).op)), .d (DI (cg l p.2).x), .d (DI (cg l p.2).y)], 0⟩ : VObj)]) yP)
        have zQ := get_left (B := [(⟨[.d (.lit (.string (cg l p.2).op)), .d Dnil], 0⟩ : VObj)]) (get_left (B := [(⟨[.d (.lit (.string (cg l p.2).op)), .d (DI (cg l p.2).x), .d (DI (cg l p.2).y)], 0⟩ : VObj)]) yQ)
        have zc : ((p.1 ++ [(⟨[.d (.lit (.string (cg l p.2).op)), .d (DI (cg l p.2).x), .d (DI (cg l p.2).y)], 0⟩ : VObj)]) ++ [(⟨[.d (.lit (.string (cg l p.2).op)), .d Dnil], 0⟩ : VObj)])[p.1.length]? = some (⟨[.d (.lit (.string (cg l p.2).op)), .d (DI (cg l p.2).x), .d (DI (cg l p.2).y)], 0⟩ : VObj) := get_left (List.getElem?_concat_length ..)
        have zf : ((p.1 ++ [(⟨[.d (.lit (.string (cg l p.2).op)), .d (DI (cg l p.2).x), .d (DI (cg l p.2).y)], 0⟩ : VObj)]) ++ [(⟨[.d (.lit (.string (cg l p.2).op)), .d Dnil], 0⟩ : VObj)])[(p.1 ++ [(⟨[.d (.lit (.string (cg l p.2).op)), .d (DI (cg l p.2).x), .d (DI (cg l p.2).y)], 0⟩ : VObj)]).length]? = some (⟨[.d (.lit (.string (cg l p.2).op)), .d Dnil], 0⟩ : VObj) := List.getElem?_concat_length ..
        have hPl := len_of yP
        have hQl := len_of yQ
        have hF : (p.1 ++ [(⟨[.d (.lit (.string (cg l p.2).op)), .d (DI (cg l p.2).x), .d (DI (cg l p.2).y)], 0⟩ : VObj)]).length = p.1.length + 1 := by simp
        refine KC.region ?_
        refine KT.step rfl rfl (K.move rfl) ?_
        refine KT.step rfl rfl (K.gtr rfl rfl) ?_
        refine KT.nil ?_
        refine thenK_n ?_
        refine KC.cond rfl (fun hc32 => ?_) (fun hc32 => ?_)
        · skip
          replace hc32 := of_decide_eq_true hc32
          refine KC.seq ?_
          refine KC.region ?_
          refine KT.step rfl rfl (K.move rfl) ?_
          refine KT.step rfl rfl (K.move rfl) ?_
          refine KT.step rfl rfl (K.move rfl) ?_
          refine KT.step rfl rfl (K.fieldAddrO rfl Try.fld90_1 Try.size3) ?_
          refine KT.step rfl rfl (K.loadO rfl zc (by simp) rfl Try.agg3) ?_
          refine KT.step rfl rfl (K.idxO (m := (cg l p.2).x.toNat) rfl (congrArg (fun z => some (XV.d (DI z))) (Int.toNat_of_nonneg hin.1.1).symm) hin.1.2 Try.underlying22 Try.size3) ?_
          refine KT.step rfl rfl (K.loadO rfl zP (by simp) (nX_get _ hin.1.2) Try.agg3) ?_
          refine KT.step rfl rfl (K.idxO (m := p.2) rfl rfl (by omega) Try.underlying22 Try.size3) ?_
          refine KT.storeG rfl rfl rfl rfl zP (by rw [nX_len]; omega) rfl rfl Try.size3 fun σ1 l1 u1 v1 => ?_
          replace z0 := (v1 0 (by omega)).trans z0
          replace zQ := (v1 Q (by omega)).trans zQ
          replace zc := (v1 p.1.length (by omega)).trans zc
          replace zf := (v1 _ (by omega)).trans zf
          replace zP := u1.trans (congrArg (fun c => some (VObj.mk c 0)) (nX_set (f' := fun k => if k = p.2 then (depC l p.2).getD (cg l p.2).x.toNat 0 else (depC l p.2).getD k 0) fun k _ => rfl))
          refine KT.nil ?_
          refine thenK_n ?_
          refine KC.seq ?_
          refine KC.region ?_
          refine KT.step rfl rfl (K.fieldAddrO rfl Try.fld90_0 Try.size9) ?_
          refine KT.step rfl rfl (K.loadO rfl zc (by simp) rfl Try.agg9) ?_
          refine KT.step rfl rfl (K.eqlS rfl rfl) ?_
          refine KT.nil ?_
          refine thenK_n ?_
          refine KC.cond rfl (fun hc43 => ?_) (fun hc43 => ?_)
          · skip
            replace hc43 := of_decide_eq_true hc43
            refine KC.region ?_
            refine KT.step rfl rfl (K.move rfl) ?_
            refine KT.step rfl rfl (K.move rfl) ?_
            refine KT.step rfl rfl (K.idxO (m := p.2) rfl rfl (by omega) Try.underlying22 Try.size3) ?_
            refine KT.step rfl rfl (K.loadO rfl zP (by simp) (nX_get _ (by omega)) Try.agg3) ?_
            refine KT.step rfl rfl (K.add rfl rfl (wrap_id (by rw [if_pos rfl]; have := depC_in l p.2 (cg l p.2).x.toNat; omega))) ?_
            refine KT.step rfl rfl (K.idxO (m := p.2) rfl rfl (by omega) Try.underlying22 Try.size3) ?_
            refine KT.storeG rfl rfl rfl rfl zP (by rw [nX_len]; omega) rfl rfl Try.size3 fun σ2 l2 u2 v2 => ?_
            replace z0 := (v2 0 (by omega)).trans z0
            replace zQ := (v2 Q (by omega)).trans zQ
            replace zc := (v2 p.1.length (by omega)).trans zc
            replace zf := (v2 _ (by omega)).trans zf
            replace zP := u2.trans (congrArg (fun c => some (VObj.mk c 0)) (tX_put (w := (depC l p.2).getD (cg l p.2).x.toNat 0) (by have := depC_in l p.2 (cg l p.2).x.toNat; have := dep_zero (hfol 0 (by omega)) p.2; unfold dV; rw [if_pos rfl, if_pos (show (cg l p.2).op = EX' from hc43), hy0, show (0 : Int).toNat = 0 from rfl]; omega)))
            refine KT.nil ?_
            refine thenK_n ?_
            refine KC.seq ?_
            refine KC.seq ?_
            refine KC.region ?_
            refine KT.step rfl rfl (K.move rfl) ?_
            refine KT.step rfl rfl (K.gtr rfl rfl) ?_
            refine KT.nil ?_
            refine thenK_n ?_
            refine KC.cond rfl (fun hc51 => ?_) (fun hc51 => ?_)
            · skip
              exact absurd (of_decide_eq_true hc51) (by omega)
            · skip
              replace hc51 := of_decide_eq_false hc51
              refine KC.skip ?_
              refine thenK_n ?_
              refine KC.seq ?_
              refine KC.region ?_
              refine KT.step rfl rfl (K.fieldAddrO rfl Try.fld90_0 Try.size9) ?_
              refine KT.step rfl rfl (K.loadO rfl zc (by simp) rfl Try.agg9) ?_
              refine KT.nil ?_
              refine thenK_n ?_
              refine KC.block ?_
              refine KC.seq ?_
              refine KC.region ?_
              refine KT.step rfl rfl (K.eqlS rfl rfl) ?_
              refine KT.step rfl rfl (K.assign rfl) ?_
              refine KT.nil ?_
              refine thenK_n ?_
              refine KC.cond rfl (fun hc73 => ?_) (fun hc73 => ?_)
              · skip
                exact absurd ((of_decide_eq_true hc73).symm.trans hc43) (by decide)
              · skip
                replace hc73 := of_decide_eq_false hc73
                refine KC.seq ?_
                refine KC.region ?_
                refine KT.step rfl rfl (K.eqlS rfl rfl) ?_
                refine KT.step rfl rfl (K.assign rfl) ?_
                refine KT.nil ?_
                refine thenK_n ?_
                refine KC.cond rfl (fun hc89 => ?_) (fun hc89 => ?_)
                · skip
                  exact absurd hk (by unfold kd; rw [of_decide_eq_true hc89]; decide)
                · skip
                  replace hc89 := of_decide_eq_false hc89
                  refine KC.seq ?_
                  refine KC.region ?_
                  refine KT.step rfl rfl (K.eqlS rfl rfl) ?_
                  refine KT.step rfl rfl (K.assign rfl) ?_
                  refine KT.nil ?_
                  refine thenK_n ?_
                  refine KC.cond rfl (fun hc105 => ?_) (fun hc105 => ?_)
                  · skip
                    exact absurd hk (by unfold kd; rw [of_decide_eq_true hc105]; decide)
                  · skip
                    replace hc105 := of_decide_eq_false hc105
                    refine KC.seq ?_
                    refine KC.region ?_
                    refine KT.step rfl rfl (K.eqlS rfl rfl) ?_
                    refine KT.step rfl rfl (K.assign rfl) ?_
                    refine KT.nil ?_
                    refine thenK_n ?_
                    refine KC.cond rfl (fun hc121 => ?_) (fun hc121 => ?_)
                    · skip
                      replace hc121 := of_decide_eq_true hc121
                      refine KC.draw Try.mixed ?_
                      refine KT.step rfl rfl (K.move rfl) ?_
                      refine KT.step rfl rfl (K.move rfl) ?_
                      refine KT.step rfl rfl (K.loadOA [dn, dl] rfl z0 (by decide) Try.agg24 Try.size24 rfl) ?_
                      refine KT.step rfl rfl (K.move rfl) ?_
                      refine KT.step rfl rfl (K.fieldAddrO rfl Try.fld90_1 Try.size3) ?_
                      refine KT.step rfl rfl (K.loadO rfl zc (by simp) rfl Try.agg3) ?_
                      refine KT.step rfl rfl (K.idxO (m := (cg l p.2).x.toNat) rfl (congrArg (fun z => some (XV.d (DI z))) (Int.toNat_of_nonneg hin.1.1).symm) hin.1.2 Try.underlying22 Try.size3) ?_
                      refine KT.step rfl rfl (K.loadO rfl zQ (by simp) (nX_get _ hin.1.2) Try.agg3) ?_
                      refine KT.step rfl rfl (K.call2 rfl rfl plainTry_34 (rbefore34 hS (pow16 hS.n16 (satC_lt hS.len l _ _)))) ?_
                      refine KT.step rfl rfl (K.idxO (m := p.2) rfl rfl (by omega) Try.underlying22 Try.size3) ?_
                      refine KT.storeG rfl rfl rfl rfl zQ (by rw [nX_len]; omega) rfl rfl Try.size3 fun σ4 l4 u4 v4 => ?_
                      replace z0 := (v4 0 (by omega)).trans z0
                      replace zP := (v4 P (by omega)).trans zP
                      replace zc := (v4 p.1.length (by omega)).trans zc
                      replace zf := (v4 _ (by omega)).trans zf
                      replace zQ := u4.trans (congrArg (fun c => some (VObj.mk c 0)) (sX_put (by rw [opc_of (i := 4) (show NM[4]? = some (cg l p.2).op by rw [show (cg l p.2).op = EX' from hc43]; rfl)]; rfl)))
                      refine KT.nil ?_
                      refine ⟨by kernel_rfl, ?_⟩
                      refine blockK_n ?_
                      refine blockK_n ?_
                      refine thenK_n ?_
                      refine KC.region ?_
                      refine KT.step rfl rfl (K.add rfl rfl (wrap_id (by omega))) ?_
                      refine KT.step rfl rfl (K.move rfl) ?_
                      refine KT.nil ?_
                      refine thenK_n ?_
                      refine ⟨(_, p.2 + 1), ⟨by simp only; omega, z0, zP, zQ⟩, by simp only; omega, rfl, by simp [Go.Vm.look, extK]⟩
                    · skip
                      exact absurd hc43 (of_decide_eq_false hc121)
          · skip
            replace hc43 := of_decide_eq_false hc43
            have hop : (cg l p.2).op = not' := hor.resolve_right hc43
            refine KC.skip ?_
            refine thenK_n ?_
            refine KC.seq ?_
            refine KC.seq ?_
            refine KC.region ?_
            refine KT.step rfl rfl (K.move rfl) ?_
            refine KT.step rfl rfl (K.gtr rfl rfl) ?_
            refine KT.nil ?_
            refine thenK_n ?_
            refine KC.cond rfl (fun hc51 => ?_) (fun hc51 => ?_)
            · skip
              exact absurd (of_decide_eq_true hc51) (by omega)
            · skip
              replace hc51 := of_decide_eq_false hc51
              refine KC.skip ?_
              refine thenK_n ?_
              refine KC.seq ?_
              refine KC.region ?_
              refine KT.step rfl rfl (K.fieldAddrO rfl Try.fld90_0 Try.size9) ?_
              refine KT.step rfl rfl (K.loadO rfl zc (by simp) rfl Try.agg9) ?_
              refine KT.nil ?_
              refine thenK_n ?_
              refine KC.block ?_
              refine KC.seq ?_
              refine KC.region ?_
              refine KT.step rfl rfl (K.eqlS rfl rfl) ?_
              refine KT.step rfl rfl (K.assign rfl) ?_
              refine KT.nil ?_
              refine thenK_n ?_
              refine KC.cond rfl (fun hc73 => ?_) (fun hc73 => ?_)
              · skip
                replace hc73 := of_decide_eq_true hc73
                refine KC.draw Try.mixed ?_
                refine KT.step rfl rfl (K.move rfl) ?_
                refine KT.step rfl rfl (K.move rfl) ?_
                refine KT.step rfl rfl (K.fieldAddrO rfl Try.fld24_0 Try.size22) ?_
                refine KT.step rfl rfl (K.loadO rfl z0 (by simp) rfl Try.agg22) ?_
                refine KT.step rfl rfl (K.len rfl hS.hn Try.underlying22) ?_
                refine KT.step rfl rfl (K.shl rfl rfl (by omega) (shlI (i := nx.length) (by have := hS.n16; omega))) ?_
                refine KT.step rfl rfl (K.sub rfl rfl (show IntKind.i64.wrap (((2 ^ nx.length : Nat) : Int) - 1) = ((allN nx.length : Nat) : Int) from by have := allN_lt nx.length; have := pow16 hS.n16 this; rw [allI]; exact wrap_id (by omega))) ?_
                refine KT.step rfl rfl (K.move rfl) ?_
                refine KT.step rfl rfl (K.fieldAddrO rfl Try.fld90_1 Try.size3) ?_
                refine KT.step rfl rfl (K.loadO rfl zc (by simp) rfl Try.agg3) ?_
                refine KT.step rfl rfl (K.idxO (m := (cg l p.2).x.toNat) rfl (congrArg (fun z => some (XV.d (DI z))) (Int.toNat_of_nonneg hin.1.1).symm) hin.1.2 Try.underlying22 Try.size3) ?_
                refine KT.step rfl rfl (K.loadO rfl zQ (by simp) (nX_get _ hin.1.2) Try.agg3) ?_
                refine KT.step rfl rfl (K.bandNot rfl rfl (show IntKind.i64.wrap (BitVec.ofInt IntKind.i64.bits ((allN nx.length : Nat) : Int) &&& ~~~ BitVec.ofInt IntKind.i64.bits ((((satC nx lb l p.2).getD (cg l p.2).x.toNat 0) : Nat) : Int)).toNat = ((notN nx.length (((satC nx lb l p.2).getD (cg l p.2).x.toNat 0)) : Nat) : Int) from diffI (lt63 al') (lt63 ((pow16 hS.n16 (satC_lt hS.len l _ _)))))) ?_
                refine KT.step rfl rfl (K.idxO (m := p.2) rfl rfl (by omega) Try.underlying22 Try.size3) ?_
                refine KT.storeG rfl rfl rfl rfl zQ (by rw [nX_len]; omega) rfl rfl Try.size3 fun σ4 l4 u4 v4 => ?_
                replace z0 := (v4 0 (by omega)).trans z0
                replace zP := (v4 P (by omega)).trans zP
                replace zc := (v4 p.1.length (by omega)).trans zc
                replace zf := (v4 _ (by omega)).trans zf
                replace zQ := u4.trans (congrArg (fun c => some (VObj.mk c 0)) (sX_put (by rw [opc_of (i := 1) (show NM[1]? = some (cg l p.2).op by rw [hop]; rfl)]; rfl)))
                refine KT.nil ?_
                refine ⟨by kernel_rfl, ?_⟩
                refine blockK_n ?_
                refine blockK_n ?_
                refine thenK_n ?_
                refine KC.region ?_
                refine KT.step rfl rfl (K.add rfl rfl (wrap_id (by omega))) ?_
                refine KT.step rfl rfl (K.move rfl) ?_
                refine KT.nil ?_
                refine thenK_n ?_
                refine ⟨(_, p.2 + 1), ⟨by simp only; omega, z0, zP.trans (congrArg (fun c => some (VObj.mk c 0)) (tX_end (by have := depC_in l p.2 (cg l p.2).x.toNat; have := dep_zero (hfol 0 (by omega)) p.2; unfold dV; rw [if_neg (show ¬ (cg l p.2).op = EX' from hc43), hy0, show (0 : Int).toNat = 0 from rfl]; omega))), zQ⟩, by simp only; omega, rfl, by simp [Go.Vm.look, extK]⟩
              · skip
                exact absurd hop (of_decide_eq_false hc73)
        · skip
          exact absurd (of_decide_eq_false hc32) (by omega)
    · skip
      refine KT.step rfl rfl (K.fieldAddrO rfl Try.fld90_0 Try.size9) ?_
      rcases cl_split hfo with hB | hB
      · skip
        refine KT.step rfl rfl (K.loadO rfl (List.getElem?_concat_length ..) (by simp) rfl Try.agg9) ?_
        refine KT.step rfl rfl (K.call1 rfl plainTry_48 (kids48 _)) ?_
        refine KT.step rfl rfl (K.assign rfl) ?_
        refine KT.nil ?_
        refine thenK_n ?_
        refine KC.seq ?_
        have hop : (cg l p.2).op = and' := by rcases hB with h | h <;> first | exact h.2 | omega
        have hk : kd (cg l p.2) = 2 := by rcases hB with h | h <;> omega
        have har : arI (cg l p.2).op = 2 := ar_kind2 hk
        have hyi : (cg l p.2).y.toNat ≠ p.2 := by unfold folP at hfo; omega
        refine KC.region ?_
        refine KT.step rfl rfl (K.fieldAddrO rfl Try.fld90_0 Try.size9) ?_
        refine KT.step rfl rfl (K.loadO rfl (List.getElem?_concat_length ..) (by simp) rfl Try.agg9) ?_
        refine KT.step rfl rfl (K.build1X rfl rfl Try.zero27 Try.underlying27 Try.places27) ?_
        refine KT.step rfl rfl (K.alloc Try.zero27) ?_
        refine KT.storeL (cs := [.d (.lit (.string (cg l p.2).op)), .d Dnil]) rfl rfl rfl rfl rfl rfl rfl Try.size27 ?_
        refine KT.nil ?_
        refine thenK_n ?_
        refine KC.seq ?_
        refine KC.seq ?_
        have z0 := get_left (B := [(⟨[.d (.lit (.string (cg l p.2).op)), .d Dnil], 0⟩ : VObj)]) (get_left (B := [(⟨[.d (.lit (.string (cg l p.2).op)), .d (DI (cg l p.2).x), .d (DI (cg l p.2).y)], 0⟩ : VObj)]) y0)
        have zP := get_left (B := [(⟨[.d (.lit (.string (cg l p.2).op)), .d Dnil], 0⟩ : VObj)]) (get_left (B := [(⟨[.d (.lit (.string (cg l p.2).op)), .d (DI (cg l p.2).x), .d (DI (cg l p.2).y)], 0⟩ : VObj)]) yP)
        have zQ := get_left (B := [(⟨[.d (.lit (.string (cg l p.2).op)), .d Dnil], 0⟩ : VObj)]) (get_left (B := [(⟨[.d (.lit (.string (cg l p.2).op)), .d (DI (cg l p.2).x), .d (DI (cg l p.2).y)], 0⟩ : VObj)]) yQ)
        have zc : ((p.1 ++ [(⟨[.d (.lit (.string (cg l p.2).op)), .d (DI (cg l p.2).x), .d (DI (cg l p.2).y)], 0⟩ : VObj)]) ++ [(⟨[.d (.lit (.string (cg l p.2).op)), .d Dnil], 0⟩ : VObj)])[p.1.length]? = some (⟨[.d (.lit (.string (cg l p.2).op)), .d (DI (cg l p.2).x), .d (DI (cg l p.2).y)], 0⟩ : VObj) := get_left (List.getElem?_concat_length ..)
        have zf : ((p.1 ++ [(⟨[.d (.lit (.string (cg l p.2).op)), .d (DI (cg l p.2).x), .d (DI (cg l p.2).y)], 0⟩ : VObj)]) ++ [(⟨[.d (.lit (.string (cg l p.2).op)), .d Dnil], 0⟩ : VObj)])[(p.1 ++ [(⟨[.d (.lit (.string (cg l p.2).op)), .d (DI (cg l p.2).x), .d (DI (cg l p.2).y)], 0⟩ : VObj)]).length]? = some (⟨[.d (.lit (.string (cg l p.2).op)), .d Dnil], 0⟩ : VObj) := List.getElem?_concat_length ..
        have hPl := len_of yP
        have hQl := len_of yQ
        have hF : (p.1 ++ [(⟨[.d (.lit (.string (cg l p.2).op)), .d (DI (cg l p.2).x), .d (DI (cg l p.2).y)], 0⟩ : VObj)]).length = p.1.length + 1 := by simp
        refine KC.region ?_
        refine KT.step rfl rfl (K.move rfl) ?_
        refine KT.step rfl rfl (K.gtr rfl rfl) ?_
        refine KT.nil ?_
        refine thenK_n ?_
        refine KC.cond rfl (fun hc32 => ?_) (fun hc32 => ?_)
        · skip
          replace hc32 := of_decide_eq_true hc32
          refine KC.seq ?_
          refine KC.region ?_
          refine KT.step rfl rfl (K.move rfl) ?_
          refine KT.step rfl rfl (K.move rfl) ?_
          refine KT.step rfl rfl (K.move rfl) ?_
          refine KT.step rfl rfl (K.fieldAddrO rfl Try.fld90_1 Try.size3) ?_
          refine KT.step rfl rfl (K.loadO rfl zc (by simp) rfl Try.agg3) ?_
          refine KT.step rfl rfl (K.idxO (m := (cg l p.2).x.toNat) rfl (congrArg (fun z => some (XV.d (DI z))) (Int.toNat_of_nonneg hin.1.1).symm) hin.1.2 Try.underlying22 Try.size3) ?_
          refine KT.step rfl rfl (K.loadO rfl zP (by simp) (nX_get _ hin.1.2) Try.agg3) ?_
          refine KT.step rfl rfl (K.idxO (m := p.2) rfl rfl (by omega) Try.underlying22 Try.size3) ?_
          refine KT.storeG rfl rfl rfl rfl zP (by rw [nX_len]; omega) rfl rfl Try.size3 fun σ1 l1 u1 v1 => ?_
          replace z0 := (v1 0 (by omega)).trans z0
          replace zQ := (v1 Q (by omega)).trans zQ
          replace zc := (v1 p.1.length (by omega)).trans zc
          replace zf := (v1 _ (by omega)).trans zf
          replace zP := u1.trans (congrArg (fun c => some (VObj.mk c 0)) (nX_set (f' := fun k => if k = p.2 then (depC l p.2).getD (cg l p.2).x.toNat 0 else (depC l p.2).getD k 0) fun k _ => rfl))
          refine KT.nil ?_
          refine thenK_n ?_
          refine KC.seq ?_
          refine KC.region ?_
          refine KT.step rfl rfl (K.fieldAddrO rfl Try.fld90_0 Try.size9) ?_
          refine KT.step rfl rfl (K.loadO rfl zc (by simp) rfl Try.agg9) ?_
          refine KT.step rfl rfl (K.eqlS rfl rfl) ?_
          refine KT.nil ?_
          refine thenK_n ?_
          refine KC.cond rfl (fun hc43 => ?_) (fun hc43 => ?_)
          · skip
            exact absurd hk (by unfold kd; rw [of_decide_eq_true hc43]; decide)
          · skip
            replace hc43 := of_decide_eq_false hc43
            refine KC.skip ?_
            refine thenK_n ?_
            refine KC.seq ?_
            refine KC.seq ?_
            refine KC.region ?_
            refine KT.step rfl rfl (K.move rfl) ?_
            refine KT.step rfl rfl (K.gtr rfl rfl) ?_
            refine KT.nil ?_
            refine thenK_n ?_
            refine KC.cond rfl (fun hc51 => ?_) (fun hc51 => ?_)
            · skip
              replace hc51 := of_decide_eq_true hc51
              refine KC.draw Try.mixed ?_
              refine KT.step rfl rfl (K.move rfl) ?_
              refine KT.step rfl rfl (K.move rfl) ?_
              refine KT.step rfl rfl (K.move rfl) ?_
              refine KT.step rfl rfl (K.move rfl) ?_
              refine KT.step rfl rfl (K.idxO (m := p.2) rfl rfl (by omega) Try.underlying22 Try.size3) ?_
              refine KT.step rfl rfl (K.loadO rfl zP (by simp) (nX_get _ (by omega)) Try.agg3) ?_
              refine KT.step rfl rfl (K.move rfl) ?_
              refine KT.step rfl rfl (K.fieldAddrO rfl Try.fld90_2 Try.size3) ?_
              refine KT.step rfl rfl (K.loadO rfl zc (by simp) rfl Try.agg3) ?_
              refine KT.step rfl rfl (K.idxO (m := (cg l p.2).y.toNat) rfl (congrArg (fun z => some (XV.d (DI z))) (Int.toNat_of_nonneg hin.2.1.1).symm) hin.2.1.2 Try.underlying22 Try.size3) ?_
              refine KT.step rfl rfl (K.loadO rfl zP (by simp) (nX_get _ hin.2.1.2) Try.agg3) ?_
              refine KT.step rfl rfl (K.max2 rfl rfl) ?_
              refine KT.step rfl rfl (K.idxO (m := p.2) rfl rfl (by omega) Try.underlying22 Try.size3) ?_
              refine KT.storeG rfl rfl rfl rfl zP (by rw [nX_len]; omega) rfl rfl Try.size3 fun σ3 l3 u3 v3 => ?_
              replace z0 := (v3 0 (by omega)).trans z0
              replace zQ := (v3 Q (by omega)).trans zQ
              replace zc := (v3 p.1.length (by omega)).trans zc
              replace zf := (v3 _ (by omega)).trans zf
              replace zP := u3.trans (congrArg (fun c => some (VObj.mk c 0)) (tX_put (w := (depC l p.2).getD (cg l p.2).x.toNat 0) (by unfold dV; rw [if_pos rfl, if_neg hyi, if_neg (show ¬ (cg l p.2).op = EX' from fun e => absurd hk (by unfold kd; rw [e]; decide)), Int.add_zero])))
              refine KT.nil ?_
              refine ⟨by kernel_rfl, ?_⟩
              refine thenK_n ?_
              refine KC.seq ?_
              refine KC.region ?_
              refine KT.step rfl rfl (K.fieldAddrO rfl Try.fld90_0 Try.size9) ?_
              refine KT.step rfl rfl (K.loadO rfl zc (by simp) rfl Try.agg9) ?_
              refine KT.nil ?_
              refine thenK_n ?_
              refine KC.block ?_
              refine KC.seq ?_
              refine KC.region ?_
              refine KT.step rfl rfl (K.eqlS rfl rfl) ?_
              refine KT.step rfl rfl (K.assign rfl) ?_
              refine KT.nil ?_
              refine thenK_n ?_
              refine KC.cond rfl (fun hc73 => ?_) (fun hc73 => ?_)
              · skip
                exact absurd hk (by unfold kd; rw [of_decide_eq_true hc73]; decide)
              · skip
                replace hc73 := of_decide_eq_false hc73
                refine KC.seq ?_
                refine KC.region ?_
                refine KT.step rfl rfl (K.eqlS rfl rfl) ?_
                refine KT.step rfl rfl (K.assign rfl) ?_
                refine KT.nil ?_
                refine thenK_n ?_
                refine KC.cond rfl (fun hc89 => ?_) (fun hc89 => ?_)
                · skip
                  replace hc89 := of_decide_eq_true hc89
                  refine KC.draw Try.mixed ?_
                  refine KT.step rfl rfl (K.move rfl) ?_
                  refine KT.step rfl rfl (K.move rfl) ?_
                  refine KT.step rfl rfl (K.move rfl) ?_
                  refine KT.step rfl rfl (K.fieldAddrO rfl Try.fld90_1 Try.size3) ?_
                  refine KT.step rfl rfl (K.loadO rfl zc (by simp) rfl Try.agg3) ?_
                  refine KT.step rfl rfl (K.idxO (m := (cg l p.2).x.toNat) rfl (congrArg (fun z => some (XV.d (DI z))) (Int.toNat_of_nonneg hin.1.1).symm) hin.1.2 Try.underlying22 Try.size3) ?_
                  refine KT.step rfl rfl (K.loadO rfl zQ (by simp) (nX_get _ hin.1.2) Try.agg3) ?_
                  refine KT.step rfl rfl (K.move rfl) ?_
                  refine KT.step rfl rfl (K.fieldAddrO rfl Try.fld90_2 Try.size3) ?_
                  refine KT.step rfl rfl (K.loadO rfl zc (by simp) rfl Try.agg3) ?_
                  refine KT.step rfl rfl (K.idxO (m := (cg l p.2).y.toNat) rfl (congrArg (fun z => some (XV.d (DI z))) (Int.toNat_of_nonneg hin.2.1.1).symm) hin.2.1.2 Try.underlying22 Try.size3) ?_
                  refine KT.step rfl rfl (K.loadO rfl zQ (by simp) (nX_get _ hin.2.1.2) Try.agg3) ?_
                  refine KT.step rfl rfl (K.band rfl rfl (show IntKind.i64.wrap (BitVec.ofInt IntKind.i64.bits ((((satC nx lb l p.2).getD (cg l p.2).x.toNat 0) : Nat) : Int) &&& BitVec.ofInt IntKind.i64.bits ((((satC nx lb l p.2).getD (cg l p.2).y.toNat 0) : Nat) : Int)).toNat = ((((satC nx lb l p.2).getD (cg l p.2).x.toNat 0) &&& ((satC nx lb l p.2).getD (cg l p.2).y.toNat 0) : Nat) : Int) from andI ((lt63 (pow16 hS.n16 (satC_lt hS.len l _ _)))) ((lt63 (pow16 hS.n16 (satC_lt hS.len l _ _)))))) ?_
                  refine KT.step rfl rfl (K.idxO (m := p.2) rfl rfl (by omega) Try.underlying22 Try.size3) ?_
                  refine KT.storeG rfl rfl rfl rfl zQ (by rw [nX_len]; omega) rfl rfl Try.size3 fun σ4 l4 u4 v4 => ?_
                  replace z0 := (v4 0 (by omega)).trans z0
                  replace zP := (v4 P (by omega)).trans zP
                  replace zc := (v4 p.1.length (by omega)).trans zc
                  replace zf := (v4 _ (by omega)).trans zf
                  replace zQ := u4.trans (congrArg (fun c => some (VObj.mk c 0)) (sX_put (by rw [opc_of (i := 2) (show NM[2]? = some (cg l p.2).op by rw [hop]; rfl)]; rfl)))
                  refine KT.nil ?_
                  refine ⟨by kernel_rfl, ?_⟩
                  refine blockK_n ?_
                  refine blockK_n ?_
                  refine thenK_n ?_
                  refine KC.region ?_
                  refine KT.step rfl rfl (K.add rfl rfl (wrap_id (by omega))) ?_
                  refine KT.step rfl rfl (K.move rfl) ?_
                  refine KT.nil ?_
                  refine thenK_n ?_
                  refine ⟨(_, p.2 + 1), ⟨by simp only; omega, z0, zP, zQ⟩, by simp only; omega, rfl, by simp [Go.Vm.look, extK]⟩
                · skip
                  exact absurd hop (of_decide_eq_false hc89)
            · skip
              exact absurd (of_decide_eq_false hc51) (by omega)
        · skip
          exact absurd (of_decide_eq_false hc32) (by omega)
      · skip
        refine KT.step rfl rfl (K.loadO rfl (List.getElem?_concat_length ..) (by simp) rfl Try.agg9) ?_
        refine KT.step rfl rfl (K.call1 rfl plainTry_48 (kids48 _)) ?_
        refine KT.step rfl rfl (K.assign rfl) ?_
        refine KT.nil ?_
        refine thenK_n ?_
        refine KC.seq ?_
        have hop : (cg l p.2).op = or' := by rcases hB with h | h <;> first | exact h.2 | omega
        have hk : kd (cg l p.2) = 2 := by rcases hB with h | h <;> omega
        have har : arI (cg l p.2).op = 2 := ar_kind2 hk
        have hyi : (cg l p.2).y.toNat ≠ p.2 := by unfold folP at hfo; omega
        refine KC.region ?_
        refine KT.step rfl rfl (K.fieldAddrO rfl Try.fld90_0 Try.size9) ?_
        refine KT.step rfl rfl (K.loadO rfl (List.getElem?_concat_length ..) (by simp) rfl Try.agg9) ?_
        refine KT.step rfl rfl (K.build1X rfl rfl Try.zero27 Try.underlying27 Try.places27) ?_
        refine KT.step rfl rfl (K.alloc Try.zero27) ?_
        refine KT.storeL (cs := [.d (.lit (.string (cg l p.2).op)), .d Dnil]) rfl rfl rfl rfl rfl rfl rfl Try.size27 ?_
        refine KT.nil ?_
        refine thenK_n ?_
        refine KC.seq ?_
        refine KC.seq ?_
        have z0 := get_left (B := [(⟨[.d (.lit (.string (cg l p.2).op)), .d Dnil], 0⟩ : VObj)]) (get_left (B := [(⟨[.d (.lit (.string (cg l p.2).op)), .d (DI (cg l p.2).x), .d (DI (cg l p.2).y)], 0⟩ : VObj)]) y0)
        have zP := get_left (B := [(⟨[.d (.lit (.string (cg l p.2).op)), .d Dnil], 0⟩ : VObj)]) (get_left (B := [(⟨[.d (.lit (.string (cg l p.2).op)), .d (DI (cg l p.2).x), .d (DI (cg l p.2).y)], 0⟩ : VObj)]) yP)
        have zQ := get_left (B := [(⟨[.d (.lit (.string (cg l p.2).op)), .d Dnil], 0⟩ : VObj)]) (get_left (B := [(⟨[.d (.lit (.string (cg l p.2).op)), .d (DI (cg l p.2).x), .d (DI (cg l p.2).y)], 0⟩ : VObj)]) yQ)
        have zc : ((p.1 ++ [(⟨[.d (.lit (.string (cg l p.2).op)), .d (DI (cg l p.2).x), .d (DI (cg l p.2).y)], 0⟩ : VObj)]) ++ [(⟨[.d (.lit (.string (cg l p.2).op)), .d Dnil], 0⟩ : VObj)])[p.1.length]? = some (⟨[.d (.lit (.string (cg l p.2).op)), .d (DI (cg l p.2).x), .d (DI (cg l p.2).y)], 0⟩ : VObj) := get_left (List.getElem?_concat_length ..)
        have zf : ((p.1 ++ [(⟨[.d (.lit (.string (cg l p.2).op)), .d (DI (cg l p.2).x), .d (DI (cg l p.2).y)], 0⟩ : VObj)]) ++ [(⟨[.d (.lit (.string (cg l p.2).op)), .d Dnil], 0⟩ : VObj)])[(p.1 ++ [(⟨[.d (.lit (.string (cg l p.2).op)), .d (DI (cg l p.2).x), .d (DI (cg l p.2).y)], 0⟩ : VObj)]).length]? = some (⟨[.d (.lit (.string (cg l p.2).op)), .d Dnil], 0⟩ : VObj) := List.getElem?_concat_length ..
        have hPl := len_of yP
        have hQl := len_of yQ
        have hF : (p.1 ++ [(⟨[.d (.lit (.string (cg l p.2).op)), .d (DI (cg l p.2).x), .d (DI (cg l p.2).y)], 0⟩ : VObj)]).length = p.1.length + 1 := by simp
        refine KC.region ?_
        refine KT.step rfl rfl (K.move rfl) ?_
        refine KT.step rfl rfl (K.gtr rfl rfl) ?_
        refine KT.nil ?_
        refine thenK_n ?_
        refine KC.cond rfl (fun hc32 => ?_) (fun hc32 => ?_)
        · skip
          replace hc32 := of_decide_eq_true hc32
          refine KC.seq ?_
          refine KC.region ?_
          refine KT.step rfl rfl (K.move rfl) ?_
          refine KT.step rfl rfl (K.move rfl) ?_
          refine KT.step rfl rfl (K.move rfl) ?_
          refine KT.step rfl rfl (K.fieldAddrO rfl Try.fld90_1 Try.size3) ?_
          refine KT.step rfl rfl (K.loadO rfl zc (by simp) rfl Try.agg3) ?_
          refine KT.step rfl rfl (K.idxO (m := (cg l p.2).x.toNat) rfl (congrArg (fun z => some (XV.d (DI z))) (Int.toNat_of_nonneg hin.1.1).symm) hin.1.2 Try.underlying22 Try.size3) ?_
          refine KT.step rfl rfl (K.loadO rfl zP (by simp) (nX_get _ hin.1.2) Try.agg3) ?_
          refine KT.step rfl rfl (K.idxO (m := p.2) rfl rfl (by omega) Try.underlying22 Try.size3) ?_
          refine KT.storeG rfl rfl rfl rfl zP (by rw [nX_len]; omega) rfl rfl Try.size3 fun σ1 l1 u1 v1 => ?_
          replace z0 := (v1 0 (by omega)).trans z0
          replace zQ := (v1 Q (by omega)).trans zQ
          replace zc := (v1 p.1.length (by omega)).trans zc
          replace zf := (v1 _ (by omega)).trans zf
          replace zP := u1.trans (congrArg (fun c => some (VObj.mk c 0)) (nX_set (f' := fun k => if k = p.2 then (depC l p.2).getD (cg l p.2).x.toNat 0 else (depC l p.2).getD k 0) fun k _ => rfl))
          refine KT.nil ?_
          refine thenK_n ?_
          refine KC.seq ?_
          refine KC.region ?_
          refine KT.step rfl rfl (K.fieldAddrO rfl Try.fld90_0 Try.size9) ?_
          refine KT.step rfl rfl (K.loadO rfl zc (by simp) rfl Try.agg9) ?_
          refine KT.step rfl rfl (K.eqlS rfl rfl) ?_
          refine KT.nil ?_
          refine thenK_n ?_
          refine KC.cond rfl (fun hc43 => ?_) (fun hc43 => ?_)
          · skip
            exact absurd hk (by unfold kd; rw [of_decide_eq_true hc43]; decide)
          · skip
            replace hc43 := of_decide_eq_false hc43
            refine KC.skip ?_
            refine thenK_n ?_
            refine KC.seq ?_
            refine KC.seq ?_
            refine KC.region ?_
            refine KT.step rfl rfl (K.move rfl) ?_
            refine KT.step rfl rfl (K.gtr rfl rfl) ?_
            refine KT.nil ?_
            refine thenK_n ?_
            refine KC.cond rfl (fun hc51 => ?_) (fun hc51 => ?_)
            · skip
              replace hc51 := of_decide_eq_true hc51
              refine KC.draw Try.mixed ?_
              refine KT.step rfl rfl (K.move rfl) ?_
              refine KT.step rfl rfl (K.move rfl) ?_
              refine KT.step rfl rfl (K.move rfl) ?_
              refine KT.step rfl rfl (K.move rfl) ?_
              refine KT.step rfl rfl (K.idxO (m := p.2) rfl rfl (by omega) Try.underlying22 Try.size3) ?_
              refine KT.step rfl rfl (K.loadO rfl zP (by simp) (nX_get _ (by omega)) Try.agg3) ?_
              refine KT.step rfl rfl (K.move rfl) ?_
              refine KT.step rfl rfl (K.fieldAddrO rfl Try.fld90_2 Try.size3) ?_
              refine KT.step rfl rfl (K.loadO rfl zc (by simp) rfl Try.agg3) ?_
              refine KT.step rfl rfl (K.idxO (m := (cg l p.2).y.toNat) rfl (congrArg (fun z => some (XV.d (DI z))) (Int.toNat_of_nonneg hin.2.1.1).symm) hin.2.1.2 Try.underlying22 Try.size3) ?_
              refine KT.step rfl rfl (K.loadO rfl zP (by simp) (nX_get _ hin.2.1.2) Try.agg3) ?_
              refine KT.step rfl rfl (K.max2 rfl rfl) ?_
              refine KT.step rfl rfl (K.idxO (m := p.2) rfl rfl (by omega) Try.underlying22 Try.size3) ?_
              refine KT.storeG rfl rfl rfl rfl zP (by rw [nX_len]; omega) rfl rfl Try.size3 fun σ3 l3 u3 v3 => ?_
              replace z0 := (v3 0 (by omega)).trans z0
              replace zQ := (v3 Q (by omega)).trans zQ
              replace zc := (v3 p.1.length (by omega)).trans zc
              replace zf := (v3 _ (by omega)).trans zf
              replace zP := u3.trans (congrArg (fun c => some (VObj.mk c 0)) (tX_put (w := (depC l p.2).getD (cg l p.2).x.toNat 0) (by unfold dV; rw [if_pos rfl, if_neg hyi, if_neg (show ¬ (cg l p.2).op = EX' from fun e => absurd hk (by unfold kd; rw [e]; decide)), Int.add_zero])))
              refine KT.nil ?_
              refine ⟨by kernel_rfl, ?_⟩
              refine thenK_n ?_
              refine KC.seq ?_
              refine KC.region ?_
              refine KT.step rfl rfl (K.fieldAddrO rfl Try.fld90_0 Try.size9) ?_
              refine KT.step rfl rfl (K.loadO rfl zc (by simp) rfl Try.agg9) ?_
              refine KT.nil ?_
              refine thenK_n ?_
              refine KC.block ?_
              refine KC.seq ?_
              refine KC.region ?_
              refine KT.step rfl rfl (K.eqlS rfl rfl) ?_
              refine KT.step rfl rfl (K.assign rfl) ?_
              refine KT.nil ?_
              refine thenK_n ?_
              refine KC.cond rfl (fun hc73 => ?_) (fun hc73 => ?_)
              · skip
                exact absurd hk (by unfold kd; rw [of_decide_eq_true hc73]; decide)
              · skip
                replace hc73 := of_decide_eq_false hc73
                refine KC.seq ?_
                refine KC.region ?_
                refine KT.step rfl rfl (K.eqlS rfl rfl) ?_
                refine KT.step rfl rfl (K.assign rfl) ?_
                refine KT.nil ?_
                refine thenK_n ?_
                refine KC.cond rfl (fun hc89 => ?_) (fun hc89 => ?_)
                · skip
                  exact absurd ((of_decide_eq_true hc89).symm.trans hop) (by decide)
                · skip
                  replace hc89 := of_decide_eq_false hc89
                  refine KC.seq ?_
                  refine KC.region ?_
                  refine KT.step rfl rfl (K.eqlS rfl rfl) ?_
                  refine KT.step rfl rfl (K.assign rfl) ?_
                  refine KT.nil ?_
                  refine thenK_n ?_
                  refine KC.cond rfl (fun hc105 => ?_) (fun hc105 => ?_)
                  · skip
                    replace hc105 := of_decide_eq_true hc105
                    refine KC.draw Try.mixed ?_
                    refine KT.step rfl rfl (K.move rfl) ?_
                    refine KT.step rfl rfl (K.move rfl) ?_
                    refine KT.step rfl rfl (K.move rfl) ?_
                    refine KT.step rfl rfl (K.fieldAddrO rfl Try.fld90_1 Try.size3) ?_
                    refine KT.step rfl rfl (K.loadO rfl zc (by simp) rfl Try.agg3) ?_
                    refine KT.step rfl rfl (K.idxO (m := (cg l p.2).x.toNat) rfl (congrArg (fun z => some (XV.d (DI z))) (Int.toNat_of_nonneg hin.1.1).symm) hin.1.2 Try.underlying22 Try.size3) ?_
                    refine KT.step rfl rfl (K.loadO rfl zQ (by simp) (nX_get _ hin.1.2) Try.agg3) ?_
                    refine KT.step rfl rfl (K.move rfl) ?_
                    refine KT.step rfl rfl (K.fieldAddrO rfl Try.fld90_2 Try.size3) ?_
                    refine KT.step rfl rfl (K.loadO rfl zc (by simp) rfl Try.agg3) ?_
                    refine KT.step rfl rfl (K.idxO (m := (cg l p.2).y.toNat) rfl (congrArg (fun z => some (XV.d (DI z))) (Int.toNat_of_nonneg hin.2.1.1).symm) hin.2.1.2 Try.underlying22 Try.size3) ?_
                    refine KT.step rfl rfl (K.loadO rfl zQ (by simp) (nX_get _ hin.2.1.2) Try.agg3) ?_
                    refine KT.step rfl rfl (K.bor rfl rfl (show IntKind.i64.wrap (BitVec.ofInt IntKind.i64.bits ((((satC nx lb l p.2).getD (cg l p.2).x.toNat 0) : Nat) : Int) ||| BitVec.ofInt IntKind.i64.bits ((((satC nx lb l p.2).getD (cg l p.2).y.toNat 0) : Nat) : Int)).toNat = ((((satC nx lb l p.2).getD (cg l p.2).x.toNat 0) ||| ((satC nx lb l p.2).getD (cg l p.2).y.toNat 0) : Nat) : Int) from orI ((lt63 (pow16 hS.n16 (satC_lt hS.len l _ _)))) ((lt63 (pow16 hS.n16 (satC_lt hS.len l _ _)))))) ?_
                    refine KT.step rfl rfl (K.idxO (m := p.2) rfl rfl (by omega) Try.underlying22 Try.size3) ?_
                    refine KT.storeG rfl rfl rfl rfl zQ (by rw [nX_len]; omega) rfl rfl Try.size3 fun σ4 l4 u4 v4 => ?_
                    replace z0 := (v4 0 (by omega)).trans z0
                    replace zP := (v4 P (by omega)).trans zP
                    replace zc := (v4 p.1.length (by omega)).trans zc
                    replace zf := (v4 _ (by omega)).trans zf
                    replace zQ := u4.trans (congrArg (fun c => some (VObj.mk c 0)) (sX_put (by rw [opc_of (i := 3) (show NM[3]? = some (cg l p.2).op by rw [hop]; rfl)]; rfl)))
                    refine KT.nil ?_
                    refine ⟨by kernel_rfl, ?_⟩
                    refine blockK_n ?_
                    refine blockK_n ?_
                    refine thenK_n ?_
                    refine KC.region ?_
                    refine KT.step rfl rfl (K.add rfl rfl (wrap_id (by omega))) ?_
                    refine KT.step rfl rfl (K.move rfl) ?_
                    refine KT.nil ?_
                    refine thenK_n ?_
                    refine ⟨(_, p.2 + 1), ⟨by simp only; omega, z0, zP, zQ⟩, by simp only; omega, rfl, by simp [Go.Vm.look, extK]⟩
                  · skip
                    exact absurd hop (of_decide_eq_false hc105)
            · skip
              exact absurd (of_decide_eq_false hc51) (by omega)
        · skip
          exact absurd (of_decide_eq_false hc32) (by omega)
  · skip
    replace hc21 := of_decide_eq_false hc21
    refine KC.exit ?_
    refine thenK_x ?_
    refine thenK_x ?_
    refine blockK_e ?_
    refine thenK_n ?_
    refine KC.seq ?_
    refine KC.draw Try.mixed ?_
    refine KT.step rfl rfl (K.move rfl) ?_
    refine KT.step rfl rfl (K.move rfl) ?_
    refine KT.step rfl rfl (K.lenCls rfl hd Try.underlying49) ?_
    refine KT.step rfl rfl (K.sub rfl rfl (wrap_id (by omega))) ?_
    refine KT.step rfl rfl (K.idxO (m := l.length - 1) rfl (congrArg (fun z => some (XV.d (DI z))) (show (l.length : Int) - 1 = ((l.length - 1 : Nat) : Int) by omega)) (by omega) Try.underlying22 Try.size3) ?_
    refine KT.step rfl rfl (K.loadO rfl yP (by simp) (nX_get _ (by omega)) Try.agg3) ?_
    refine KT.step rfl rfl (K.move rfl) ?_
    refine KT.step rfl rfl (K.move rfl) ?_
    refine KT.step rfl rfl (K.lenCls rfl hd Try.underlying49) ?_
    refine KT.step rfl rfl (K.sub rfl rfl (wrap_id (by omega))) ?_
    refine KT.step rfl rfl (K.idxO (m := l.length - 1) rfl (congrArg (fun z => some (XV.d (DI z))) (show (l.length : Int) - 1 = ((l.length - 1 : Nat) : Int) by omega)) (by omega) Try.underlying22 Try.size3) ?_
    refine KT.step rfl rfl (K.loadO rfl yQ (by simp) (nX_get _ (by omega)) Try.agg3) ?_
    refine KT.step rfl rfl (K.assign rfl) ?_
    refine KT.step rfl rfl (K.assign rfl) ?_
    refine KT.nil ?_
    refine ⟨by kernel_rfl, ?_⟩
    refine thenK_n ?_
    refine KC.ret ?_
    have e : p.2 = l.length := by omega
    rw [e]
    exact ⟨.inl rfl, _, rfl, rfl⟩
end Go.Proofs.Ytcjcchceeidgkaa

