import Derived.Test.YtjfpeiioddfjcaaZnI0
/-
  Zones: what ZoneWithin asks.
-/
namespace Go.Proofs.Ytjfpeiioddfjcaa
open Go.Vm Go.Zn

theorem DeepCall.conv {P : Program} {f : FuncId} {args args' : List DV} {res : DV} (h : DeepCall P f args res) (hl : args'.length = args.length)
    (hc : ∀ (w : World) (M : Nat → Prop) (v : Value) (i : Nat) (x x' : DV), args'[i]? = some x' → args[i]? = some x → DRep w M v x' → DRep w M v x) : DeepCall P f args' res := fun M w vs hM hn hr =>
  h M w vs hM (hn.trans hl) fun i v x hv hx => by
    have hi : i < args'.length := by rw [hl]; exact (List.getElem?_eq_some_iff.1 hx).1
    exact hc w M v i x _ (List.getElem?_eq_getElem hi) hx (hr i v _ hv (List.getElem?_eq_getElem hi))
theorem rep_guard {w : World} {M : Nat → Prop} {v : Value} {a b c : Int} (h : DRep w M v (.lit (.agg #[.int .i64 a, .int .i64 b, .int .i64 c]))) : DRep w M v (.agg [DI a, DI b, DI c]) := by
  cases h
  refine .agg rfl fun i v x hv hx => ?_
  match i with
  | 0 => simp at hv hx; subst hv hx; exact .lit _
  | 1 => simp at hv hx; subst hv hx; exact .lit _
  | 2 => simp at hv hx; subst hv hx; exact .lit _
  | i + 3 => simp at hv
theorem And23_lit {d : DV} {z : List (List Int)} {i j b : Int} (hd : Mat d z) (hl : z.length ≤ 9223372036854775807) (hr : ∀ r ∈ z, r.length ≤ 9223372036854775807) : DeepCall Try.prog 23 [d, .lit (.agg #[.int .i64 i, .int .i64 j, .int .i64 b])] (.tup [resD (anE z i j b) z.length (tightM z.length (andM z i.toNat j.toNat b)), DI (anE z i j b)]) :=
  DeepCall.conv (And23 hd hl hr) rfl fun w M v k x x' h' h hx => by
    match k with
    | 0 => simp at h' h; subst h' h; exact hx
    | 1 => simp at h' h; subst h' h; exact rep_guard hx
    | k + 2 => simp at h'
theorem wi_del {z : List (List Int)} (h : dlE z = 0) : (inE (dlZ z) z = 0 → inB (dlZ z) z = true) ∧ (inE (dlZ z) z ≠ 0 → validZ (dlZ z) = false) := by
  have h0 : tgE z = 0 := (dlE_eq z).symm.trans h
  have hv := (tgE_zero h0).1
  have hn := (validZ_rows hv).2.1
  have e : dlZ z = genM z.length z.length (delM z.length (tightM z.length (zf z))) := by unfold dlZ resZ; rw [if_pos h]
  have hl : (dlZ z).length = z.length := by rw [e, genM_length]
  constructor
  · intro h1
    obtain ⟨v1, _, _⟩ := inOk_of h1
    obtain ⟨_, k2, _, _⟩ := again hn (del_ok (tg_ok h0)) (dl_out hv) e v1
    unfold inB
    rw [(inE_ok v1 hv hl).2, k2, inclB_true (del_ge (tg_ok h0).good), Bool.or_true]; rfl
  · intro h1
    exact Bool.eq_false_iff.2 fun v1 => h1 (inE_ok v1 hv hl).1
theorem wi_and {z : List (List Int)} {i j b : Int} (h : anE z i j b = 0) (hv' : validZ (anZ z i j b) = true) : inE z (anZ z i j b) = 0 ∧ inB z (anZ z i j b) = true := by
  obtain ⟨g1, v1, _⟩ := anE_zero h
  have hn := (validZ_rows v1).2.1
  obtain ⟨a1, _, a3, _⟩ := again hn (an_ok h) (an_out h) (an_gen h) hv'
  have l1 := guard_lt g1
  refine ⟨(inE_ok v1 hv' a1.symm).1, ?_⟩
  unfold inB
  rw [(inE_ok v1 hv' a1.symm).2, a3, a1, inclB_true fun p q hp hq => ((le_and l1.1 l1.2.1).1 (tight_le_a hn (and_lim5 g1 v1))).1 p q hp hq, Bool.or_true]; rfl
theorem rho_all : ∀ n, n < 5 → ∀ c, c < n → rho (2 ^ n - 2) (n - 1) c = 0 := by decide
theorem set_all : ∀ n, n < 5 → 2 ≤ n → setB n (((2 ^ n : Nat) : Int) - 2) = true ∧ (((2 ^ n : Nat) : Int) - 2).toNat = 2 ^ n - 2 := by decide
theorem wi_res {z : List (List Int)} (h0 : tgE z = 0) : rsE z (((2 ^ z.length : Nat) : Int) - 2) = 0 ∧ (rsZ z (((2 ^ z.length : Nat) : Int) - 2)).length = z.length ∧ ∀ r ∈ rsZ z (((2 ^ z.length : Nat) : Int) - 2), ∀ b ∈ r, b = 1 := by
  have hv := (tgE_zero h0).1
  have hn := (validZ_rows hv).2.1
  have h2 := (validZ_rows hv).1
  obtain ⟨s1, s2⟩ := set_all z.length (by omega) h2
  have e0 : rsE z (((2 ^ z.length : Nat) : Int) - 2) = 0 := by rw [rsE_eq, if_pos s1, h0]
  have e : rsZ z (((2 ^ z.length : Nat) : Int) - 2) = genM z.length z.length (resM z.length (2 ^ z.length - 2) (tightM z.length (zf z))) := by unfold rsZ resZ; rw [if_pos e0, s2]
  refine ⟨e0, by rw [e, genM_length], fun r hr b hb => ?_⟩
  rw [e] at hr
  unfold genM at hr
  obtain ⟨i, hi, rfl⟩ := List.mem_map.1 hr
  obtain ⟨j, hj, rfl⟩ := List.mem_map.1 hb
  rw [resM_eq (List.mem_range.1 hi) (List.mem_range.1 hj), rho_all _ (by omega) _ (List.mem_range.1 hi), rho_all _ (by omega) _ (List.mem_range.1 hj)]
  exact (tg_ok h0).one 0 (by omega)
end Go.Proofs.Ytjfpeiioddfjcaa

