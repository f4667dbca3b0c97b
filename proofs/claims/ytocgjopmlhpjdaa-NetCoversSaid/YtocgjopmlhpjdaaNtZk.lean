import Derived.Test.YtocgjopmlhpjdaaNtZj
/-
  Nets: the greatest markings; the reference: tree.
-/
namespace Go.Proofs.Ytocgjopmlhpjdaa
open Go.Vm Go.RowKit Go.Nt Go.Ht
theorem leq6_trans {X Y Z : Nat → Int} (h1 : leq6 X Y = true) (h2 : leq6 Y Z = true) : leq6 X Z = true := by
  unfold leq6 at *
  rw [List.all_eq_true] at *
  intro i hi
  have a := of_decide_eq_true (h1 i hi)
  have b := of_decide_eq_true (h2 i hi)
  exact decide_eq_true (by omega)
theorem leq6_anti {n : Nat} {x y : List Int} (n6 : n ≤ 6) (hx : x.length = n) (hy : y.length = n) (h1 : leq6 (tk x) (tk y) = true) (h2 : leq6 (tk y) (tk x) = true) : x = y := by
  unfold leq6 at *
  rw [List.all_eq_true] at *
  refine List.ext_getElem (by omega) fun i a b => ?_
  have c := of_decide_eq_true (h1 i (List.mem_range.2 (by omega)))
  have d := of_decide_eq_true (h2 i (List.mem_range.2 (by omega)))
  rw [tk_get a, tk_get b] at c d
  omega
/-- It is at most no other. -/
def topB (ns : List (List Int)) (x : List Int) : Bool := ns.all fun y => !leq6 (tk x) (tk y) || decide (x = y)
structure GrtI (n : Nat) (l out : List (List Int)) : Prop where
  sub : ∀ x ∈ out, x ∈ l
  up : ∀ y ∈ l, ∃ z ∈ out, leq6 (tk y) (tk z) = true
  anti : ∀ x ∈ out, ∀ z ∈ out, leq6 (tk x) (tk z) = true → x = z
theorem GrtI.step {n : Nat} {l out : List (List Int)} {m : List Int} (h : GrtI n l out) : GrtI n (l ++ [m]) (grt1 out m) := by
  unfold grt1
  split
  · rename_i ha
    obtain ⟨z, hz, hmz⟩ := List.any_eq_true.1 ha
    refine ⟨fun x hx => List.mem_append_left _ (h.sub x hx), fun y hy => ?_, h.anti⟩
    rcases List.mem_append.1 hy with hy | hy
    · exact h.up y hy
    · rw [List.mem_singleton.1 hy]; exact ⟨z, hz, hmz⟩
  · rename_i ha
    have hna : ∀ z ∈ out, leq6 (tk m) (tk z) = false := fun z hz => by
      cases hq : leq6 (tk m) (tk z) with
      | false => rfl
      | true => exact absurd (List.any_eq_true.2 ⟨z, hz, hq⟩) ha
    have hst : ∀ {x}, x ∈ stayL m out ↔ x ∈ out ∧ leq6 (tk x) (tk m) = false := fun {x} => by
      unfold stayL lessQ
      rw [List.mem_filter]; simp
    refine ⟨fun x hx => ?_, fun y hy => ?_, fun x hx z hz hxz => ?_⟩
    · rcases List.mem_append.1 hx with hx | hx
      · exact List.mem_append_left _ (h.sub x (hst.1 hx).1)
      · exact List.mem_append_right _ hx
    · rcases List.mem_append.1 hy with hy | hy
      · obtain ⟨z, hz, hyz⟩ := h.up y hy
        cases hq : leq6 (tk z) (tk m) with
        | false => exact ⟨z, List.mem_append_left _ (hst.2 ⟨hz, hq⟩), hyz⟩
        | true => exact ⟨m, List.mem_append_right _ (by simp), leq6_trans hyz hq⟩
      · rw [List.mem_singleton.1 hy]; exact ⟨m, List.mem_append_right _ (by simp), leq6_refl _⟩
    · rcases List.mem_append.1 hx with hx | hx <;> rcases List.mem_append.1 hz with hz | hz
      · exact h.anti x (hst.1 hx).1 z (hst.1 hz).1 hxz
      · rw [List.mem_singleton.1 hz] at hxz; rw [(hst.1 hx).2] at hxz; cases hxz
      · rw [List.mem_singleton.1 hx] at hxz; rw [hna z (hst.1 hz).1] at hxz; cases hxz
      · rw [List.mem_singleton.1 hx, List.mem_singleton.1 hz]
theorem grt_inv {n : Nat} : ∀ (l l0 out : List (List Int)), GrtI n l0 out → GrtI n (l0 ++ l) (l.foldl grt1 out)
  | [], l0, out, h => by simpa using h
  | m :: l, l0, out, h => by
    have := grt_inv l (l0 ++ [m]) (grt1 out m) h.step
    rwa [List.append_assoc] at this
/-- The greatest ones: those that are at most no other. -/
theorem grtL_iff {n : Nat} {ns : List (List Int)} (n6 : n ≤ 6) (hn : ∀ x ∈ ns, x.length = n) {x : List Int} : x ∈ grtL ns ↔ x ∈ ns ∧ topB ns x = true := by
  have h : GrtI n ns (grtL ns) := by
    have := grt_inv (n := n) ns [] [] ⟨by simp, by simp, by simp⟩
    unfold grtL
    simpa using this
  unfold topB
  rw [List.all_eq_true]
  constructor
  · intro hx
    refine ⟨h.sub x hx, fun y hy => ?_⟩
    cases hq : leq6 (tk x) (tk y) with
    | false => rfl
    | true =>
      obtain ⟨z, hz, hyz⟩ := h.up y hy
      have e := h.anti x hx z hz (leq6_trans hq hyz)
      subst e
      have := leq6_anti n6 (hn _ (h.sub _ hx)) (hn y hy) hq hyz
      simp [this]
  · rintro ⟨hx, ha⟩
    obtain ⟨z, hz, hxz⟩ := h.up x hx
    have := ha z (h.sub z hz)
    rw [hxz] at this
    have e : x = z := by simpa using this
    rw [e]; exact hz
theorem rtree55 {n : Nat} {a b c : DV} {pre post : List (List Int)} (hN : NetOk pre post n) (hp3 : ∀ r ∈ pre, ∀ x ∈ r, 0 ≤ x ∧ x ≤ 3) (hq3 : ∀ r ∈ post, ∀ x ∈ r, 0 ≤ x ∧ x ≤ 3) (ha : Mat a pre) (hb : Mat b post) : ∀ (f : Nat) {σ : List VObj} {cid L : Nat} {cs C : List DV} {dm : DV} {cap : Option Nat} {way W nodes : List (List Int)} {m : List Int}, σ[cid]? = some ⟨[.d (DI (nodes.length : Nat))], 0⟩ → nodes.length ≤ 2000 → 2001 ≤ f + nodes.length → way.length ≤ nodes.length → m.length = n → BdT way.length m → (∀ x ∈ way, x.length = n ∧ Bnd x) → C.length = L → W.length = L → (∀ (i : Nat) (c : DV) (x : List Int), C[i]? = some c → W[i]? = some x → Ints c x) → W = way ++ [m] → C = cs ++ [dm] →
    OwnCall Try.prog 55 σ [.d (.agg [a, b, c]), .d (.sl C L cap), .optr cid 0] (σ.set cid ⟨[.d (DI (k55 (growP (nxN pre post) pre.length f way nodes m)))], 0⟩) (.d (r55 dm nodes.length (growP (nxN pre post) pre.length f way nodes m)))
  | 0, _, _, _, _, _, _, _, _, _, _, _ => fun _ h1 h2 => absurd h2 (by omega)
  | f + 1, _, _, _, _, _, _, _, _, _, _, _ => rtree55_step hN hp3 hq3 ha hb (rtree55 hN hp3 hq3 ha hb f)
end Go.Proofs.Ytocgjopmlhpjdaa

