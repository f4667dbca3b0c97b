import Derived.Test.YtocgjopmlhpjdaaNtSd
/-
  Nets: Reach, Dead of the reference.
-/
namespace Go.Proofs.Ytocgjopmlhpjdaa
open Go.Vm Go.RowKit Go.Nt Go.Ht
def sortP (l : List (DV × List Int)) : List (DV × List Int) := l.foldl putP []
theorem sortP_snd (l : List (DV × List Int)) : (sortP l).map (·.2) = sortM (l.map (·.2)) := by
  unfold sortP sortM
  have : ∀ (l acc : List (DV × List Int)), (l.foldl putP acc).map (·.2) = (l.map (·.2)).foldl putM (acc.map (·.2)) := by
    intro l
    induction l with
    | nil => intro acc; rfl
    | cons q l ih => intro acc; rw [List.foldl_cons, ih, putP_snd, List.map_cons, List.foldl_cons]
  exact this l []
theorem sortP_mem {l : List (DV × List Int)} {x : DV × List Int} (h : x ∈ sortP l) : x ∈ l := by
  have : ∀ (l acc : List (DV × List Int)), x ∈ l.foldl putP acc → x ∈ acc ∨ x ∈ l := by
    intro l
    induction l with
    | nil => intro acc h; exact .inl h
    | cons m l ih =>
      intro acc h
      rcases ih _ h with h | h
      · rcases putP_mem h with rfl | h
        · exact .inr List.mem_cons_self
        · exact .inl h
      · exact .inr (List.mem_cons_of_mem _ h)
  rcases this l [] h with h | h
  · simp at h
  · exact h
theorem putP_len : ∀ (l : List (DV × List Int)) (q : DV × List Int), (putP l q).length ≤ l.length + 1
  | [], q => by simp [putP]
  | x :: l, q => by
    rw [putP]
    have := putP_len l q
    split
    · simp; omega
    · split <;> simp
theorem sortP_len (l : List (DV × List Int)) : (sortP l).length ≤ l.length := by
  have : ∀ (l acc : List (DV × List Int)), (l.foldl putP acc).length ≤ acc.length + l.length := by
    intro l
    induction l with
    | nil => intro acc; simp
    | cons m l ih => intro acc; have h1 := ih (putP acc m); have h2 := putP_len acc m; simp only [List.foldl_cons, List.length_cons]; omega
  have := this l []
  simpa [sortP] using this
theorem fin_ownS {σ : List VObj} {x : XV} {ds : List DV} {k : Nat} (h : OwnK 1 σ x (ds.map .d)) (hn : ds = [] → x = .d Dnil) : deepen (freezeAll σ) (k + 2) x = some (slOf ds) := by
  by_cases h0 : ds = []
  · rw [hn h0, h0]; rfl
  · generalize hc : ds.map XV.d = cells at h
    cases h with
    | nil => exact absurd (List.map_eq_nil_iff.1 hc) h0
    | @sl id n _ hs hl =>
      subst hc
      rw [List.length_map] at hl
      rw [slOf_ne h0, deepen_cells (fz_get hs) rfl (by omega), show n = ds.length by omega]; rfl
end Go.Proofs.Ytocgjopmlhpjdaa

