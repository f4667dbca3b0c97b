import Derived.Test.YtnfnjnaheckdbaaFlL
import Derived.Test.YtnfnjnaheckdbaaVmMa
/-
  Dataflow graphs: what Repeat and Schedule return for every graph.
-/
namespace Go.Proofs.Ytnfnjnaheckdbaa
open Go.Vm Go.Fl

def rpI (n : Int) (L : List LZ) : List Int := if (repA n L).2 = 0 then (List.range n.toNat).map fun i => ((repA n L).1 i : Int) else []
def rpD (n : Int) (L : List LZ) : DV := if (repA n L).2 = 0 then seqD (repA n L).1 n.toNat else Dnil
def scA (n : Int) (L : List LZ) : List Int × Int :=
  if (repA n L).2 = 0 then match first0 (L.map toN) n.toNat (repA n L).1 with | some s => (zs s, 0) | none => ([], 8) else ([], (repA n L).2)
theorem rpD_ints (n : Int) (L : List LZ) : Ints (rpD n L) (rpI n L) := by
  unfold rpD rpI
  split
  · exact seqD_ints _ _
  · exact .nil
theorem rpI_len (n : Int) (L : List LZ) : (rpI n L).length ≤ 9223372036854775807 := by
  unfold rpI
  split
  · rename_i h
    obtain ⟨N, Ln, q, h1, h2, hr⟩ := repG_of h
    have := hr.n6
    rw [List.length_map, List.length_range]; omega
  · simp
theorem scA_len (n : Int) (L : List LZ) : (scA n L).1.length ≤ 9223372036854775807 := by
  unfold scA
  split
  · rename_i h
    obtain ⟨N, Ln, q, h1, h2, hr⟩ := repG_of h
    subst h1 h2
    rw [toN_z, hr.r]
    simp only [Int.toNat_natCast]
    cases hf : first0 Ln N q with
    | none => simp
    | some s => have := greedy_len hr.n6 hf; have := hr.sum; simp only [zs, List.length_map]; omega
  · simp
theorem scA_err {n : Int} {L : List LZ} (h : (repA n L).2 = 0) : (scA n L).2 = 0 ∨ (scA n L).2 = 8 := by
  unfold scA
  rw [if_pos h]
  split
  · exact .inl rfl
  · exact .inr rfl
theorem repeat_any {d : DV} {n : Int} {L : List LZ} (hd : Lks d L) (hl : L.length ≤ 9223372036854775807) : DeepCall Try.prog 18 [.agg [DI n, d]] (.tup [rpD n L, DI (repA n L).2]) := by
  by_cases h : (repA n L).2 = 0
  · obtain ⟨N, Ln, q, h1, h2, hr⟩ := repG_of h
    subst h1 h2
    have := repeat18_ok hd hr
    unfold rpD
    rw [hr.r]
    exact this
  · have := repeat18_err hd hl h
    unfold rpD
    rw [if_neg h]
    exact this
theorem schedule_any {d : DV} {n : Int} {L : List LZ} (hd : Lks d L) (hl : L.length ≤ 9223372036854775807) : DeepCall Try.prog 23 [.agg [DI n, d]] (.tup [lsD (scA n L).1, DI (scA n L).2]) := by
  by_cases h : (repA n L).2 = 0
  · obtain ⟨N, Ln, q, h1, h2, hr⟩ := repG_of h
    subst h1 h2
    have e : scA (N : Int) (Ln.map LN.z) = match first0 Ln N q with | some s => (zs s, 0) | none => ([], 8) := by
      unfold scA; rw [if_pos h, toN_z, hr.r]; rfl
    rw [e]
    cases hf : first0 Ln N q with
    | none => exact schedule23 (scheduled48_no hd hr hf)
    | some s => exact schedule23 (scheduled48_ok hd hr hf)
  · have e : scA n L = ([], (repA n L).2) := by unfold scA; rw [if_neg h]
    rw [e]
    exact schedule23 (scheduled48_err hd hl h)
end Go.Proofs.Ytnfnjnaheckdbaa

