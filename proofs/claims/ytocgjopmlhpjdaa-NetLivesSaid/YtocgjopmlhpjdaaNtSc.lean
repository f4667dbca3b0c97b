import Derived.Test.YtocgjopmlhpjdaaNtSb
/-
  Nets: Reach, Dead of the program.
-/
namespace Go.Proofs.Ytocgjopmlhpjdaa
open Go.Vm Go.RowKit Go.Nt Go.Ht
/-- The graph of a net that has one. -/
def xOf (pre post : List (List Int)) (start : List Int) : Option (List Ent) := if validB pre post start then reachE (nxN pre post) pre.length 2000 start else none
def xE (pre post : List (List Int)) (start : List Int) : Int := if validB pre post start then (match reachE (nxN pre post) pre.length 2000 start with | none => 3 | some _ => 0) else 2
theorem xOf_yes {pre post : List (List Int)} {start : List Int} {fs : List Ent} (h : xOf pre post start = some fs) : validB pre post start = true ∧ reachE (nxN pre post) pre.length 2000 start = some fs ∧
    xplD pre post start = .tup [sysD start.length pre post start, grD fs (nextN (nxN pre post) pre.length fs fs.length 0), DI 0] ∧ xE pre post start = 0 := by
  unfold xOf at h
  by_cases hv : validB pre post start = true
  · rw [if_pos hv] at h
    exact ⟨hv, h, xplD_some hv h, by unfold xE; rw [if_pos hv, h]⟩
  · rw [if_neg hv] at h; cases h
theorem xOf_no {pre post : List (List Int)} {start : List Int} (h : xOf pre post start = none) : xplD pre post start = .tup [zsD, zgD, DI (xE pre post start)] ∧ (xE pre post start = 2 ∨ xE pre post start = 3) := by
  unfold xOf at h
  by_cases hv : validB pre post start = true
  · rw [if_pos hv] at h
    have e : xE pre post start = 3 := by unfold xE; rw [if_pos hv, h]
    exact ⟨by rw [xplD_none hv h, e], .inr e⟩
  · have e : xE pre post start = 2 := by unfold xE; rw [if_neg hv]
    exact ⟨by rw [e]; unfold xplD; rw [if_neg hv], .inl e⟩
/-- Nothing is enabled. -/
def stopB (pre post : List (List Int)) (m : List Int) : Bool := (enL (nxN pre post) m pre.length).isEmpty
end Go.Proofs.Ytocgjopmlhpjdaa

