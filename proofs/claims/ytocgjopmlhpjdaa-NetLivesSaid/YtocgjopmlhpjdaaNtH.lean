import Derived.Test.YtocgjopmlhpjdaaNtG
/-
  Nets: word, Word of the program.
-/
namespace Go.Proofs.Ytocgjopmlhpjdaa
open Go.Vm Go.RowKit Go.Nt Go.Ht
theorem xplD_none {pre post : List (List Int)} {start : List Int} (hv : validB pre post start = true) (h : reachE (nxN pre post) pre.length 2000 start = none) : xplD pre post start = .tup [zsD, zgD, DI 3] := by unfold xplD; rw [if_pos hv, h]
theorem xplD_some {pre post : List (List Int)} {start : List Int} {fs : List Ent} (hv : validB pre post start = true) (h : reachE (nxN pre post) pre.length 2000 start = some fs) : xplD pre post start = .tup [sysD start.length pre post start, grD fs (nextN (nxN pre post) pre.length fs fs.length 0), DI 0] := by unfold xplD; rw [if_pos hv, h]
theorem done_of {pre post : List (List Int)} {start : List Int} {fs : List Ent} (hv : validB pre post start = true) (h : reachE (nxN pre post) pre.length 2000 start = some fs) : DoneE (nxN pre post) pre.length start.length 2000 start fs := by
  have hN := NetOk.of hv
  exact reach_spec (nxN_ok hN) (by have := hN.p6; omega) (by decide) rfl (start_bd hv) h
end Go.Proofs.Ytocgjopmlhpjdaa

