import Derived.Test.YteednkolfnjdoaaDoorScH
import Derived.Test.YteednkolfnjdoaaDoorScZ
/-
  Controllers: the law on the first parting word.
-/
namespace Go.Proofs.YteednkolfnjdoaaDoor
open Go.Vm Go.Sc
theorem rspR_cut {a : Int} {nx ou : List (List Int)} {l : List Int} : rspR a (cutM nx) (cutM ou) l = rspR a nx ou l := by
  by_cases h : VM a nx ou ∧ wordB l 1000 a = true
  · rw [(VM_cut h.1).1, (VM_cut h.1).2]
  · rw [rspR_no h, rspR_no fun h2 => h ⟨vm_cut.1 h2.1, h2.2⟩]
theorem cutB {m : List (List Int)} : (cutM m).length ≤ 9223372036854775807 ∧ ∀ r ∈ cutM m, r.length ≤ 9223372036854775807 := ⟨by have := cut_len m; omega, fun r hr => by have := cut_row m r hr; omega⟩
theorem Respond_cut {a : Int} {nd od : DV} {nx ou : List (List Int)} (hn : Mat nd nx) (ho : Mat od ou) (_ : nx.length ≤ 9223372036854775807) (_ : ou.length ≤ 9223372036854775807) (_ : ∀ r ∈ nx, r.length ≤ 9223372036854775807) (_ : ∀ r ∈ ou, r.length ≤ 9223372036854775807) {d : DV} {l : List Int} (hd : Ints d l) (hl : l.length ≤ 9223372036854775807) : DeepCall Tryd.prog 38 [.agg [DI a, rows18 nx nd, rows18 ou od], d] (.tup [rspD a nx ou l, DI (rspR a nx ou l).2]) := by
  have h := Respond38 (a := a) (rows18_mat hn) (rows18_mat ho) cutB.1 cutB.1 cutB.2 cutB.2 hd hl
  rw [show (nx.take 18).map (List.take 10) = cutM nx from rfl, show (ou.take 18).map (List.take 10) = cutM ou from rfl] at h
  unfold rspD at h ⊢
  rw [rspR_cut] at h
  exact h
end Go.Proofs.YteednkolfnjdoaaDoor

