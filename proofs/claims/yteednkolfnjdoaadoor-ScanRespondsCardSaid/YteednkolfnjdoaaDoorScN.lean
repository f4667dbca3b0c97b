import Derived.Test.YteednkolfnjdoaaDoorScL
import Derived.Test.YteednkolfnjdoaaDoorScI
import Derived.Test.YteednkolfnjdoaaDoorScZ
/-
  Controllers: the law on the minimal machine.
-/
namespace Go.Proofs.YteednkolfnjdoaaDoor
open Go.Vm Go.Sc
theorem mzR_cut {a : Int} {nx ou : List (List Int)} : mzR a (cutM nx) (cutM ou) = mzR a nx ou := by
  by_cases h : VM a nx ou
  · rw [(VM_cut h).1, (VM_cut h).2]
  · rw [mzR_no h, mzR_no fun h2 => h (vm_cut.1 h2)]
theorem Minimize_cut {a : Int} {nd od : DV} {nx ou : List (List Int)} (hn : Mat nd nx) (ho : Mat od ou) (_ : nx.length ≤ 9223372036854775807) (_ : ou.length ≤ 9223372036854775807) (_ : ∀ r ∈ nx, r.length ≤ 9223372036854775807) (_ : ∀ r ∈ ou, r.length ≤ 9223372036854775807) : DeepCall Tryd.prog 40 [.agg [DI a, rows18 nx nd, rows18 ou od]] (.tup [.agg (mzR a nx ou).1, DI (mzR a nx ou).2]) := by
  have h := Minimize40 (a := a) (rows18_mat hn) (rows18_mat ho) cutB.1 cutB.1 cutB.2 cutB.2
  rw [show (nx.take 18).map (List.take 10) = cutM nx from rfl, show (ou.take 18).map (List.take 10) = cutM ou from rfl, mzR_cut] at h
  exact h
theorem mz_form {a : Int} {nx ou : List (List Int)} : ∃ x d e k, mzR a nx ou = ([DI x, d, e], k) ∧ oneX (.d d) = true ∧ oneX (.d e) = true := by
  by_cases h : VM a nx ou
  · exact ⟨_, _, _, _, if_pos h, rfl, rfl⟩
  · exact ⟨_, _, _, _, mzR_no h, rfl, rfl⟩
section
variable {m : Nat} {nx ou : List (List Int)}
theorem vmClo (hv : VM m nx ou) : ∀ s i, s < nx.length → i < m → nxF nx s i < nx.length := fun s i a b => (hv.next a (by omega)).1
theorem vmMin (hv : VM m nx ou) : VM m (minN m nx.length (nxF nx) (ouF ou)) (minO m nx.length (nxF nx) (ouF ou)) := by
  have h8 := hv.a8
  have h1 := hv.a1
  exact min_vm (vmClo hv) (fun s i a b => ⟨(hv.out a (by omega)).1, (hv.out a (by omega)).2.1⟩) hv.n1 hv.n16 (by omega) (by omega)
theorem minO_len : (minO m nx.length (nxF nx) (ouF ou)).length = (minN m nx.length (nxF nx) (ouF ou)).length := by
  unfold minN minO; rw [numN_len, numO_len]
theorem vmRows (hv : VM m nx ou) : (∀ r ∈ nx, r.length ≤ 9223372036854775807) ∧ ∀ r ∈ ou, r.length ≤ 9223372036854775807 := by
  have h := VM_cut hv
  exact ⟨h.1 ▸ cutB.2, h.2 ▸ cutB.2⟩
end
section
variable {m : Nat} {nx ou nx2 ou2 : List (List Int)}
end
section
variable {P : Program} {σ : List VObj} {kn : Kn} {dst : Option Tmp} {ty : TypeId} {pos : String} {af : Array Edge} {g : Option (Nat × Bool)}
end
end Go.Proofs.YteednkolfnjdoaaDoor

