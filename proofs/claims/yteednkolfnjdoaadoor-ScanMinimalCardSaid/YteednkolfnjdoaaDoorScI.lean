import Derived.Test.YteednkolfnjdoaaDoorScH
import Derived.Test.YteednkolfnjdoaaDoorBaQ
/-
  Controllers: the law on the first parting word.
-/
namespace Go.Proofs.YteednkolfnjdoaaDoor
open Go.Vm Go.Sc
theorem apR_cut {a b : Int} {nx ou nx2 ou2 : List (List Int)} : apR a (cutM nx) (cutM ou) b (cutM nx2) (cutM ou2) = apR a nx ou b nx2 ou2 := by
  by_cases h : VM a nx ou ∧ VM b nx2 ou2 ∧ a = b
  · rw [(VM_cut h.1).1, (VM_cut h.1).2, (VM_cut h.2.1).1, (VM_cut h.2.1).2]
  · rw [apR_no h, apR_no fun h2 => h ⟨vm_cut.1 h2.1, vm_cut.1 h2.2.1, h2.2.2⟩]
theorem rspR_cut {a : Int} {nx ou : List (List Int)} {l : List Int} : rspR a (cutM nx) (cutM ou) l = rspR a nx ou l := by
  by_cases h : VM a nx ou ∧ wordB l 1000 a = true
  · rw [(VM_cut h.1).1, (VM_cut h.1).2]
  · rw [rspR_no h, rspR_no fun h2 => h ⟨vm_cut.1 h2.1, h2.2⟩]
theorem cutB {m : List (List Int)} : (cutM m).length ≤ 9223372036854775807 ∧ ∀ r ∈ cutM m, r.length ≤ 9223372036854775807 := ⟨by have := cut_len m; omega, fun r hr => by have := cut_row m r hr; omega⟩
theorem Apart_cut {a : Int} {nd od : DV} {nx ou : List (List Int)} (hn : Mat nd nx) (ho : Mat od ou) (_ : nx.length ≤ 9223372036854775807) (_ : ou.length ≤ 9223372036854775807) (_ : ∀ r ∈ nx, r.length ≤ 9223372036854775807) (_ : ∀ r ∈ ou, r.length ≤ 9223372036854775807) {b : Int} {nd2 od2 : DV} {nx2 ou2 : List (List Int)} (hn2 : Mat nd2 nx2) (ho2 : Mat od2 ou2) (_ : nx2.length ≤ 9223372036854775807) (_ : ou2.length ≤ 9223372036854775807) (_ : ∀ r ∈ nx2, r.length ≤ 9223372036854775807) (_ : ∀ r ∈ ou2, r.length ≤ 9223372036854775807) : DeepCall Tryd.prog 44 [.agg [DI a, rows18 nx nd, rows18 ou od], .agg [DI b, rows18 nx2 nd2, rows18 ou2 od2]] (.tup [wO (apR a nx ou b nx2 ou2).1, DI (apR a nx ou b nx2 ou2).2]) := by
  have h := Apart44 (a := a) (b := b) (rows18_mat hn) (rows18_mat ho) cutB.1 cutB.1 cutB.2 cutB.2 (rows18_mat hn2) (rows18_mat ho2) cutB.1 cutB.1 cutB.2 cutB.2
  rw [show (nx.take 18).map (List.take 10) = cutM nx from rfl, show (ou.take 18).map (List.take 10) = cutM ou from rfl, show (nx2.take 18).map (List.take 10) = cutM nx2 from rfl, show (ou2.take 18).map (List.take 10) = cutM ou2 from rfl, apR_cut] at h
  exact h
theorem Respond_cut {a : Int} {nd od : DV} {nx ou : List (List Int)} (hn : Mat nd nx) (ho : Mat od ou) (_ : nx.length ≤ 9223372036854775807) (_ : ou.length ≤ 9223372036854775807) (_ : ∀ r ∈ nx, r.length ≤ 9223372036854775807) (_ : ∀ r ∈ ou, r.length ≤ 9223372036854775807) {d : DV} {l : List Int} (hd : Ints d l) (hl : l.length ≤ 9223372036854775807) : DeepCall Tryd.prog 38 [.agg [DI a, rows18 nx nd, rows18 ou od], d] (.tup [rspD a nx ou l, DI (rspR a nx ou l).2]) := by
  have h := Respond38 (a := a) (rows18_mat hn) (rows18_mat ho) cutB.1 cutB.1 cutB.2 cutB.2 hd hl
  rw [show (nx.take 18).map (List.take 10) = cutM nx from rfl, show (ou.take 18).map (List.take 10) = cutM ou from rfl] at h
  unfold rspD at h ⊢
  rw [rspR_cut] at h
  exact h
theorem rspl_len {a : Int} {nx ou : List (List Int)} {l : List Int} : (rspR a nx ou l).1.length ≤ l.length := by
  by_cases h : VM a nx ou ∧ wordB l 1000 a = true
  · rw [rspR_yes h.1 h.2, respL_len, List.length_map]; exact Nat.le_refl _
  · rw [rspR_no h]; simp
theorem wZ_toNat (w : List Nat) : (wZ w).map Int.toNat = w := by
  unfold wZ; rw [List.map_map]
  conv => rhs; rw [← List.map_id w]
  exact List.map_congr_left fun x _ => by simp
theorem word_ok {m : Nat} {w : List Nat} (h : OkW m w) (hl : w.length ≤ 1000) : wordB (wZ w) 1000 m = true := wordB_iff.2 ⟨by rw [wZ_len]; omega, fun x hx => by
  obtain ⟨y, hy, rfl⟩ := List.mem_map.1 hx
  have := h y hy
  omega⟩
end Go.Proofs.YteednkolfnjdoaaDoor

