import Derived.Test.YteednkolfnjdoaaDoorScA
import Derived.Test.YteednkolfnjdoaaDoorCyY
import Derived.Test.YteednkolfnjdoaaDoorScZ
/-
  Controllers: what a statement opens.
-/
namespace Go.Proofs.YteednkolfnjdoaaDoor
open Go.Vm Go.Sc

theorem open_i : Opn Tryd.prog 3 (One fun d => ∃ n, IsI d n) := (Opn.int Tryd.underlying3).mono fun _ ⟨d, e, n, hd, _⟩ => ⟨d, e, n, hd⟩
def IntsP (d : DV) : Prop := ∃ l, Ints d l ∧ l.length ≤ 9223372036854775807
theorem open_ints : Opn Tryd.prog 38 (One IntsP) := (Opn.slice Tryd.underlying38 (by kernel_rfl) open_i).mono fun ds ⟨d, e, h⟩ => ⟨d, e, VecP.vec h⟩
def MatP (d : DV) : Prop := ∃ m, Mat d m ∧ m.length ≤ 9223372036854775807 ∧ ∀ r ∈ m, r.length ≤ 9223372036854775807
theorem mat_of {d : DV} (h : VecP 1 (One IntsP) d) : MatP d := by
  obtain ⟨l, h1, h2⟩ := VecP.vec (R := fun d (l : List Int) => Ints d l ∧ l.length ≤ 9223372036854775807) h
  cases h1 with
  | nil => exact ⟨[], .nil, by simp, fun r hr => by cases hr⟩
  | @sl cs _ cap hn hh =>
    refine ⟨l, .sl hn fun i c x a b => (hh i c x a b).1, h2, fun r hr => ?_⟩
    obtain ⟨i, hi, rfl⟩ := List.getElem_of_mem hr
    exact (hh i cs[i] l[i] (List.getElem?_eq_getElem (by omega)) (List.getElem?_eq_getElem hi)).2
theorem open_mat : Opn Tryd.prog 56 (One MatP) := (Opn.slice Tryd.underlying56 (by kernel_rfl) open_ints).mono fun ds ⟨d, e, h⟩ => ⟨d, e, mat_of h⟩
def MachP (ds : List DV) : Prop := ∃ a nd od nx ou, ds = [DI a, nd, od] ∧ Mat nd nx ∧ Mat od ou ∧ (nx.length ≤ 9223372036854775807 ∧ ou.length ≤ 9223372036854775807) ∧ (∀ r ∈ nx, r.length ≤ 9223372036854775807) ∧ ∀ r ∈ ou, r.length ≤ 9223372036854775807
theorem open_mach : Opn Tryd.prog 63 MachP := by
  refine (Opn.struct Tryd.underlying63 [(1, (One fun d => ∃ n, IsI d n)), (1, One MatP), (1, One MatP)] (fun i => i) rfl rfl (by kernel_rfl) fun i f q hf hq => ?_).mono fun ds h => ?_
  · match i with
    | 0 => simp at hf hq; subst hf hq; exact ⟨rfl, by kernel_rfl, rfl, open_i⟩
    | 1 => simp at hf hq; subst hf hq; exact ⟨rfl, by kernel_rfl, rfl, open_mat⟩
    | 2 => simp at hf hq; subst hf hq; exact ⟨rfl, by kernel_rfl, rfl, open_mat⟩
    | i + 3 => simp at hf
  · obtain ⟨_, _, rfl, _, ⟨_, rfl, a, rfl⟩, _, _, rfl, _, ⟨nd, rfl, nx, h1, h2, h3⟩, _, _, rfl, _, ⟨od, rfl, ou, g1, g2, g3⟩, rfl⟩ := h
    exact ⟨a, nd, od, nx, ou, rfl, h1, g1, ⟨h2, g2⟩, h3, g3⟩
end Go.Proofs.YteednkolfnjdoaaDoor

