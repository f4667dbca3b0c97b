import Derived.Test.YteednkolfnjdoaaDoorScRs
import Derived.Test.YteednkolfnjdoaaDoorScZ
/-
  Controllers: the reference: the minimal machine.
-/
namespace Go.Proofs.YteednkolfnjdoaaDoor
open Go.Vm Go.Sc
theorem plainTryd_42 : plainFn Tryd.prog 42 = true := by kernel_rfl
theorem rng_set {n s c : Nat} {C : Nat → Nat} (_ : s < n) : ((List.range n).map fun s => XV.d (DI (C s : Nat))).set s (.d (DI (c : Nat))) = (List.range n).map fun t => XV.d (DI ((if t = s then c else C t : Nat) : Int)) := by
  refine List.ext_getElem (by simp) fun i h1 h2 => ?_
  rw [List.getElem_set]
  simp only [List.getElem_map, List.getElem_range]
  by_cases e : s = i
  · rw [if_pos e, if_pos e.symm]
  · rw [if_neg e, if_neg (Ne.symm e)]
/-- The rows of the machine of the classes. -/
def numQ (m : Nat) (nx : Nat → Nat → Nat) (K : List Nat) (C : Nat → Nat) : List (List Int) := K.map fun s => (List.range m).map fun i => ((C (nx s i) : Nat) : Int)
theorem numQ_len {m : Nat} {nx : Nat → Nat → Nat} {K : List Nat} {C : Nat → Nat} : (numQ m nx K C).length = K.length := by simp [numQ]
theorem numQ_get {m : Nat} {nx : Nat → Nat → Nat} {K : List Nat} {C : Nat → Nat} {c i : Nat} (hc : c < K.length) (hi : i < m) : (numQ m nx K C).getD c [] = (List.range m).map (fun i => ((qx nx K C c i : Nat) : Int)) ∧ nxF (numQ m nx K C) c i = qx nx K C c i := by
  have h : (numQ m nx K C).getD c [] = (List.range m).map (fun i => ((qx nx K C c i : Nat) : Int)) := by simp [numQ, hc, qx]
  refine ⟨h, ?_⟩
  unfold nxF; rw [h]; simp [hi]
theorem part_eqv {m : Nat} {nx ou : List (List Int)} {s t : Nat} : (partW m nx ou nx ou s t).isSome = false ↔ Eqv m (nxF nx) (ouF ou) s t := by
  constructor
  · intro h w i hw hi
    have hn : partW m nx ou nx ou s t = none := by cases hp : partW m nx ou nx ou s t with | none => rfl | some w => rw [hp] at h; cases h
    have g := congrArg (fun z => z.getD w.length 0) (part_none hn (hw.snoc hi))
    have hk : w.length < (w ++ [i]).length := by simp

    rw [← get_D (by rw [respL_len]; exact hk), ← get_D (by rw [respL_len]; exact hk), respL_get _ _ _ _ hk, respL_get _ _ _ _ hk] at g
    rw [show (w ++ [i]).take w.length = w by simp, show (w ++ [i]).getD w.length 0 = i by simp] at g
    exact g
  · intro h
    cases hp : partW m nx ou nx ou s t with
    | none => rfl
    | some w =>
      obtain ⟨u, i, hwu, hwok, hdif, _⟩ := resp_part hp
      exact absurd (h u i (fun j hj => hwok j (by rw [hwu]; exact List.mem_append.2 (.inl hj))) (hwok i (by rw [hwu]; simp))) hdif
theorem rng_zero (n : Nat) : List.replicate n (XV.d (.lit (.int .i64 0))) = (List.range n).map fun _ => XV.d (DI ((0 : Nat) : Int)) := by
  refine List.ext_getElem (by simp) fun i h1 h2 => by simp [DI]
noncomputable def stL (m : Nat) (nx : List (List Int)) : List Nat := (bfs (nxF nx) m nx.length 0 [(0, [])]).map Prod.fst
noncomputable def kfL (m : Nat) (nx ou : List (List Int)) : List Nat := keepK m (nxF nx) (ouF ou) (stL m nx)
noncomputable def kcL (m : Nat) (nx ou : List (List Int)) : Nat → Nat := keepC m (nxF nx) (ouF ou) (kfL m nx ou)
noncomputable def gsL (m : Nat) (nx ou : List (List Int)) : List (Nat × List Nat) := bfs (qx (nxF nx) (kfL m nx ou) (kcL m nx ou)) m (kfL m nx ou).length 0 [(0, [])]
noncomputable def outR (m : Nat) (nx ou : List (List Int)) (od : DV) : DV := .sl ((gsL m nx ou).map fun p => getV od ((kfL m nx ou).getD p.1 0)) (gsL m nx ou).length none
/-- The states that words lead to. -/
theorem stL_ok {m : Nat} {nx ou : List (List Int)} (hv : VM m nx ou) : (∀ s ∈ stL m nx, s < nx.length) ∧ (stL m nx)[0]? = some 0 ∧ (∀ s ∈ stL m nx, ∀ i, i < m → nxF nx s i ∈ stL m nx) ∧ ∀ s ∈ stL m nx, ∃ w, OkW m w ∧ runW (nxF nx) 0 w = s := by
  have hcl := vmClo hv
  have hF := found_I (m := m) hv.n1 hcl
  refine ⟨fun s hs => ?_, ?_, fun s hs i hi => ?_, fun s hs => ?_⟩
  · obtain ⟨p, hp, rfl⟩ := List.mem_map.1 hs
    obtain ⟨a, b⟩ := hF.run p hp
    rw [← a]; exact run_ok (Ok := (· < nx.length)) hcl p.2 0 hv.n1 b
  · unfold stL; rw [List.getElem?_map, hF.fst]; rfl
  · obtain ⟨p, hp, rfl⟩ := List.mem_map.1 hs
    obtain ⟨a, b⟩ := hF.run p hp
    obtain ⟨q, hq, e, _⟩ := hF.all _ (b.snoc hi)
    rw [runW_snoc, a] at e
    exact List.mem_map.2 ⟨q, hq, e⟩
  · obtain ⟨p, hp, rfl⟩ := List.mem_map.1 hs
    obtain ⟨a, b⟩ := hF.run p hp
    exact ⟨p.2, b, a⟩
theorem vmV1 {m : Nat} {nx ou : List (List Int)} (hv : VM m nx ou) : V1 m nx := by
  have := hv.a8; have := hv.n1; have := hv.n16
  refine ⟨by omega, by omega, by omega, fun s hs => ?_, fun s i hs hi => ⟨(hv.next hs (by omega)).2.1, (hv.next hs (by omega)).1⟩⟩
  have h1 := hv.a1
  have := (hv.next (i := 0) hs (by omega)).2.2
  omega
theorem vmV2 {m : Nat} {nx ou : List (List Int)} (hv : VM m nx ou) : V2 m nx ou := by
  have := hv.a8; have := hv.n16
  refine ⟨by omega, by omega, hv.oul, fun s hs => ?_, fun s i hs hi => ⟨(hv.next hs (by omega)).2.1, (hv.next hs (by omega)).1⟩⟩
  have h1 := hv.a1
  have h2 := (hv.next (i := 0) hs (by omega)).2.2
  have h3 := (hv.out (i := 0) hs (by omega)).2.2
  omega
end Go.Proofs.YteednkolfnjdoaaDoor

