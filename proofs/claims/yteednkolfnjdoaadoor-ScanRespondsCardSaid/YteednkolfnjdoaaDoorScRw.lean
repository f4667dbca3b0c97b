import Derived.Test.YteednkolfnjdoaaDoorScRu
/-
  Controllers: the reference: the minimal machine, what its walk needs.
-/
namespace Go.Proofs.YteednkolfnjdoaaDoor
open Go.Vm Go.Sc
theorem stL_len {m : Nat} {nx ou : List (List Int)} (hv : VM m nx ou) : (stL m nx).length ≤ nx.length := nodup_le (found_I (m := m) hv.n1 (vmClo hv)).nd fun x hx => (stL_ok hv).1 x hx
theorem kept_len {m : Nat} {nf : Nat → Nat → Nat} {of : Nat → Nat → Int} {st ks : List Nat} {C : Nat → Nat} {n : Nat} (h : Kept m nf of st ks C) (hl : ∀ s ∈ st, s < n) : ks.length ≤ n := by
  refine nodup_le (List.pairwise_iff_getElem.2 fun i j hi hj hlt e => ?_) fun x hx => hl x (h.sub x hx)
  have := h.inj i j ks[i] ks[j] (List.getElem?_eq_getElem hi) (List.getElem?_eq_getElem hj) (by rw [e]; exact .refl _)
  omega
theorem fz_out {σ : List VObj} {a b j : Nat} (h1 : j ≠ a) (h2 : j ≠ b) : (freezeIds σ [a, b])[j]? = σ[j]? := by
  simp only [freezeIds, List.getElem?_mapIdx]
  cases σ[j]? with
  | none => rfl
  | some o => simp [h1, h2]
theorem fz_in {σ : List VObj} {a b j : Nat} {cs : List XV} (h : j = a ∨ j = b) (ho : σ[j]? = some ⟨cs, 0⟩) : (freezeIds σ [a, b])[j]? = some ⟨cs, 1⟩ := by
  simp only [freezeIds, List.getElem?_mapIdx, ho]
  rcases h with rfl | rfl <;> simp
theorem deepen_frz {σ : List VObj} {id n k : Nat} {cs : List DV} (h : σ[id]? = some ⟨cs.map .d, 1⟩) (hn : cs.length = n) : deepen σ (k + 2) (.osl id 0 n 1 n false) = some (.sl cs n none) := by
  rw [deepen_osl h rfl (by simp [hn]), List.drop_zero, Nat.mul_one, List.take_of_length_le (by simp [hn]), mapM_deep]; rfl
theorem sim_eq {fs gs : List (Nat × List Nat)} {n : Nat} (h : Sim (fun s t => s = t ∧ s < n) fs gs) : fs = gs := by
  refine List.ext_getElem h.1 fun i h1 h2 => ?_
  obtain ⟨a, b⟩ := h.2 i _ _ (List.getElem?_eq_getElem h1) (List.getElem?_eq_getElem h2)
  exact Prod.ext a.1 b
theorem bfs_congr {m n : Nat} {nx ny : Nat → Nat → Nat} (hcl : ∀ s i, s < n → i < m → nx s i < n) (he : ∀ s i, s < n → i < m → nx s i = ny s i) (h0 : 0 < n) : bfs nx m n 0 [(0, [])] = bfs ny m n 0 [(0, [])] := by
  refine sim_eq (n := n) (Sim.bfs (fun s t i h hi => ?_) (fun s t t' a b => a.1.symm.trans b.1) (fun s s' t a b => a.1.trans b.1.symm) _ _ _ _ ⟨rfl, fun j p q hp hq => ?_⟩)
  · obtain ⟨rfl, hs⟩ := h
    exact ⟨he s i hs hi, hcl s i hs hi⟩
  · cases j with
    | zero => simp at hp hq; subst hp hq; exact ⟨⟨rfl, h0⟩, rfl⟩
    | succ j => simp at hp
/-- The machine of the classes: all that is needed of it. -/
theorem clsM {m : Nat} {nx ou : List (List Int)} (hv : VM m nx ou) {C : Nat → Nat} (hK : Kept m (nxF nx) (ouF ou) (stL m nx) (kfL m nx ou) C) :
    numQ m (nxF nx) (kfL m nx ou) C = numQ m (nxF nx) (kfL m nx ou) (kcL m nx ou) ∧ V1 m (numQ m (nxF nx) (kfL m nx ou) (kcL m nx ou)) ∧
    bfs (nxF (numQ m (nxF nx) (kfL m nx ou) (kcL m nx ou))) m (numQ m (nxF nx) (kfL m nx ou) (kcL m nx ou)).length 0 [(0, [])] = gsL m nx ou ∧
    Go.Sc.Found (qx (nxF nx) (kfL m nx ou) (kcL m nx ou)) m 0 (gsL m nx ou) ∧ (∀ p ∈ gsL m nx ou, p.1 < (kfL m nx ou).length) ∧ (gsL m nx ou).length = (kfL m nx ou).length ∧
    (∀ c i, c < (kfL m nx ou).length → i < m → qx (nxF nx) (kfL m nx ou) (kcL m nx ou) c i < (kfL m nx ou).length) ∧
    numN (gsL m nx ou) (qx (nxF nx) (kfL m nx ou) (kcL m nx ou)) m = minN m nx.length (nxF nx) (ouF ou) ∧ numO (gsL m nx ou) (qo (ouF ou) (kfL m nx ou)) m = minO m nx.length (nxF nx) (ouF ou) := by
  obtain ⟨hSl, hS0, hScl, hSre⟩ := stL_ok hv
  have hK2 : Kept m (nxF nx) (ouF ou) (stL m nx) (kfL m nx ou) (kcL m nx ou) := hK.re
  obtain ⟨_, hk0⟩ := hK2.start hS0
  obtain ⟨hGF, hGl, hGn⟩ := hK2.all hScl hS0 hSre
  have hmin := hK2.min hScl hS0 hSre (vmClo hv) hv.n1
  have hclo := hK2.clo hScl
  have hKn := kept_len hK2 hSl
  have n16 := hv.n16
  have m8 := hv.a8
  refine ⟨?_, ⟨by omega, by rw [numQ_len]; omega, by rw [numQ_len]; omega, fun s hs => ?_, fun s i hs hi => ?_⟩, ?_, hGF, hGl, hGn, hclo, hmin.1, hmin.2⟩
  · unfold numQ
    refine List.map_congr_left fun s hs => List.map_congr_left fun i hi => ?_
    rw [hK.rows hScl hs (List.mem_range.1 hi)]; rfl
  · rw [numQ_len] at hs
    by_cases h0 : 0 < m
    · rw [(numQ_get hs h0).1]; simp
    · have := hv.a1; omega
  · rw [numQ_len] at hs ⊢
    rw [(numQ_get hs hi).1, (numQ_get hs hi).2]
    exact ⟨by simp [hi], hclo s i hs hi⟩
  · rw [numQ_len]
    refine (bfs_congr (n := (kfL m nx ou).length) hclo (fun s i hs hi => (numQ_get hs hi).2.symm) hk0).symm
def rowQ (m : Nat) (nx : Nat → Nat → Nat) (C : Nat → Nat) (s : Nat) : List Int := (List.range m).map fun i => ((C (nx s i) : Nat) : Int)
theorem build63_1 (x : Int) : opBuild Tryd.prog 63 [(0, .d (DI x))] = some (.d (.agg [DI x, Dnil, Dnil])) := by kernel_rfl
noncomputable def rowX (m : Nat) (nx ou : List (List Int)) (c : Nat) : List Int := (List.range m).map fun i => ((qx (nxF nx) (kfL m nx ou) (kcL m nx ou) c i : Nat) : Int)
noncomputable def rowG (m : Nat) (nx ou : List (List Int)) (c : Nat) : List Int := (List.range m).map fun i => ((idxF (gsL m nx ou) (qx (nxF nx) (kfL m nx ou) (kcL m nx ou) c i) : Nat) : Int)
theorem rowX_len {m : Nat} {nx ou : List (List Int)} {c : Nat} : (rowX m nx ou c).length = m := by simp [rowX]
end Go.Proofs.YteednkolfnjdoaaDoor

