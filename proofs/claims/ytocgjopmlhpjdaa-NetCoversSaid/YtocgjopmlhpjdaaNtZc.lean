import Derived.Test.YtocgjopmlhpjdaaNtZb
/-
  Nets: how the tree in memory changes.
-/
namespace Go.Proofs.Ytocgjopmlhpjdaa
open Go.Vm Go.RowKit Go.Nt
theorem KC.sig {P : Program} {M : Nat → Prop} {W0 : World} {n : Nat} {c : Code} {T : Exit → List VObj → Kn → Prop} {σ σ' : List VObj} {kn : Kn} (h : σ = σ') (hk : KC P M W0 n c σ' kn T) : KC P M W0 n c σ kn T := h ▸ hk
theorem treeC_set9 (n : Nat) (pre post : List (List Int)) (s : List Int) (xn xw x : XV) : (treeC n pre post s xn xw).set (0 + 9) x = treeC n pre post s x xw := rfl
theorem treeC_set10 (n : Nat) (pre post : List (List Int)) (s : List Int) (xn xw x : XV) : (treeC n pre post s xn xw).set (0 + 10) x = treeC n pre post s xn x := rfl
theorem treeC_len (n : Nat) (pre post : List (List Int)) (s : List Int) (xn xw : XV) : (treeC n pre post s xn xw).length = 11 := rfl
theorem treeC_sys (n : Nat) (pre post : List (List Int)) (s : List Int) (xn xw : XV) : aggX (((treeC n pre post s xn xw).drop 0).take 9) = .d (sysD n pre post s) := by
  have : ((treeC n pre post s xn xw).drop 0).take 9 = (sysC n pre post s).map .d := rfl
  rw [this, aggX_d]; rfl
section
variable {n : Nat} {pre post : List (List Int)} {s : List Int} {cid : Nat} {σ σ1 σ2 σ3 : List VObj} {xn xw xn2 xw2 : XV} {nodes way : List (List Int)} {m : List Int}
theorem TreM.app_nodes (h : TreM n pre post s cid σ xn xw nodes way) (hl : σ.length ≤ σ1.length) (h1 : ∀ j, j < σ.length → σ1[j]? = σ[j]?) (o2 : OwnK 6 σ2 xn2 ((flatW nodes).map XV.d ++ (w6 (tk m)).map .d)) (k2 : ∀ j, idX xn ≠ some j → j < σ1.length → σ2[j]? = σ1[j]?)
    (w2 : ∃ j, idX xn2 = some j ∧ σ1.length ≤ j) (l3 : σ3.length = σ2.length) (u3 : σ3[cid]? = some ⟨(treeC n pre post s xn xw).set (0 + 9) xn2, 0⟩) (v3 : ∀ j, j ≠ cid → σ3[j]? = σ2[j]?) :
    TreM n pre post s cid σ3 xn2 xw (nodes ++ [m]) way ∧ (∀ e, e < σ.length → OffT cid xn xw e → σ3[e]? = σ[e]? ∧ OffT cid xn2 xw e) ∧ σ.length ≤ σ3.length := by
  obtain ⟨j2, hj2, hl2⟩ := w2
  have hjl := o2.lt hj2
  have hc := obj_lt h.c
  have fr : ∀ e, e < σ.length → e ≠ cid → idX xn ≠ some e → σ3[e]? = σ[e]? := fun e he h2 h3 => (v3 e h2).trans ((k2 e h3 (by omega)).trans (h1 e he))
  have nw : ∀ e, e < σ.length → idX xn2 ≠ some e := fun e he h2 => by rw [hj2] at h2; cases h2; omega
  refine ⟨⟨by rw [treeC_set9] at u3; exact u3, ?_, fun e => by simp at e, h.ow.keep fun j hj => fr j (h.ow.lt hj) (fun e => h.cw (e ▸ hj)) (fun e => h.ap j e hj), fun j hj e => ?_, nw cid hc, h.cw⟩, fun e he ho => ⟨fr e he ho.1 ho.2.1, ho.1, nw e he, ho.2.2⟩, by omega⟩
  · rw [← flatW_snoc1] at o2
    exact o2.keep fun j hj => v3 j (fun e => nw cid hc (e ▸ hj))
  · exact nw j (h.ow.lt e) hj
theorem TreM.app_way (h : TreM n pre post s cid σ xn xw nodes way) (hl : σ.length ≤ σ1.length) (h1 : ∀ j, j < σ.length → σ1[j]? = σ[j]?) (o2 : Stk σ2 xw2 (way ++ [m])) (k2 : ∀ j, idX xw ≠ some j → j < σ1.length → σ2[j]? = σ1[j]?)
    (w2 : idX xw2 = idX xw ∨ ∃ j, idX xw2 = some j ∧ σ1.length ≤ j) (l2 : σ1.length ≤ σ2.length) (l3 : σ3.length = σ2.length) (u3 : σ3[cid]? = some ⟨(treeC n pre post s xn xw).set (0 + 10) xw2, 0⟩) (v3 : ∀ j, j ≠ cid → σ3[j]? = σ2[j]?) :
    TreM n pre post s cid σ3 xn xw2 nodes (way ++ [m]) ∧ (∀ e, e < σ.length → OffT cid xn xw e → σ3[e]? = σ[e]? ∧ OffT cid xn xw2 e) ∧ σ.length ≤ σ3.length := by
  have hc := obj_lt h.c
  have fr : ∀ e, e < σ.length → e ≠ cid → idX xw ≠ some e → σ3[e]? = σ[e]? := fun e he h2 h3 => (v3 e h2).trans ((k2 e h3 (by omega)).trans (h1 e he))
  have nw : ∀ e, e < σ.length → idX xw ≠ some e → idX xw2 ≠ some e := fun e he h3 h2 => by
    rcases w2 with w2 | ⟨j, w2, w3⟩
    · exact h3 (w2 ▸ h2)
    · rw [w2] at h2; cases h2; omega
  refine ⟨⟨by rw [treeC_set10] at u3; exact u3, h.on.keep fun j hj => fr j (h.on.lt hj) (fun e => h.cn (e ▸ hj)) (fun e => h.ap j hj e), h.nn, o2.keep fun j hj => v3 j (fun e => nw cid hc h.cw (e ▸ hj)), fun j hj e => nw j (h.on.lt hj) (h.ap j hj) e, h.cn, nw cid hc h.cw⟩,
    fun e he ho => ⟨fr e he ho.1 ho.2.2, ho.1, ho.2.1, nw e he ho.2.2⟩, by omega⟩
theorem TreM.pop {id lo : Nat} {rest : List XV} (h : TreM n pre post s cid σ xn (.osl id 0 (way ++ [m]).length 6 lo false) nodes (way ++ [m])) (ho : σ[id]? = some ⟨(flatW (way ++ [m])).map .d ++ rest, 0⟩) (hlo : (way ++ [m]).length * 6 + rest.length = lo * 6)
    (l3 : σ3.length = σ.length) (u3 : σ3[cid]? = some ⟨(treeC n pre post s xn (.osl id 0 (way ++ [m]).length 6 lo false)).set (0 + 10) (.osl id 0 way.length 6 lo false), 0⟩) (v3 : ∀ j, j ≠ cid → σ3[j]? = σ[j]?) :
    TreM n pre post s cid σ3 xn (.osl id 0 way.length 6 lo false) nodes way ∧ (∀ e, OffT cid xn (.osl id 0 (way ++ [m]).length 6 lo false) e → σ3[e]? = σ[e]? ∧ OffT cid xn (.osl id 0 way.length 6 lo false) e) := by
  refine ⟨⟨by rw [treeC_set10] at u3; exact u3, h.on.keep fun j hj => v3 j (fun e => h.cn (e ▸ hj)), h.nn, ?_, h.ap, h.cn, h.cw⟩, fun e ho => ⟨v3 e ho.1, ho⟩⟩
  rw [flatW_snoc1, List.append_assoc] at ho
  refine .sl ((v3 id (fun e => h.cw (by rw [e]; rfl))).trans ho) ?_
  rw [List.length_append] at hlo
  simp only [List.length_append, List.length_map, List.length_singleton] at hlo ⊢
  simp [w6]
  omega
end
theorem growP_nodes {nx : List Int → Nat → Option (List Int)} {T : Nat} : ∀ (f : Nat) (way nodes : List (List Int)) (m : List Int) (r : List (List Int)), growP nx T f way nodes m = some r → nodes.length < r.length ∧ ∃ l, r = nodes ++ [m] ++ l
  | 0, _, _, _, _, h => by simp [growP] at h
  | f + 1, way, nodes, m, r, h => by
    unfold growP at h
    split at h
    · cases h
    · split at h
      · cases h; exact ⟨by simp, [], by simp⟩
      · have key : ∀ (l : List (Nat × List Int)) (ns r : List (List Int)), l.foldlM (fun ns p => growP nx T f (way ++ [m]) ns (raiseL (way ++ [m]) p.2)) ns = some r → ∃ q, r = ns ++ q := by
          intro l
          induction l with
          | nil => intro ns r h; cases h; exact ⟨[], by simp⟩
          | cons p l ih =>
            intro ns r h
            rw [List.foldlM_cons] at h
            cases hg : growP nx T f (way ++ [m]) ns (raiseL (way ++ [m]) p.2) with
            | none => rw [hg] at h; cases h
            | some ns2 =>
              rw [hg] at h
              obtain ⟨q, rfl⟩ := ih ns2 r h
              obtain ⟨_, q2, rfl⟩ := growP_nodes f _ _ _ _ hg
              exact ⟨[raiseL (way ++ [m]) p.2] ++ q2 ++ q, by simp⟩
        obtain ⟨q, rfl⟩ := key _ _ _ h
        exact ⟨by simp, q, rfl⟩
end Go.Proofs.Ytocgjopmlhpjdaa

