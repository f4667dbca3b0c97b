import Derived.Test.YtocgjopmlhpjdaaNtZg
import Derived.Test.YtocgjopmlhpjdaaNtSc
import Derived.Test.YtocgjopmlhpjdaaNtH
/-
  Nets: Cover, Covers of the program.
-/
namespace Go.Proofs.Ytocgjopmlhpjdaa
open Go.Vm Go.RowKit Go.Nt Go.Ht
theorem plainTry_24 : plainFn Try.prog 24 = true := by kernel_rfl
theorem plainTry_26 : plainFn Try.prog 26 = true := by kernel_rfl
/-- What holds of all nodes of the tree: with the way to them. -/
theorem growP_all {nx : List Int → Nat → Option (List Int)} {T : Nat} (Q : List (List Int) → List Int → Prop) (hQ : ∀ way m t m', Q way m → t < T → nx m t = some m' → Q (way ++ [m]) (raiseL (way ++ [m]) m')) :
    ∀ (f : Nat) (way nodes : List (List Int)) (m : List Int) (r : List (List Int)), growP nx T f way nodes m = some r → Q way m → ∀ x ∈ r, x ∈ nodes ∨ ∃ w, Q w x
  | 0, _, _, _, _, h, _ => by simp [growP] at h
  | f + 1, way, nodes, m, r, h, hq => by
    unfold growP at h
    split at h
    · cases h
    · split at h
      · cases h
        intro x hx
        rcases List.mem_append.1 hx with hx | hx
        · exact .inl hx
        · rw [List.mem_singleton.1 hx]; exact .inr ⟨_, hq⟩
      · have key : ∀ (l : List (Nat × List Int)) (ns r : List (List Int)), (∀ p ∈ l, p.1 < T ∧ nx m p.1 = some p.2) → l.foldlM (fun ns p => growP nx T f (way ++ [m]) ns (raiseL (way ++ [m]) p.2)) ns = some r → ∀ x ∈ r, x ∈ ns ∨ ∃ w, Q w x := by
          intro l
          induction l with
          | nil => intro ns r _ h x hx; cases h; exact .inl hx
          | cons p l ih =>
            intro ns r hl h
            rw [List.foldlM_cons] at h
            cases hg : growP nx T f (way ++ [m]) ns (raiseL (way ++ [m]) p.2) with
            | none => rw [hg] at h; cases h
            | some ns2 =>
              rw [hg] at h
              intro x hx
              have hp := hl p (by simp)
              rcases ih ns2 r (fun p hp => hl p (by simp [hp])) h x hx with h2 | h2
              · exact growP_all Q hQ f _ _ _ _ hg (hQ way m p.1 p.2 hq hp.1 hp.2) x h2
              · exact .inr h2
        intro x hx
        rcases key _ _ _ (fun p hp => enL_mem.1 hp) h x hx with h2 | h2
        · rcases List.mem_append.1 h2 with h3 | h3
          · exact .inl h3
          · rw [List.mem_singleton.1 h3]; exact .inr ⟨_, hq⟩
        · exact .inr h2
theorem leq6_refl (X : Nat → Int) : leq6 X X = true := by unfold leq6; simp
theorem grt_mem : ∀ (ns out : List (List Int)), ∀ x ∈ ns.foldl grt1 out, x ∈ out ∨ x ∈ ns
  | [], _, x, h => .inl h
  | m :: ns, out, x, h => by
    rcases grt_mem ns (grt1 out m) x h with h2 | h2
    · unfold grt1 at h2
      split at h2
      · exact .inl h2
      · rcases List.mem_append.1 h2 with h3 | h3
        · exact .inl (List.mem_filter.1 h3).1
        · exact .inr (by rw [List.mem_singleton.1 h3]; simp)
    · exact .inr (by simp [h2])
theorem grt_nodup : ∀ (ns out : List (List Int)), out.Nodup → (ns.foldl grt1 out).Nodup
  | [], _, h => h
  | m :: ns, out, h => by
    refine grt_nodup ns (grt1 out m) ?_
    unfold grt1
    split
    · exact h
    · rename_i hn
      refine List.nodup_append.2 ⟨h.filter _, by simp, fun a ha b hb => ?_⟩
      rw [List.mem_singleton.1 hb]
      rintro rfl
      exact hn (List.any_eq_true.2 ⟨_, (List.mem_filter.1 ha).1, leq6_refl _⟩)
def covO (pre post : List (List Int)) (start : List Int) : Option (List (List Int)) := if validB pre post start then covT pre post start else none
def covE (pre post : List (List Int)) (start : List Int) : Int := if validB pre post start then (match covT pre post start with | none => 3 | some _ => 0) else 2
theorem covO_yes {pre post : List (List Int)} {start : List Int} {ns : List (List Int)} (h : covO pre post start = some ns) : validB pre post start = true ∧ covT pre post start = some ns ∧
    cvrD pre post start = .tup [sysD start.length pre post start, flV (fun m => w6 (tk m)) (grtL ns), DI 0] ∧ covE pre post start = 0 := by
  unfold covO at h
  by_cases hv : validB pre post start = true
  · rw [if_pos hv] at h
    exact ⟨hv, h, by unfold cvrD; rw [if_pos hv, h], by unfold covE; rw [if_pos hv, h]⟩
  · rw [if_neg hv] at h; cases h
theorem covO_no {pre post : List (List Int)} {start : List Int} (h : covO pre post start = none) : cvrD pre post start = .tup [zsD, Dnil, DI (covE pre post start)] ∧ (covE pre post start = 2 ∨ covE pre post start = 3) := by
  unfold covO at h
  by_cases hv : validB pre post start = true
  · rw [if_pos hv] at h
    have e : covE pre post start = 3 := by unfold covE; rw [if_pos hv, h]
    exact ⟨by rw [e]; unfold cvrD; rw [if_pos hv, h], .inr e⟩
  · have e : covE pre post start = 2 := by unfold covE; rw [if_neg hv]
    exact ⟨by rw [e]; unfold cvrD; rw [if_neg hv], .inl e⟩
/-- All nodes: as many numbers as places, none too large. -/
theorem cov_nodes {pre post : List (List Int)} {start : List Int} {ns : List (List Int)} (hv : validB pre post start = true) (h : covT pre post start = some ns) : ∀ x ∈ ns, x.length = start.length := fun x hx => by
  have := growP_all (fun _ m => m.length = start.length) (fun way m t m' hq _ hn => by rw [raiseL_len, nxN_len hn]; exact hq) 2001 [] [] start ns h rfl x hx
  rcases this with h | ⟨_, h⟩
  · simp at h
  · exact h
theorem growP_le {nx : List Int → Nat → Option (List Int)} {T : Nat} : ∀ (f : Nat) (way nodes : List (List Int)) (m : List Int) (r : List (List Int)), nodes.length ≤ 2000 → growP nx T f way nodes m = some r → r.length ≤ 2000
  | 0, _, _, _, _, _, h => by simp [growP] at h
  | f + 1, way, nodes, m, r, hl, h => by
    unfold growP at h
    split at h
    · cases h
    · split at h
      · cases h; rw [List.length_append, List.length_singleton]; omega
      · have key : ∀ (l : List (Nat × List Int)) (ns r : List (List Int)), ns.length ≤ 2000 → l.foldlM (fun ns p => growP nx T f (way ++ [m]) ns (raiseL (way ++ [m]) p.2)) ns = some r → r.length ≤ 2000 := by
          intro l
          induction l with
          | nil => intro ns r hl h; cases h; exact hl
          | cons p l ih =>
            intro ns r hl h
            rw [List.foldlM_cons] at h
            cases hg : growP nx T f (way ++ [m]) ns (raiseL (way ++ [m]) p.2) with
            | none => rw [hg] at h; cases h
            | some ns2 => rw [hg] at h; exact ih ns2 r (growP_le f _ _ _ _ hl hg) h
        exact key _ _ _ (by rw [List.length_append, List.length_singleton]; omega) h
theorem cov_grt {pre post : List (List Int)} {start : List Int} {ns : List (List Int)} (hv : validB pre post start = true) (h : covT pre post start = some ns) : ns.length ≤ 2000 ∧ (∀ x ∈ grtL ns, x.length = start.length) ∧ (grtL ns).Nodup ∧ (grtL ns).length ≤ 2000 := by
  have hl : ns.length ≤ 2000 := growP_le _ _ _ _ _ (by simp) h
  refine ⟨hl, fun x hx => ?_, grt_nodup _ _ (by simp), ?_⟩
  · rcases grt_mem ns [] x hx with h2 | h2
    · simp at h2
    · exact cov_nodes hv h x h2
  · have := grtL_len (nodes := ns) ns.length (Nat.le_refl _)
    rw [List.take_of_length_le (Nat.le_refl _)] at this; omega
theorem covE_3 {pre post : List (List Int)} {start : List Int} (hv : validB pre post start = true) (h : covO pre post start = none) : covE pre post start = 3 := by
  unfold covO at h
  rw [if_pos hv] at h
  unfold covE
  rw [if_pos hv, h]
/-- What Cover returns. -/
def cvD (pre post : List (List Int)) (start : List Int) : DV := .tup [match covO pre post start with | none => Dnil | some ns => risV (grtL ns), DI (covE pre post start)]
/-- What Covers returns. -/
def cvsD (pre post : List (List Int)) (start m : List Int) : DV :=
  if validB pre post start && fitsB m start.length 1073741824 then
    match covT pre post start with
    | none => .tup [DB false, DI 3]
    | some ns => .tup [DB ((grtL ns).any fun y => leq6 (tk m) (tk y)), DI 0]
  else .tup [DB false, DI 2]
theorem cvsD_bad {pre post : List (List Int)} {start m : List Int} (h : ¬ (validB pre post start = true ∧ fitsB m start.length 1073741824 = true)) : cvsD pre post start m = .tup [DB false, DI 2] := by
  unfold cvsD; rw [if_neg (by simpa using h)]
set_option maxHeartbeats 4000000 in
set_option maxRecDepth 10000 in
theorem Cover24 {a b c : DV} {pre post : List (List Int)} {start : List Int} (h : NetD a b c pre post start) : DeepCall Try.prog 24 [.agg [a, b, c]] (cvD pre post start) := by
  have hN0 := h
  obtain ⟨ha, hb, hc, l1, l2, l3, r1, r2⟩ := h
  refine deepCall_K 9 Try.func24 rfl (Nat.le_of_ble_eq_true rfl) fun M W0 => ?_
  refine KC.seq ?_
  refine KC.region ?_
  refine KT.step rfl rfl (K.box rfl) ?_
  refine KT.step rfl rfl (K.assign rfl) ?_
  refine KT.step rfl rfl (K.assign rfl) ?_
  refine KT.nil ?_
  refine thenK_n ?_
  refine KC.seq ?_
  refine KC.region ?_
  refine KT.step rfl rfl (K.loadOAgg (m := 3) rfl rfl (by simp) Try.agg32 Try.size32 (by simp [cellsX])) ?_
  rcases hxo : covO pre post start with _ | ns
  · skip
    refine KT.step rfl rfl (K.call1 rfl plainTry_54 (covered54 hN0)) ?_
    obtain ⟨hxp, hxe⟩ := covO_no hxo
    rw [hxp]
    refine KT.step rfl rfl (K.move rfl) ?_
    refine KT.step rfl rfl (K.extract rfl rfl) ?_
    refine KT.step rfl rfl (K.extract rfl rfl) ?_
    refine KT.step rfl rfl (K.extract rfl rfl) ?_
    refine KT.step rfl rfl (K.alloc Try.zero66) ?_
    refine KT.putAll (cs := ((DI 0 :: Dnil :: Dnil :: w6 fun _ => 0).map .d)) rfl rfl rfl rfl rfl rfl (by simp [zg, w6, sysC, Value.cells]) (by simp [w6, oneX, Value.oneCell']) Try.size66 ?_
    refine KT.step rfl rfl (K.assign rfl) ?_
    refine KT.step rfl rfl (K.assign rfl) ?_
    refine KT.nil ?_
    refine thenK_n ?_
    refine KC.seq ?_
    refine KC.seq ?_
    refine KC.region ?_
    refine KT.step rfl rfl (K.move rfl) ?_
    refine KT.step rfl rfl (K.neq rfl rfl) ?_
    refine KT.nil ?_
    refine thenK_n ?_
    refine KC.cond rfl (fun hc14 => ?_) (fun hc14 => ?_)
    · skip
      refine KC.seq ?_
      refine KC.region ?_
      refine KT.step rfl rfl (K.move rfl) ?_
      refine KT.step rfl rfl (K.assign rfl) ?_
      refine KT.step rfl rfl (K.assign rfl) ?_
      refine KT.nil ?_
      refine thenK_n ?_
      refine KC.ret ?_
      refine thenK_r ?_
      refine ⟨.inl rfl, _, rfl, ?_⟩
      unfold cvD
      rw [hxo]; rfl
    · skip
      exact absurd (of_decide_eq_false hc14) (by rcases hxe with h | h <;> rw [h] <;> decide)
  · skip
    refine KT.step rfl rfl (K.call1 rfl plainTry_54 (covered54 hN0)) ?_
    obtain ⟨hv, hre, hxp, hxe⟩ := covO_yes hxo
    rw [hxp]
    obtain ⟨c1, c2, c3, c4⟩ := cov_grt hv hre
    have hN := NetOk.of hv
    have hn0 := hN.n0
    have hn6 := hN.n6
    refine KT.step rfl rfl (K.move rfl) ?_
    refine KT.step rfl rfl (K.extract rfl rfl) ?_
    refine KT.step rfl rfl (K.extract rfl rfl) ?_
    refine KT.step rfl rfl (K.extract rfl rfl) ?_
    refine KT.step rfl rfl (K.alloc Try.zero66) ?_
    refine KT.putAll (cs := ((sysC start.length pre post start).map .d)) rfl rfl rfl rfl rfl rfl (by simp [zg, w6, sysC, Value.cells]) (by simp [sysC, w6, oneX, Value.oneCell']) Try.size66 ?_
    refine KT.step rfl rfl (K.assign rfl) ?_
    refine KT.step rfl rfl (K.assign rfl) ?_
    refine KT.nil ?_
    refine thenK_n ?_
    refine KC.seq ?_
    refine KC.seq ?_
    refine KC.region ?_
    refine KT.step rfl rfl (K.move rfl) ?_
    refine KT.step rfl rfl (K.neq rfl rfl) ?_
    refine KT.nil ?_
    refine thenK_n ?_
    refine KC.cond rfl (fun hc14 => ?_) (fun hc14 => ?_)
    · skip
      exact absurd (of_decide_eq_true hc14) (by decide)
    · skip
      refine KC.skip ?_
      refine thenK_n ?_
      refine KC.seq ?_
      refine KC.region ?_
      refine KT.step rfl rfl (K.loadOA (sysC start.length pre post start) rfl rfl (by decide) Try.agg66 Try.size66 rfl) ?_
      refine KT.step rfl rfl (K.move rfl) ?_
      refine KT.step rfl rfl (K.call2 rfl rfl plainTry_41 (rising41 hn0 hn6 c2 c3 (by omega))) ?_
      refine KT.step rfl rfl (K.assign rfl) ?_
      refine KT.step rfl rfl (K.assign rfl) ?_
      refine KT.nil ?_
      refine thenK_n ?_
      refine KC.ret ?_
      refine ⟨.inl rfl, _, rfl, ?_⟩
      unfold cvD
      rw [hxo, hxe]; rfl
set_option maxHeartbeats 4000000 in
set_option maxRecDepth 10000 in
theorem Covers26 {a b c d : DV} {pre post : List (List Int)} {start m : List Int} (h : NetD a b c pre post start) (hd : Ints d m) (hl : m.length ≤ 9223372036854775807) : DeepCall Try.prog 26 [.agg [a, b, c], d] (cvsD pre post start m) := by
  have hN0 := h
  obtain ⟨ha, hb, hc, l1, l2, l3, r1, r2⟩ := h
  refine deepCall_K 9 Try.func26 rfl (Nat.le_of_ble_eq_true rfl) fun M W0 => ?_
  refine KC.seq ?_
  refine KC.region ?_
  refine KT.step rfl rfl (K.box rfl) ?_
  refine KT.step rfl rfl (K.assign rfl) ?_
  refine KT.step rfl rfl (K.assign rfl) ?_
  refine KT.nil ?_
  refine thenK_n ?_
  refine KC.seq ?_
  refine KC.seq ?_
  refine KC.region ?_
  refine KT.step rfl rfl (K.loadOAgg (m := 3) rfl rfl (by simp) Try.agg32 Try.size32 (by simp [cellsX])) ?_
  refine KT.step rfl rfl (K.call1 rfl plainTry_48 (valid48 hN0)) ?_
  refine KT.step rfl rfl (K.not rfl) ?_
  refine KT.step rfl rfl (K.move rfl) ?_
  refine KT.bcase (fun hb12 => ?_) (fun hb12 => ?_)
  · skip
    refine KT.skip rfl rfl ?_
    refine KT.skip rfl rfl ?_
    refine KT.skip rfl rfl ?_
    refine KT.skip rfl rfl ?_
    refine KT.skip rfl rfl ?_
    refine KT.skip rfl rfl ?_
    refine KT.step rfl rfl (K.pick rfl (fun _ => rfl) (fun h => by cases h)) ?_
    refine KT.nil ?_
    refine thenK_n ?_
    refine KC.cond rfl (fun hc19 => ?_) (fun hc19 => ?_)
    · skip
      refine KC.seq ?_
      refine KC.region ?_
      refine KT.step rfl rfl (K.assign rfl) ?_
      refine KT.step rfl rfl (K.assign rfl) ?_
      refine KT.nil ?_
      refine thenK_n ?_
      refine KC.ret ?_
      refine thenK_r ?_
      refine ⟨.inl rfl, _, rfl, ?_⟩
      rw [cvsD_bad (by intro h; have h1 := h.1; rw [h1] at hb12; simp at hb12)]; rfl
    · cases hc19
  · skip
    refine KT.step rfl rfl (K.move rfl) ?_
    refine KT.step rfl rfl (K.fieldAddrO rfl Try.fld32_2 Try.size30) ?_
    refine KT.step rfl rfl (K.loadO rfl rfl (by simp) rfl Try.agg30) ?_
    refine KT.step rfl rfl (K.len rfl hc Try.underlying23) ?_
    refine KT.step rfl rfl (K.call3 rfl rfl rfl plainTry_49 (fits49 hd hl)) ?_
    refine KT.step rfl rfl (K.not rfl) ?_
    refine KT.step rfl rfl (K.pick rfl (fun h => by cases h) (fun _ => rfl)) ?_
    refine KT.nil ?_
    refine thenK_n ?_
    refine KC.cond rfl (fun hc19 => ?_) (fun hc19 => ?_)
    · skip
      refine KC.seq ?_
      refine KC.region ?_
      refine KT.step rfl rfl (K.assign rfl) ?_
      refine KT.step rfl rfl (K.assign rfl) ?_
      refine KT.nil ?_
      refine thenK_n ?_
      refine KC.ret ?_
      refine thenK_r ?_
      refine ⟨.inl rfl, _, rfl, ?_⟩
      rw [cvsD_bad (by intro h; have h1 := h.2; rw [h1] at hc19; simp at hc19)]; rfl
    · skip
      have hv : validB pre post start = true := by simpa using hb12
      have hf : fitsB m start.length 1073741824 = true := by simpa using hc19
      have hN := NetOk.of hv
      have hn0 := hN.n0
      have hn6 := hN.n6
      have hfl : m.length = start.length := fitsB_len hf
      refine KC.skip ?_
      refine thenK_n ?_
      refine KC.seq ?_
      refine KC.region ?_
      refine KT.step rfl rfl (K.loadOAgg (m := 3) rfl rfl (by simp) Try.agg32 Try.size32 (by simp [cellsX])) ?_
      rcases hxo : covO pre post start with _ | ns
      · skip
        refine KT.step rfl rfl (K.call1 rfl plainTry_54 (covered54 hN0)) ?_
        obtain ⟨hxp, hxe⟩ := covO_no hxo
        have hxe := covE_3 hv hxo
        rw [hxp]
        refine KT.step rfl rfl (K.move rfl) ?_
        refine KT.step rfl rfl (K.extract rfl rfl) ?_
        refine KT.step rfl rfl (K.extract rfl rfl) ?_
        refine KT.step rfl rfl (K.extract rfl rfl) ?_
        refine KT.step rfl rfl (K.alloc Try.zero66) ?_
        refine KT.putAll (cs := ((DI 0 :: Dnil :: Dnil :: w6 fun _ => 0).map .d)) rfl rfl rfl rfl rfl rfl (by simp [zg, w6, sysC, Value.cells]) (by simp [w6, oneX, Value.oneCell']) Try.size66 ?_
        refine KT.step rfl rfl (K.assign rfl) ?_
        refine KT.step rfl rfl (K.assign rfl) ?_
        refine KT.nil ?_
        refine thenK_n ?_
        refine KC.seq ?_
        refine KC.seq ?_
        refine KC.region ?_
        refine KT.step rfl rfl (K.move rfl) ?_
        refine KT.step rfl rfl (K.neq rfl rfl) ?_
        refine KT.nil ?_
        refine thenK_n ?_
        refine KC.cond rfl (fun hc27 => ?_) (fun hc27 => ?_)
        · skip
          refine KC.seq ?_
          refine KC.region ?_
          refine KT.step rfl rfl (K.move rfl) ?_
          refine KT.step rfl rfl (K.assign rfl) ?_
          refine KT.step rfl rfl (K.assign rfl) ?_
          refine KT.nil ?_
          refine thenK_n ?_
          refine KC.ret ?_
          refine thenK_r ?_
          refine ⟨.inl rfl, _, rfl, ?_⟩
          unfold cvsD
          rw [hv, hf, show covT pre post start = none from by unfold covO at hxo; rwa [if_pos hv] at hxo, show covE pre post start = 3 from hxe]; rfl
        · skip
          exact absurd (of_decide_eq_false hc27) (by rw [hxe]; decide)
      · skip
        refine KT.step rfl rfl (K.call1 rfl plainTry_54 (covered54 hN0)) ?_
        obtain ⟨hv, hre, hxp, hxe⟩ := covO_yes hxo
        rw [hxp]
        obtain ⟨c1, c2, c3, c4⟩ := cov_grt hv hre
        refine KT.step rfl rfl (K.move rfl) ?_
        refine KT.step rfl rfl (K.extract rfl rfl) ?_
        refine KT.step rfl rfl (K.extract rfl rfl) ?_
        refine KT.step rfl rfl (K.extract rfl rfl) ?_
        refine KT.step rfl rfl (K.alloc Try.zero66) ?_
        refine KT.putAll (cs := ((sysC start.length pre post start).map .d)) rfl rfl rfl rfl rfl rfl (by simp [zg, w6, sysC, Value.cells]) (by simp [sysC, w6, oneX, Value.oneCell']) Try.size66 ?_
        refine KT.step rfl rfl (K.assign rfl) ?_
        refine KT.step rfl rfl (K.assign rfl) ?_
        refine KT.nil ?_
        refine thenK_n ?_
        refine KC.seq ?_
        refine KC.seq ?_
        refine KC.region ?_
        refine KT.step rfl rfl (K.move rfl) ?_
        refine KT.step rfl rfl (K.neq rfl rfl) ?_
        refine KT.nil ?_
        refine thenK_n ?_
        refine KC.cond rfl (fun hc27 => ?_) (fun hc27 => ?_)
        · skip
          exact absurd (of_decide_eq_true hc27) (by decide)
        · skip
          refine KC.skip ?_
          refine thenK_n ?_
          refine KC.seq ?_
          refine KC.region ?_
          refine KT.step rfl rfl (K.move rfl) ?_
          refine KT.step rfl rfl (K.move rfl) ?_
          refine KT.step rfl rfl (K.call1 rfl plainTry_50 (tokensOf50 hd (by omega) (by omega))) ?_
          refine KT.step rfl rfl (K.makeFF (m := 0) rfl rfl rfl rfl) ?_
          refine KT.step rfl rfl (K.callO (xs := [.d (flV (fun m => w6 (tk m)) (grtL ns)), .fn (.func 58) [.d (.agg (w6 (tk m)))] []]) rfl plainTry_57 (ownCall_of_deep [] 3 (dargs := [flV (fun m => w6 (tk m)) (grtL ns), .fn (.func 58) [.agg (w6 (tk m))] []]) rfl (containsFunc57 (fs := [.agg (w6 (tk m))]) (cs := []) (q := fun y => leq6 (tk m) (tk y)) (flV_ok (grtL ns)) (by omega) plainTry_58 (fun y _ => atMost58 _ _)))) ?_
          refine KT.step rfl rfl (K.assign rfl) ?_
          refine KT.step rfl rfl (K.assign rfl) ?_
          refine KT.nil ?_
          refine thenK_n ?_
          refine KC.ret ?_
          refine ⟨.inl rfl, _, rfl, ?_⟩
          unfold cvsD
          rw [hv, hf, hre]; rfl
end Go.Proofs.Ytocgjopmlhpjdaa

