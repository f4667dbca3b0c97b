import Derived.Test.YtocgjopmlhpjdaaNtZk
import Derived.Test.YtocgjopmlhpjdaaNtSe
/-
  Nets: the reference: Cover.
-/
namespace Go.Proofs.Ytocgjopmlhpjdaa
open Go.Vm Go.RowKit Go.Nt Go.Ht
theorem plainTry_25 : plainFn Try.prog 25 = true := by kernel_rfl
theorem sortM_rise (l : List (List Int)) : Rising (sortM l) := by
  have : ∀ (l acc : List (List Int)), Rising acc → Rising (l.foldl putM acc) := by
    intro l
    induction l with
    | nil => exact fun acc h => h
    | cons x l ih => exact fun acc h => ih _ (putM_rising h)
  exact this l [] List.Pairwise.nil
theorem putM_in : ∀ {l : List (List Int)} {m x : List Int}, x = m ∨ x ∈ l → x ∈ putM l m
  | [], m, x, h => by rcases h with h | h <;> simp_all [putM]
  | y :: l, m, x, h => by
    rw [putM]
    split
    · rcases h with h | h
      · exact List.mem_cons_of_mem _ (putM_in (.inl h))
      · rcases List.mem_cons.1 h with h | h
        · rw [h]; exact List.mem_cons_self
        · exact List.mem_cons_of_mem _ (putM_in (.inr h))
    · split
      · rename_i e
        rcases h with h | h
        · rw [h, e]; exact List.mem_cons_self
        · exact h
      · rcases h with h | h
        · rw [h]; exact List.mem_cons_self
        · exact List.mem_cons_of_mem _ h
theorem sortM_in {l : List (List Int)} {x : List Int} : x ∈ sortM l ↔ x ∈ l := by
  refine ⟨sortM_mem, fun h => ?_⟩
  have : ∀ (l acc : List (List Int)), x ∈ acc ∨ x ∈ l → x ∈ l.foldl putM acc := by
    intro l
    induction l with
    | nil => intro acc h; rcases h with h | h; exact h; cases h
    | cons y l ih =>
      intro acc h
      refine ih _ ?_
      rcases h with h | h
      · exact .inl (putM_in (.inr h))
      · rcases List.mem_cons.1 h with h | h
        · exact .inl (putM_in (.inl h))
        · exact .inr h
  exact this l [] (.inr h)
theorem rise_nodup {l : List (List Int)} (h : Rising l) : l.Nodup := h.imp fun {a b} hab e => by subst e; rw [cmpL_self] at hab; exact absurd hab (by decide)
/-- Rising lists with the same elements. -/
theorem rise_ext {l r : List (List Int)} (hl : Rising l) (hr : Rising r) (h : ∀ x, x ∈ l ↔ x ∈ r) : l = r :=
  rising_uniq ((List.perm_ext_iff_of_nodup (rise_nodup hl) (rise_nodup hr)).2 h) (hl.imp fun {a b} hab hba => by have := cmpL_neg a b; omega) hr
theorem top_sort {n : Nat} {ns : List (List Int)} (n6 : n ≤ 6) (hn : ∀ x ∈ ns, x.length = n) : sortM (ns.filter (topB ns)) = sortM (grtL ns) :=
  rise_ext (sortM_rise _) (sortM_rise _) fun x => by rw [sortM_in, sortM_in, grtL_iff n6 hn, List.mem_filter]
/-- The nodes with what stands for them. -/
def covP (c : DV) : List (List Int) → List (DV × List Int)
  | [] => []
  | s :: l => (c, s) :: l.map fun x => (numV x, x)
theorem covP_snd (c : DV) (ns : List (List Int)) : (covP c ns).map (·.2) = ns := by
  cases ns with
  | nil => rfl
  | cons s l =>
    unfold covP
    rw [List.map_cons, List.map_map, show ((fun x : DV × List Int => x.2) ∘ fun x => (numV x, x)) = id from rfl, List.map_id]
theorem covP_len (c : DV) (ns : List (List Int)) : (covP c ns).length = ns.length := by rw [← List.length_map (f := (·.2)), covP_snd]
theorem covP_get {c : DV} {ns : List (List Int)} {i : Nat} (h : i < (covP c ns).length) : (covP c ns)[i].2 = ns[i]'(by rw [← covP_len c]; exact h) := by
  have := covP_snd c ns
  have h2 : ((covP c ns).map (·.2))[i]? = ns[i]? := by rw [this]
  rw [List.getElem?_map, List.getElem?_eq_getElem h, List.getElem?_eq_getElem (by rw [← covP_len c]; exact h)] at h2
  exact Option.some.inj h2
theorem covP_ok {c : DV} {start : List Int} {l : List (List Int)} (hc : Ints c start) (h0 : 0 < start.length) (hn : ∀ x ∈ start :: l, x.length = start.length) : PairsOk start.length (covP c (start :: l)) := fun p hp => by
  unfold covP at hp
  rcases List.mem_cons.1 hp with rfl | hp
  · exact ⟨hc, rfl⟩
  · obtain ⟨x, hx, rfl⟩ := List.mem_map.1 hp
    have := hn x (List.mem_cons_of_mem _ hx)
    exact ⟨numV_ints x (by omega), this⟩
theorem cov_r55 {c : DV} {start : List Int} {l : List (List Int)} : ∃ cap, r55 c 0 (some (start :: l)) = .sl ((covP c (start :: l)).map (·.1)) (start :: l).length cap := by
  refine ⟨if l.isEmpty then some 1 else none, ?_⟩
  unfold r55 l55 covP
  simp only [List.drop_succ_cons, List.drop_zero, List.map_cons, List.map_map, List.length_cons, List.length_map]
  rfl
/-- The greatest nodes with what stands for them, rising. -/
def cL (pre post : List (List Int)) (c : DV) (start : List Int) : List (DV × List Int) := match covO pre post start with | none => [] | some ns => sortP ((covP c ns).filter fun p => topB ns p.2)
def rcvD (pre post : List (List Int)) (c : DV) (start : List Int) : DV := .tup [slOf ((cL pre post c start).map (·.1)), DI (covE pre post start)]
theorem top_take {ns : List (List Int)} {x : List Int} {j : Nat} (h : j < ns.length) : topB (ns.take (j + 1)) x = (topB (ns.take j) x && (!leq6 (tk x) (tk ns[j]) || decide (x = ns[j]))) := by
  unfold topB
  rw [List.take_add_one, List.getElem?_eq_getElem h, Option.toList_some, List.all_append]; simp
theorem filt_take {α : Type} {p : α → Bool} {l : List α} {i : Nat} (h : i < l.length) : (l.take (i + 1)).filter p = if p l[i] then (l.take i).filter p ++ [l[i]] else (l.take i).filter p := by
  rw [List.take_add_one, List.getElem?_eq_getElem h, Option.toList_some, List.filter_append]
  cases hp : p l[i] <;> simp [hp]
theorem sortP_snoc (l : List (DV × List Int)) (q : DV × List Int) : sortP (l ++ [q]) = putP (sortP l) q := by unfold sortP; rw [List.foldl_append]; rfl
set_option maxHeartbeats 4000000 in
set_option maxRecDepth 10000 in
theorem rCover25 {a b c : DV} {pre post : List (List Int)} {start : List Int} (h : NetD a b c pre post start) : DeepCall Try.prog 25 [.agg [a, b, c]] (rcvD pre post c start) := by
  have hN0 := h
  obtain ⟨ha, hb, hc, l1, l2, l3, r1, r2⟩ := h
  refine deepCall_K 9 Try.func25 rfl (Nat.le_of_ble_eq_true rfl) fun M W0 => ?_
  refine KC.seq ?_
  refine KC.region ?_
  refine KT.step rfl rfl (K.box rfl) ?_
  refine KT.step rfl rfl (K.assign rfl) ?_
  refine KT.step rfl rfl (K.assign rfl) ?_
  refine KT.nil ?_
  refine thenK_n ?_
  refine KC.seq ?_
  refine KC.seq ?_
  refine KC.region ?_
  refine KT.step rfl rfl (K.loadOA [a, b, c] rfl rfl (by decide) Try.agg25 Try.size25 rfl) ?_
  refine KT.step rfl rfl (K.call1 rfl plainTry_31 (rvalid31 hN0)) ?_
  refine KT.step rfl rfl (K.not rfl) ?_
  refine KT.nil ?_
  refine thenK_n ?_
  refine KC.cond rfl (fun hc14 => ?_) (fun hc14 => ?_)
  · skip
    refine KC.seq ?_
    refine KC.region ?_
    refine KT.step rfl rfl (K.assign rfl) ?_
    refine KT.step rfl rfl (K.assign rfl) ?_
    refine KT.nil ?_
    refine thenK_n ?_
    refine KC.ret ?_
    refine thenK_r ?_
    refine ⟨.inl rfl, _, rfl, ?_⟩
    have hv : ¬ validB pre post start = true := by intro h; rw [h] at hc14; simp at hc14
    have e1 : covO pre post start = none := by unfold covO; rw [if_neg hv]
    have e2 : covE pre post start = 2 := by unfold covE; rw [if_neg hv]
    unfold rcvD cL
    rw [e1, e2]; rfl
  · skip
    have hv : validB pre post start = true := by simpa using hc14
    have hN := NetOk.of hv
    have hn6 := hN.n6
    have hp3 : ∀ r ∈ pre, ∀ x ∈ r, 0 ≤ x ∧ x ≤ 3 := fun r hr => fitsB_mem (allB_mem (validB_iff.1 hv).2.2.2.2.2.2.1 r hr)
    have hq3 : ∀ r ∈ post, ∀ x ∈ r, 0 ≤ x ∧ x ≤ 3 := fun r hr => fitsB_mem (allB_mem (validB_iff.1 hv).2.2.2.2.2.2.2 r hr)
    refine KC.skip ?_
    refine thenK_n ?_
    refine KC.seq ?_
    refine KC.region ?_
    refine KT.step rfl rfl (K.alloc Try.one3.zero) ?_
    refine KT.putAll (cs := [.d (DI 0)]) rfl rfl rfl rfl rfl rfl rfl rfl Try.size3 ?_
    refine KT.nil ?_
    refine thenK_n ?_
    refine KC.seq ?_
    refine KC.region ?_
    refine KT.step rfl rfl (K.loadOA [a, b, c] rfl rfl (by decide) Try.agg25 Try.size25 rfl) ?_
    refine KT.step rfl rfl (K.fieldAddrO rfl Try.fld25_2 Try.size23) ?_
    refine KT.step rfl rfl (K.loadO (y := .d c) rfl rfl (by simp) rfl Try.agg23) ?_
    refine KT.step rfl rfl (K.litSl (m := 1) (k := 1) (lo := 1) (qs := [(0, .d c)]) (cells := [.d c]) (d := .sl [c] 1 (some 1)) rfl (fun q hq => by simp only [List.mem_cons, List.not_mem_nil, or_false] at hq; rcases hq with rfl; exact ⟨_, rfl⟩) (build_one (SlD.of hc).cells Try.underlying22 Try.one23) (by rw [deepen_osl rfl rfl (by simp)]; rfl)) ?_
    rcases hre : growP (nxN pre post) pre.length 2001 [] [] start with _ | ns
    · skip
      have hcall := rtree55 (c := c) hN hp3 hq3 ha hb 2001 (σ := [fB a b c, ⟨[.d (DI 0)], 0⟩]) (cid := 1) (L := 1) (cs := []) (C := [c]) (dm := c) (cap := some 1) (way := []) (W := [start]) (nodes := []) (m := start) rfl (by simp) (by simp) (Nat.le_refl _) rfl (fun x hx => .inr (by have := start_bd hv x hx; simp only [List.length_nil]; omega)) (fun x hx => by simp at hx) rfl rfl (fun j d x h1 h2 => by
          cases j with
          | zero => simp at h1 h2; subst h1; subst h2; exact hc
          | succ j => simp at h1) rfl rfl
      rw [hre] at hcall
      refine KT.step rfl rfl (K.callO (σ' := [fB a b c, ⟨[.d (DI (k55 (none)))], 0⟩]) rfl plainTry_55 hcall) ?_
      refine KT.step rfl rfl (K.assign rfl) ?_
      refine KT.nil ?_
      refine thenK_n ?_
      refine KC.seq ?_
      refine KC.seq ?_
      refine KC.region ?_
      refine KT.step rfl rfl (K.loadO (y := .d (DI (k55 _))) rfl rfl (by simp) rfl Try.agg3) ?_
      refine KT.step rfl rfl (K.gtr rfl rfl) ?_
      refine KT.nil ?_
      refine thenK_n ?_
      refine KC.cond rfl (fun hc21 => ?_) (fun hc21 => ?_)
      · skip
        replace hc21 := of_decide_eq_true hc21
        refine KC.seq ?_
        refine KC.region ?_
        refine KT.step rfl rfl (K.assign rfl) ?_
        refine KT.step rfl rfl (K.assign rfl) ?_
        refine KT.nil ?_
        refine thenK_n ?_
        refine KC.ret ?_
        refine thenK_r ?_
        refine ⟨.inl rfl, _, rfl, ?_⟩
        have e1 : covO pre post start = none := by unfold covO; rw [if_pos hv]; exact hre
        have e2 : covE pre post start = 3 := by unfold covE covT; rw [if_pos hv, hre]
        unfold rcvD cL
        rw [e1, e2]; rfl
      · skip
        exact absurd (of_decide_eq_false hc21) (by decide)
    · skip
      have hcall := rtree55 (c := c) hN hp3 hq3 ha hb 2001 (σ := [fB a b c, ⟨[.d (DI 0)], 0⟩]) (cid := 1) (L := 1) (cs := []) (C := [c]) (dm := c) (cap := some 1) (way := []) (W := [start]) (nodes := []) (m := start) rfl (by simp) (by simp) (Nat.le_refl _) rfl (fun x hx => .inr (by have := start_bd hv x hx; simp only [List.length_nil]; omega)) (fun x hx => by simp at hx) rfl rfl (fun j d x h1 h2 => by
          cases j with
          | zero => simp at h1 h2; subst h1; subst h2; exact hc
          | succ j => simp at h1) rfl rfl
      rw [hre] at hcall
      refine KT.step rfl rfl (K.callO (σ' := [fB a b c, ⟨[.d (DI (k55 (some ns)))], 0⟩]) rfl plainTry_55 hcall) ?_
      obtain ⟨l9, e9⟩ := cov_len (show covT pre post start = some ns from hre)
      obtain ⟨cap, hcap⟩ := cov_r55 (c := c) (start := start) (l := l9)
      rw [← e9] at hcap
      simp only [List.length_nil]
      rw [hcap]
      obtain ⟨hl20, _⟩ := cov_grt hv (show covT pre post start = some ns from hre)
      have hnl := cov_nodes hv (show covT pre post start = some ns from hre)
      have hpk : PairsOk start.length (covP c ns) := by rw [e9]; exact covP_ok hc hN.n0 (fun x hx => hnl x (by rw [e9]; exact hx))
      have hcl := covP_len c ns
      refine KT.step rfl rfl (K.assign rfl) ?_
      refine KT.nil ?_
      refine thenK_n ?_
      refine KC.seq ?_
      refine KC.seq ?_
      refine KC.region ?_
      refine KT.step rfl rfl (K.loadO (y := .d (DI (k55 _))) rfl rfl (by simp) rfl Try.agg3) ?_
      refine KT.step rfl rfl (K.gtr rfl rfl) ?_
      refine KT.nil ?_
      refine thenK_n ?_
      refine KC.cond rfl (fun hc21 => ?_) (fun hc21 => ?_)
      · skip
        exact absurd (of_decide_eq_true hc21) (by unfold k55; simp only; omega)
      · skip
        replace hc21 := of_decide_eq_false hc21
        refine KC.skip ?_
        refine thenK_n ?_
        refine KC.seq ?_
        refine KC.region ?_
        refine KT.step rfl rfl (K.assign rfl) ?_
        refine KT.nil ?_
        refine thenK_n ?_
        refine KC.seq ?_
        refine KC.seq ?_
        refine KC.region ?_
        refine KT.step rfl rfl (K.move rfl) ?_
        refine KT.step rfl rfl (K.lenD rfl Try.underlying22) ?_
        refine KT.step rfl rfl (K.move rfl) ?_
        refine KT.nil ?_
        refine thenK_n ?_
        refine KC.block ?_
        refine KC.loop (fun _ : Nat => [fB a b c, ⟨[.d (DI (k55 (some ns)))], 0⟩]) (fun i => [(5, .d (.sl ((covP c ns).map (·.1)) ns.length cap)), (6, .d (slOf ((sortP (((covP c ns).take i).filter fun p => topB ns p.2)).map (·.1)))), (22, .d (.sl ((covP c ns).map (·.1)) ns.length cap)), (23, .d (DI (ns.length : Nat))), (24, .d (DI (i : Nat)))]) (fun i => i ≤ ns.length) (fun i => ns.length - i) 0 (Nat.zero_le _) rfl (by simp [Go.Vm.look, extK, enterK, sortP, slOf]) ?_
        intro i hi
        refine KC.seq ?_
        refine KC.region ?_
        refine KT.step rfl rfl (K.lss rfl rfl) ?_
        refine KT.nil ?_
        refine thenK_n ?_
        refine KC.seq ?_
        refine KC.cond rfl (fun hc25 => ?_) (fun hc25 => ?_)
        · skip
          replace hc25 := of_decide_eq_true hc25
          have hil : i < ns.length := by omega
          have hpi := hpk _ (List.getElem_mem (show i < (covP c ns).length by omega))
          refine KC.skip ?_
          refine thenK_n ?_
          refine KC.seq ?_
          refine KC.block ?_
          refine KC.seq ?_
          refine KC.region ?_
          refine KT.step rfl rfl (K.idxDK (k := 1) (m := i) rfl rfl hil Try.underlying22 Try.size23) ?_
          rw [drop_one (show i < ((covP c ns).map (·.1)).length by rw [List.length_map]; omega), List.getElem_map]
          refine KT.step rfl rfl (K.load rfl Try.agg23) ?_
          refine KT.step rfl rfl (K.assign rfl) ?_
          refine KT.nil ?_
          refine thenK_n ?_
          refine KC.seq ?_
          refine KC.region ?_
          refine KT.step rfl rfl (K.assign rfl) ?_
          refine KT.nil ?_
          refine thenK_n ?_
          refine KC.seq ?_
          refine KC.seq ?_
          refine KC.region ?_
          refine KT.step rfl rfl (K.move rfl) ?_
          refine KT.step rfl rfl (K.lenD rfl Try.underlying22) ?_
          refine KT.step rfl rfl (K.move rfl) ?_
          refine KT.nil ?_
          refine thenK_n ?_
          refine KC.block ?_
          refine KC.loop (fun _ : Nat => [fB a b c, ⟨[.d (DI (k55 (some ns)))], 0⟩]) (fun j => [(5, .d (.sl ((covP c ns).map (·.1)) ns.length cap)), (6, .d (slOf ((sortP (((covP c ns).take i).filter fun p => topB ns p.2)).map (·.1)))), (22, .d (.sl ((covP c ns).map (·.1)) ns.length cap)), (23, .d (DI (ns.length : Nat))), (24, .d (DI (i : Nat))), (8, .d (covP c ns)[i].1), (9, .d (DB (topB (ns.take j) (covP c ns)[i].2))), (28, .d (.sl ((covP c ns).map (·.1)) ns.length cap)), (29, .d (DI (ns.length : Nat))), (30, .d (DI (j : Nat)))]) (fun j => j ≤ ns.length) (fun j => ns.length - j) 0 (Nat.zero_le _) rfl (by simp [Go.Vm.look, extK, enterK, topB]) ?_
          intro j hj
          refine KC.seq ?_
          refine KC.region ?_
          refine KT.step rfl rfl (K.lss rfl rfl) ?_
          refine KT.nil ?_
          refine thenK_n ?_
          refine KC.seq ?_
          refine KC.cond rfl (fun hc31 => ?_) (fun hc31 => ?_)
          · skip
            replace hc31 := of_decide_eq_true hc31
            have hjl : j < ns.length := by omega
            have hpj := hpk _ (List.getElem_mem (show j < (covP c ns).length by omega))
            have hlw : leq6 (tk (covP c ns)[i].2) (tk (covP c ns)[j].2) = withinB (covP c ns)[i].2 (covP c ns)[j].2 := leq6_within (by have h1 := hpi.2; have h2 := hpj.2; omega) (by have h1 := hpi.2; have h2 := hpj.2; omega)
            have htp := top_take (ns := ns) (x := (covP c ns)[i].2) hjl
            rw [← covP_get (c := c) (by omega), hlw] at htp
            refine KC.skip ?_
            refine thenK_n ?_
            refine KC.seq ?_
            refine KC.block ?_
            refine KC.seq ?_
            refine KC.region ?_
            refine KT.step rfl rfl (K.idxDK (k := 1) (m := j) rfl rfl hjl Try.underlying22 Try.size23) ?_
            rw [drop_one (show j < ((covP c ns).map (·.1)).length by rw [List.length_map]; omega), List.getElem_map]
            refine KT.step rfl rfl (K.load rfl Try.agg23) ?_
            refine KT.step rfl rfl (K.assign rfl) ?_
            refine KT.nil ?_
            refine thenK_n ?_
            refine KC.region ?_
            refine KT.step rfl rfl (K.move rfl) ?_
            refine KT.step rfl rfl (K.move rfl) ?_
            refine KT.bcase (fun hb35 => ?_) (fun hb35 => ?_)
            · skip
              refine KT.step rfl rfl (K.move rfl) ?_
              refine KT.step rfl rfl (K.move rfl) ?_
              refine KT.step rfl rfl (K.call2 rfl rfl plainTry_46 (within46 hpi.1 hpj.1 (by have h1 := hpi.2; have h2 := hpj.2; omega) (by rw [hpi.2]; omega))) ?_
              refine KT.step rfl rfl (K.not rfl) ?_
              refine KT.step rfl rfl (K.move rfl) ?_
              refine KT.bcase (fun hb40 => ?_) (fun hb40 => ?_)
              · skip
                refine KT.skip rfl rfl ?_
                refine KT.skip rfl rfl ?_
                refine KT.skip rfl rfl ?_
                refine KT.step rfl rfl (K.pick rfl (fun _ => rfl) (fun h => by cases h)) ?_
                refine KT.step rfl rfl (K.pick rfl (fun _ => rfl) (fun h => by cases h)) ?_
                refine KT.step rfl rfl (K.assign rfl) ?_
                refine KT.nil ?_
                refine blockK_n ?_
                refine thenK_n ?_
                refine KC.region ?_
                refine KT.step rfl rfl (K.add rfl rfl (wrap_id (by omega))) ?_
                refine KT.step rfl rfl (K.move rfl) ?_
                refine KT.nil ?_
                refine thenK_n ?_
                refine ⟨j + 1, by omega, by omega, rfl, ?_⟩
                rw [htp, hb35, hb40]
                simp [Go.Vm.look, extK]
              · skip
                refine KT.step rfl rfl (K.move rfl) ?_
                refine KT.step rfl rfl (K.move rfl) ?_
                refine KT.step rfl rfl (K.call2 rfl rfl plainTry_56 (requal56 hpi.1 hpj.1 (by rw [hpi.2, hpj.2]) (by rw [hpi.2]; omega))) ?_
                refine KT.step rfl rfl (K.pick rfl (fun h => by cases h) (fun _ => rfl)) ?_
                refine KT.step rfl rfl (K.pick rfl (fun _ => rfl) (fun h => by cases h)) ?_
                refine KT.step rfl rfl (K.assign rfl) ?_
                refine KT.nil ?_
                refine blockK_n ?_
                refine thenK_n ?_
                refine KC.region ?_
                refine KT.step rfl rfl (K.add rfl rfl (wrap_id (by omega))) ?_
                refine KT.step rfl rfl (K.move rfl) ?_
                refine KT.nil ?_
                refine thenK_n ?_
                refine ⟨j + 1, by omega, by omega, rfl, ?_⟩
                rw [htp, hb35, hb40]
                simp [Go.Vm.look, extK]
            · skip
              refine KT.skip rfl rfl ?_
              refine KT.skip rfl rfl ?_
              refine KT.skip rfl rfl ?_
              refine KT.skip rfl rfl ?_
              refine KT.skip rfl rfl ?_
              refine KT.skip rfl rfl ?_
              refine KT.skip rfl rfl ?_
              refine KT.skip rfl rfl ?_
              refine KT.skip rfl rfl ?_
              refine KT.step rfl rfl (K.pick rfl (fun h => by cases h) (fun _ => rfl)) ?_
              refine KT.step rfl rfl (K.assign rfl) ?_
              refine KT.nil ?_
              refine blockK_n ?_
              refine thenK_n ?_
              refine KC.region ?_
              refine KT.step rfl rfl (K.add rfl rfl (wrap_id (by omega))) ?_
              refine KT.step rfl rfl (K.move rfl) ?_
              refine KT.nil ?_
              refine thenK_n ?_
              refine ⟨j + 1, by omega, by omega, rfl, ?_⟩
              rw [htp, hb35]
              simp [Go.Vm.look, extK]
          · skip
            replace hc31 := of_decide_eq_false hc31
            refine KC.exit ?_
            refine thenK_x ?_
            refine thenK_x ?_
            refine blockK_e ?_
            refine thenK_n ?_
            refine KC.seq ?_
            refine KC.region ?_
            refine KT.step rfl rfl (K.move rfl) ?_
            refine KT.nil ?_
            refine thenK_n ?_
            refine KC.cond rfl (fun hc47 => ?_) (fun hc47 => ?_)
            · skip
              have hj9 : j = ns.length := by omega
              have hc47' : topB ns (covP c ns)[i].2 = true := by rw [hj9, List.take_of_length_le (Nat.le_refl _)] at hc47; exact hc47
              refine KC.region ?_
              refine KT.step rfl rfl (K.move rfl) ?_
              refine KT.step rfl rfl (K.move rfl) ?_
              refine KT.step rfl rfl (K.call2 rfl rfl plainTry_44 (put44 (n := start.length) (fun p hp => hpk p (List.mem_of_mem_take (List.mem_filter.1 (sortP_mem hp)).1)) (q := (covP c ns)[i]) hpi (by omega) (by have h1 := sortP_len (((covP c ns).take i).filter fun p => topB ns p.2); have h2 := List.length_filter_le (fun p => topB ns p.2) ((covP c ns).take i); rw [List.length_take] at h2; omega))) ?_
              refine KT.step rfl rfl (K.assign rfl) ?_
              refine KT.nil ?_
              refine blockK_n ?_
              refine thenK_n ?_
              refine KC.region ?_
              refine KT.step rfl rfl (K.add rfl rfl (wrap_id (by omega))) ?_
              refine KT.step rfl rfl (K.move rfl) ?_
              refine KT.nil ?_
              refine thenK_n ?_
              refine ⟨i + 1, by omega, by omega, rfl, ?_⟩
              rw [filt_take (show i < (covP c ns).length by omega), if_pos hc47', sortP_snoc]
              simp [Go.Vm.look, extK]
            · skip
              have hj9 : j = ns.length := by omega
              have hc47' : topB ns (covP c ns)[i].2 = false := by rw [hj9, List.take_of_length_le (Nat.le_refl _)] at hc47; exact hc47
              refine KC.skip ?_
              refine blockK_n ?_
              refine thenK_n ?_
              refine KC.region ?_
              refine KT.step rfl rfl (K.add rfl rfl (wrap_id (by omega))) ?_
              refine KT.step rfl rfl (K.move rfl) ?_
              refine KT.nil ?_
              refine thenK_n ?_
              refine ⟨i + 1, by omega, by omega, rfl, ?_⟩
              rw [filt_take (show i < (covP c ns).length by omega), if_neg (by rw [hc47']; decide)]
              simp [Go.Vm.look, extK]
        · skip
          replace hc25 := of_decide_eq_false hc25
          refine KC.exit ?_
          refine thenK_x ?_
          refine thenK_x ?_
          refine blockK_e ?_
          refine thenK_n ?_
          refine KC.seq ?_
          refine KC.region ?_
          refine KT.step rfl rfl (K.move rfl) ?_
          refine KT.step rfl rfl (K.assign rfl) ?_
          refine KT.step rfl rfl (K.assign rfl) ?_
          refine KT.nil ?_
          refine thenK_n ?_
          refine KC.ret ?_
          obtain rfl : i = ns.length := by omega
          refine ⟨.inl rfl, _, rfl, ?_⟩
          have e1 : covO pre post start = some ns := by unfold covO; rw [if_pos hv]; exact hre
          have e2 : covE pre post start = 0 := by unfold covE covT; rw [if_pos hv, hre]
          unfold rcvD cL
          rw [e1, e2]
          simp only
          rw [List.take_of_length_le (by rw [covP_len]; exact Nat.le_refl _)]; rfl
end Go.Proofs.Ytocgjopmlhpjdaa

