import Derived.Test.YtocgjopmlhpjdaaNtSc
/-
  Nets: the reference: Before, put.
-/
namespace Go.Proofs.Ytocgjopmlhpjdaa
open Go.Vm Go.RowKit Go.Nt
theorem plainTry_78 : plainFn Try.prog 78 = true := by kernel_rfl
theorem plainTry_44 : plainFn Try.prog 44 = true := by kernel_rfl
theorem cmpL_drop {x y : List Int} {i : Nat} (h1 : i < x.length) (h2 : i < y.length) : cmpL (x.drop i) (y.drop i) = if Lib.compareInt x[i] y[i] = 0 then cmpL (x.drop (i + 1)) (y.drop (i + 1)) else Lib.compareInt x[i] y[i] := by
  rw [List.drop_eq_getElem_cons h1, List.drop_eq_getElem_cons h2]; rfl
set_option maxRecDepth 10000 in
theorem before78 {d e : DV} {x y : List Int} (hd : Ints d x) (he : Ints e y) (h : x.length = y.length) (hl : x.length ≤ 9223372036854775807) : DeepCall Try.prog 78 [d, e] (DB (decide (cmpL x y < 0))) := by
  refine deepCall_K 5 Try.func78 rfl (Nat.le_of_ble_eq_true rfl) fun M W0 => ?_
  refine KC.seq ?_
  refine KC.region ?_
  refine KT.step rfl rfl (K.assign rfl) ?_
  refine KT.nil ?_
  refine thenK_n ?_
  refine KC.seq ?_
  refine KC.seq ?_
  refine KC.region ?_
  refine KT.step rfl rfl (K.move rfl) ?_
  refine KT.step rfl rfl (K.len rfl (by assumption) Try.underlying23) ?_
  refine KT.step rfl rfl (K.move rfl) ?_
  refine KT.nil ?_
  refine thenK_n ?_
  refine KC.block ?_
  refine KC.loop (fun _ : Nat => []) (fun i => [(1, .d e), (7, .d d), (8, .d (DI x.length)), (9, .d (DI i))]) (fun i => i ≤ x.length ∧ cmpL (x.drop i) (y.drop i) = cmpL x y) (fun i => x.length - i) 0 ⟨Nat.zero_le _, by simp⟩ rfl (by simp [Go.Vm.look, extK, enterK]) ?_
  intro i hi
  obtain ⟨hi, hall⟩ := hi
  refine KC.seq ?_
  refine KC.region ?_
  refine KT.step rfl rfl (K.lss rfl rfl) ?_
  refine KT.nil ?_
  refine thenK_n ?_
  refine KC.seq ?_
  refine KC.cond rfl (fun hc10 => ?_) (fun hc10 => ?_)
  · skip
    replace hc10 := of_decide_eq_true hc10
    refine KC.skip ?_
    refine thenK_n ?_
    refine KC.seq ?_
    refine KC.block ?_
    refine KC.seq ?_
    refine KC.region ?_
    refine KT.step rfl rfl (K.move rfl) ?_
    refine KT.idxI rfl rfl rfl (by assumption) rfl (by omega) Try.underlying23 Try.size3 fun cs12 => ?_
    refine KT.step rfl rfl (K.load rfl Try.agg3) ?_
    refine KT.step rfl rfl (K.assign rfl) ?_
    refine KT.step rfl rfl (K.assign rfl) ?_
    refine KT.nil ?_
    refine thenK_n ?_
    refine KC.seq ?_
    refine KC.region ?_
    refine KT.step rfl rfl (K.move rfl) ?_
    refine KT.step rfl rfl (K.move rfl) ?_
    refine KT.step rfl rfl (K.move rfl) ?_
    refine KT.idxI rfl rfl rfl (by assumption) rfl (by omega) Try.underlying23 Try.size3 fun cs17 => ?_
    refine KT.step rfl rfl (K.load rfl Try.agg3) ?_
    refine KT.step rfl rfl (K.neq rfl rfl) ?_
    refine KT.nil ?_
    refine thenK_n ?_
    refine KC.cond rfl (fun hc19 => ?_) (fun hc19 => ?_)
    · skip
      replace hc19 := of_decide_eq_true hc19
      refine KC.seq ?_
      refine KC.region ?_
      refine KT.step rfl rfl (K.move rfl) ?_
      refine KT.step rfl rfl (K.move rfl) ?_
      refine KT.step rfl rfl (K.move rfl) ?_
      refine KT.idxI rfl rfl rfl (by assumption) rfl (by omega) Try.underlying23 Try.size3 fun cs23 => ?_
      refine KT.step rfl rfl (K.load rfl Try.agg3) ?_
      refine KT.step rfl rfl (K.lss rfl rfl) ?_
      refine KT.step rfl rfl (K.assign rfl) ?_
      refine KT.nil ?_
      refine thenK_n ?_
      refine KC.ret ?_
      refine blockK_r ?_
      refine thenK_r ?_
      refine thenK_r ?_
      refine blockK_r ?_
      refine thenK_r ?_
      refine ⟨.inl rfl, _, rfl, fin_b ?_⟩
      have hne : ¬ x[i] = y[i] := by simpa using hc19
      rw [← hall, cmpL_drop (by omega) (by omega), if_neg (fun e => hne (cmpI_zero.1 e))]
      exact (decide_eq_decide.2 cmpI_lt)
    · skip
      replace hc19 := of_decide_eq_false hc19
      refine KC.skip ?_
      refine blockK_n ?_
      refine thenK_n ?_
      refine KC.region ?_
      refine KT.step rfl rfl (K.add rfl rfl (wrap_id (by omega))) ?_
      refine KT.step rfl rfl (K.move rfl) ?_
      refine KT.nil ?_
      refine thenK_n ?_
      refine ⟨i + 1, ⟨by omega, ?_⟩, by omega, rfl, by simp [Go.Vm.look, extK]⟩
      have e := cmpL_drop (x := x) (y := y) (i := i) (by omega) (by omega)
      rw [if_pos (cmpI_zero.2 (by simpa using hc19))] at e
      rw [← hall, e]
  · skip
    replace hc10 := of_decide_eq_false hc10
    refine KC.exit ?_
    refine thenK_x ?_
    refine thenK_x ?_
    refine blockK_e ?_
    refine thenK_n ?_
    refine KC.seq ?_
    refine KC.region ?_
    refine KT.step rfl rfl (K.assign rfl) ?_
    refine KT.nil ?_
    refine thenK_n ?_
    refine KC.ret ?_
    refine ⟨.inl rfl, _, rfl, fin_b ?_⟩
    rw [← hall, List.drop_eq_nil_of_le (by omega), List.drop_eq_nil_of_le (by omega)]; rfl
/-- Slices of deep values, cut. -/
theorem slc_vec {d : DV} {cs : List DV} (h : SlC d cs) : Vec (fun c x => c = x) d cs := by
  rcases h with ⟨rfl, rfl⟩ | ⟨cap, rfl⟩
  · exact .nil
  · exact .sl rfl fun i c x h1 h2 => by rw [h1] at h2; exact Option.some.inj h2
theorem vec_slc {d : DV} {cs : List DV} (h : Vec (fun c x => c = x) d cs) : SlC d cs := by
  cases h with
  | nil => exact .inl ⟨rfl, rfl⟩
  | @sl ds _ cap hn hh =>
    have : ds = cs := List.ext_getElem hn fun i a b => hh i _ _ (List.getElem?_eq_getElem a) (List.getElem?_eq_getElem b)
    subst this
    exact .inr ⟨cap, rfl⟩
section
variable {P : Program} {σ : List VObj} {kn : Kn} {dst : Option Tmp} {ty : TypeId} {pos : String} {af : Array Edge} {g : Option (Nat × Bool)}
theorem K.toC {x h : Operand} {t e : TypeId} {d : DV} {cs : List DV} {m : Nat} (hx : evK kn x = some (.d d)) (hv : SlC d cs) (hh : evK kn h = some (.d (DI (m : Nat)))) (hm : m ≤ cs.length) (ht : P.underlying t = some (.slice e)) (hs : sizeT P e = some 1) :
    ∃ r, SlC r (cs.take m) ∧ KEv P ⟨dst, .slice t x none (some h) none, ty, pos, af, g⟩ σ kn (.d r) σ 0 := by
  obtain ⟨r, hr, hev⟩ := K.sliceTo (P := P) (σ := σ) (dst := dst) (ty := ty) (pos := pos) (af := af) (g := g) hx (slc_vec hv) hh hm ht hs
  exact ⟨r, vec_slc hr, hev⟩
theorem K.fromC {x h : Operand} {t e : TypeId} {d : DV} {cs : List DV} {m : Nat} (hx : evK kn x = some (.d d)) (hv : SlC d cs) (hh : evK kn h = some (.d (DI (m : Nat)))) (hm : m ≤ cs.length) (ht : P.underlying t = some (.slice e)) (hs : sizeT P e = some 1)
    (hr : pureRun P (Instr.sliceAt t (.slice none 0 0) (some (.int .i64 0)) none none) = some (.slice none 0 0)) :
    ∃ r, SlC r (cs.drop m) ∧ KEv P ⟨dst, .slice t x (some h) none none, ty, pos, af, g⟩ σ kn (.d r) σ 0 := by
  cases cs with
  | nil =>
    obtain rfl : m = 0 := by simpa using hm
    rcases hv with ⟨rfl, _⟩ | ⟨cap, rfl⟩
    · refine ⟨Dnil, .inl ⟨rfl, rfl⟩, ?_⟩
      refine K.lit (ρ := fun z => ((evK kn z).bind litOf).getD undef) (fun z hz => ?_) rfl ?_
      · have : z = x ∨ z = h := by simpa [Op.operands] using hz
        rcases this with rfl | rfl
        · rw [hx]; rfl
        · rw [hh]; rfl
      · simp only [execOp, hx, hh, Option.map_some, Option.map_none, Option.bind_some]
        exact pureRun_v hr
    · refine ⟨.sl [] 0 (cap.map (· - 0)), .inr ⟨_, rfl⟩, ev_op fun env he => ?_⟩
      have e1 := evK_evalX he hx
      have e2 := evK_evalX he hh
      unfold evalOp
      rw [litOp_none (x := x) (by simp [Op.operands]) (by rw [e1]; rfl)]
      simp [e1, e2, opSlice, litOf, ht, hs, boundOf]
  | cons c cs =>
    have h1 := K.dropV (P := P) (σ := σ) (dst := dst) (ty := ty) (pos := pos) (af := af) (g := g) hx (slc_vec hv) hh hm (by simp) ht hs
    exact ⟨_, vec_slc (dropV_vec (slc_vec hv) hm), h1⟩
theorem KTZ.toC {n : Nat} {ops : Array Oper} {Z : Nat → Prop} {l : List Oper} {R : List Nat → List Nat → List VObj → Kn → Prop} {x h : Operand} {t e : TypeId} {d : DV} {cs : List DV} {m : Nat} (hg : guardK ops kn ⟨dst, .slice t x none (some h) none, ty, pos, af, g⟩ = some true) (hd : dstOk n dst = true)
    (hx : evK kn x = some (.d d)) (hv : SlC d cs) (hh : evK kn h = some (.d (DI (m : Nat)))) (hm : m ≤ cs.length) (ht : P.underlying t = some (.slice e)) (hs : sizeT P e = some 1)
    (hk : ∀ r, SlC r (cs.take m) → KTZ P n ops Z l σ (extK dst (.d r) kn) (fun fls gs τ k => R (0 :: fls) (0 :: gs) τ k)) : KTZ P n ops Z (⟨dst, .slice t x none (some h) none, ty, pos, af, g⟩ :: l) σ kn R := by
  obtain ⟨r, hr, hev⟩ := K.toC (P := P) (σ := σ) (dst := dst) (ty := ty) (pos := pos) (af := af) (g := g) hx hv hh hm ht hs
  exact KTZ.step hg hd hev (hk r hr)
theorem KTZ.fromC {n : Nat} {ops : Array Oper} {Z : Nat → Prop} {l : List Oper} {R : List Nat → List Nat → List VObj → Kn → Prop} {x h : Operand} {t e : TypeId} {d : DV} {cs : List DV} {m : Nat} (hg : guardK ops kn ⟨dst, .slice t x (some h) none none, ty, pos, af, g⟩ = some true) (hd : dstOk n dst = true)
    (hx : evK kn x = some (.d d)) (hv : SlC d cs) (hh : evK kn h = some (.d (DI (m : Nat)))) (hm : m ≤ cs.length) (ht : P.underlying t = some (.slice e)) (hs : sizeT P e = some 1)
    (hr : pureRun P (Instr.sliceAt t (.slice none 0 0) (some (.int .i64 0)) none none) = some (.slice none 0 0))
    (hk : ∀ r, SlC r (cs.drop m) → KTZ P n ops Z l σ (extK dst (.d r) kn) (fun fls gs τ k => R (0 :: fls) (0 :: gs) τ k)) : KTZ P n ops Z (⟨dst, .slice t x (some h) none none, ty, pos, af, g⟩ :: l) σ kn R := by
  obtain ⟨r, hr, hev⟩ := K.fromC (P := P) (σ := σ) (dst := dst) (ty := ty) (pos := pos) (af := af) (g := g) hx hv hh hm ht hs hr
  exact KTZ.step hg hd hev (hk r hr)
theorem all_sub {α : Type} {p : α → Bool} {l r : List α} (h : l.all p = true) (hs : ∀ x ∈ r, x ∈ l) : r.all p = true := List.all_eq_true.2 fun x hx => List.all_eq_true.1 h x (hs x hx)
theorem build_one {t e : TypeId} {x : XV} {z : Value} (hx : cellsX x = [x]) (ht : P.underlying t = some (.slice e)) (h1 : OneT P e z) : opBuildSlice P [] t 1 [(0, x)] = some (.osl 0 0 1 1 1 true, [⟨[x], 0⟩]) := by
  obtain ⟨p, hz⟩ : ∃ p, zeroRow z 1 = [p] := ⟨_, by rw [zeroRow_one h1.cells]; rfl⟩
  simp [opBuildSlice, ht, h1.size, h1.zero, fillX, hx, hz, splice]
end
/-- Markings with the slices that stand for them: one more in a rising list. -/
def putP : List (DV × List Int) → DV × List Int → List (DV × List Int)
  | [], q => [q]
  | p :: l, q => if cmpL p.2 q.2 < 0 then p :: putP l q else if p.2 = q.2 then p :: l else q :: p :: l
theorem putP_snd : ∀ (l : List (DV × List Int)) (q : DV × List Int), (putP l q).map (·.2) = putM (l.map (·.2)) q.2
  | [], q => rfl
  | p :: l, q => by
    rw [putP, List.map_cons, putM]
    split
    · rw [List.map_cons, putP_snd l q]
    · split <;> rfl
theorem putP_at : ∀ {l : List (DV × List Int)} {q : DV × List Int} {k : Nat}, k ≤ l.length → (∀ j (h : j < l.length), j < k → cmpL l[j].2 q.2 < 0) → (∀ (h : k < l.length), ¬ cmpL l[k].2 q.2 < 0) →
    putP l q = if (l[k]?.map (·.2)) = some q.2 then l else l.take k ++ q :: l.drop k
  | [], q, k, hk, _, _ => by simp at hk; subst hk; simp [putP]
  | x :: l, q, 0, _, _, h2 => by
    have := h2 (by simp)
    simp only [List.getElem_cons_zero] at this
    rw [putP, if_neg this]
    by_cases e : x.2 = q.2 <;> simp [e]
  | x :: l, q, k + 1, hk, h1, h2 => by
    have h3 := h1 0 (by simp) (by omega)
    simp only [List.getElem_cons_zero] at h3
    have ih := putP_at (l := l) (q := q) (k := k) (by simpa using hk) (fun j h hj => by have := h1 (j + 1) (by simpa using h) (by omega); simpa using this) (fun h => by have := h2 (by simpa using h); simpa using this)
    rw [putP, if_pos h3, ih]
    by_cases e : (l[k]?.map (·.2)) = some q.2 <;> simp [e]
theorem putP_mem : ∀ {l : List (DV × List Int)} {q x : DV × List Int}, x ∈ putP l q → x = q ∨ x ∈ l
  | [], q, x, h => by simp [putP] at h; exact .inl h
  | y :: l, q, x, h => by
    rw [putP] at h
    split at h
    · rcases List.mem_cons.1 h with rfl | h
      · exact .inr List.mem_cons_self
      · exact (putP_mem h).imp _root_.id (List.mem_cons_of_mem _)
    · split at h
      · exact .inr h
      · exact (List.mem_cons.1 h)
theorem slOf_slc (ds : List DV) : SlC (slOf ds) ds := by
  cases ds with
  | nil => exact .inl ⟨rfl, rfl⟩
  | cons d ds => exact .inr ⟨none, rfl⟩
theorem slOf_ne {ds : List DV} (h : ds ≠ []) : slOf ds = .sl ds ds.length none := by
  cases ds with
  | nil => exact absurd rfl h
  | cons => rfl
/-- Slices with the numbers in them. -/
def PairsOk (n : Nat) (ps : List (DV × List Int)) : Prop := ∀ p ∈ ps, Ints p.1 p.2 ∧ p.2.length = n
theorem PairsOk.one {n : Nat} {ps : List (DV × List Int)} (h : PairsOk n ps) : ((ps.map (·.1)).map XV.d).all oneX = true := by
  rw [List.all_map, List.all_map, List.all_eq_true]
  intro p hp
  exact (SlD.of (h p hp).1).one
theorem nilDrop22 : pureRun Try.prog (Instr.sliceAt 22 (.slice none 0 0) (some (.int .i64 0)) none none) = some (.slice none 0 0) := by kernel_rfl
set_option maxHeartbeats 2000000 in
set_option maxRecDepth 10000 in
theorem put44 {n : Nat} {ps : List (DV × List Int)} {q : DV × List Int} (hp : PairsOk n ps) (hq : Ints q.1 q.2 ∧ q.2.length = n) (hn : n ≤ 1000) (hl : ps.length ≤ 100000) :
    DeepCall Try.prog 44 [slOf (ps.map (·.1)), q.1] (slOf ((putP ps q).map (·.1))) := by
  obtain ⟨cs, hcs⟩ : ∃ cs, cs = ps.map (·.1) := ⟨_, rfl⟩
  have hcl : cs.length = ps.length := by rw [hcs, List.length_map]
  rw [← hcs]
  have hsc := slOf_slc cs
  have hsc9 : SlC (.sl cs cs.length none) cs := .inr ⟨none, rfl⟩
  have hone := hp.one
  rw [← hcs] at hone
  have hq1 := hq.1
  refine deepCall_K 5 Try.func44 rfl (Nat.le_of_ble_eq_true rfl) fun M W0 => ?_
  refine KC.seq ?_
  refine KC.region ?_
  refine KT.step rfl rfl (K.assign rfl) ?_
  refine KT.nil ?_
  refine thenK_n ?_
  refine KC.seq ?_
  refine KC.region ?_
  refine KT.step rfl rfl (K.assign rfl) ?_
  refine KT.nil ?_
  refine thenK_n ?_
  refine KC.seq ?_
  refine KC.block ?_
  refine KC.loop (fun _ : Nat => []) (fun k => [(0, .d (slOf cs)), (1, .d q.1), (5, .d (DI (k : Nat)))]) (fun k => k ≤ cs.length ∧ ∀ j (h : j < ps.length), j < k → cmpL ps[j].2 q.2 < 0) (fun k => cs.length - k) 0 ⟨Nat.zero_le _, fun j _ h => absurd h (Nat.not_lt_zero _)⟩ rfl (by simp [Go.Vm.look, extK, enterK]) ?_
  intro k hk
  obtain ⟨hkc, hall⟩ := hk
  refine KC.seq ?_
  refine KC.seq ?_
  refine KC.region ?_
  refine KT.step rfl rfl (K.move rfl) ?_
  refine KT.step rfl rfl (K.move rfl) ?_
  refine KT.step rfl rfl (K.len (l := cs) rfl (slc_vec hsc) Try.underlying22) ?_
  refine KT.step rfl rfl (K.lss rfl rfl) ?_
  refine KT.step rfl rfl (K.move rfl) ?_
  refine KT.bcase (fun hb10 => ?_) (fun hb10 => ?_)
  · skip
    replace hb10 := of_decide_eq_true hb10
    refine KT.step rfl rfl (K.move rfl) ?_
    refine KT.step rfl rfl (K.move rfl) ?_
    have hkl : k < cs.length := by omega
    have hkp : k < ps.length := by omega
    have hck : cs[k] = ps[k].1 := by simp only [hcs, List.getElem_map]
    rw [slOf_ne (ds := cs) (by intro h; rw [h] at hkl; simp at hkl)]
    refine KT.step rfl rfl (K.idxDK (k := 1) (m := k) rfl rfl hkl Try.underlying22 Try.size23) ?_
    rw [Nat.mul_one, List.drop_eq_getElem_cons hkl, hck]
    refine KT.step rfl rfl (K.load rfl Try.agg23) ?_
    refine KT.step rfl rfl (K.move rfl) ?_
    refine KT.step rfl rfl (K.call2 rfl rfl plainTry_78 (before78 (hp _ (List.getElem_mem hkp)).1 hq.1 (by rw [(hp _ (List.getElem_mem hkp)).2, hq.2]) (by rw [(hp _ (List.getElem_mem hkp)).2]; omega))) ?_
    refine KT.step rfl rfl (K.pick rfl (fun _ => rfl) (fun h => by cases h)) ?_
    refine KT.nil ?_
    refine thenK_n ?_
    refine KC.cond rfl (fun hc17 => ?_) (fun hc17 => ?_)
    · skip
      refine KC.skip ?_
      refine thenK_n ?_
      refine KC.block ?_
      refine KC.region ?_
      refine KT.step rfl rfl (K.move rfl) ?_
      refine KT.step rfl rfl (K.add rfl rfl (wrap_id (by omega))) ?_
      refine KT.step rfl rfl (K.assign rfl) ?_
      refine KT.nil ?_
      refine blockK_n ?_
      refine thenK_n ?_
      refine ⟨k + 1, ⟨by omega, fun j h hj => ?_⟩, by omega, rfl, by simp [Go.Vm.look, extK]⟩
      rcases Nat.lt_succ_iff_lt_or_eq.1 hj with h9 | rfl
      · exact hall j h h9
      · exact of_decide_eq_true hc17
    · skip
      refine KC.exit ?_
      refine thenK_x ?_
      refine thenK_x ?_
      refine blockK_e ?_
      refine thenK_n ?_
      refine KC.seq ?_
      refine KC.seq ?_
      refine KC.region ?_
      refine KT.step rfl rfl (K.move rfl) ?_
      refine KT.step rfl rfl (K.move rfl) ?_
      refine KT.step rfl rfl (K.len (l := cs) rfl (slc_vec hsc9) Try.underlying22) ?_
      refine KT.step rfl rfl (K.lss rfl rfl) ?_
      refine KT.step rfl rfl (K.move rfl) ?_
      refine KT.bcase (fun hb24 => ?_) (fun hb24 => ?_)
      · skip
        replace hb24 := of_decide_eq_true hb24
        refine KT.step rfl rfl (K.move rfl) ?_
        refine KT.step rfl rfl (K.move rfl) ?_
        have hkl : k < cs.length := by omega
        have hkp : k < ps.length := by omega
        have hck : cs[k] = ps[k].1 := by simp only [hcs, List.getElem_map]
        refine KT.step rfl rfl (K.idxDK (k := 1) (m := k) rfl rfl hkl Try.underlying22 Try.size23) ?_
        rw [Nat.mul_one, List.drop_eq_getElem_cons hkl, hck]
        refine KT.step rfl rfl (K.load rfl Try.agg23) ?_
        refine KT.step rfl rfl (K.move rfl) ?_
        refine KT.step rfl rfl (K.call2 rfl rfl plainTry_56 (requal56 (hp _ (List.getElem_mem hkp)).1 hq.1 (by rw [(hp _ (List.getElem_mem hkp)).2, hq.2]) (by rw [(hp _ (List.getElem_mem hkp)).2]; omega))) ?_
        refine KT.step rfl rfl (K.pick rfl (fun _ => rfl) (fun h => by cases h)) ?_
        refine KT.nil ?_
        refine thenK_n ?_
        refine KC.cond rfl (fun hc31 => ?_) (fun hc31 => ?_)
        · skip
          refine KC.seq ?_
          refine KC.region ?_
          refine KT.step rfl rfl (K.move rfl) ?_
          refine KT.step rfl rfl (K.assign rfl) ?_
          refine KT.nil ?_
          refine thenK_n ?_
          refine KC.ret ?_
          refine thenK_r ?_
          have hat := putP_at (l := ps) (q := q) (k := k) (by omega) hall (fun _ => of_decide_eq_false hc17)
          have hkl : k < ps.length := by omega
          rw [if_pos (by rw [List.getElem?_eq_getElem hkl, Option.map_some, of_decide_eq_true hc31])] at hat
          refine ⟨.inl rfl, _, rfl, fin_d ?_⟩
          rw [hat, ← hcs, slOf_ne (by intro h; rw [h] at hcl; simp at hcl; omega)]
        · skip
          refine KC.skip ?_
          refine thenK_n ?_
          refine KC.seq ?_
          refine KC.drawZ (fun _ => True) Try.mixed ?_
          refine KTZ.step rfl rfl (K.build0 Try.underlying22 Try.one23) ?_
          refine KTZ.step rfl rfl (K.move rfl) ?_
          refine KTZ.step rfl rfl (K.move rfl) ?_
          refine KTZ.toC rfl rfl rfl hsc9 rfl hkc Try.underlying22 Try.size23 fun ra hra => ?_
          refine KTZ.appC (id := 0) (cells := []) rfl rfl trivial rfl rfl rfl rfl hra (by rw [List.map_take]; exact all_sub hone fun x hx => List.mem_of_mem_take hx) (by simp; omega) Try.underlying22 Try.size23 (of_decide_eq_true (by kernel_rfl)) (by kernel_rfl) fun σc idc hic kc wc => ?_
          refine KTZ.step rfl rfl (K.move rfl) ?_
          refine KTZ.step rfl rfl (K.litSl (m := 1) (k := 1) (lo := 1) (qs := [(0, .d q.1)]) (cells := [.d q.1]) (d := .sl [q.1] 1 (some 1)) rfl (fun q hq => by simp only [List.mem_cons, List.not_mem_nil, or_false] at hq; rcases hq with rfl; exact ⟨_, rfl⟩) (build_one (SlD.of hq.1).cells Try.underlying22 Try.one23) (by rw [deepen_osl rfl rfl (by simp)]; rfl)) ?_
          refine KTZ.appC (cs := [q.1]) rfl rfl trivial rfl rfl hic (by simp) (.inr ⟨some 1, rfl⟩) (by simp [(SlD.of hq.1).one]) (by simp; omega) Try.underlying22 Try.size23 (of_decide_eq_true (by kernel_rfl)) (by kernel_rfl) fun σd idd hid kd wd => ?_
          refine KTZ.step rfl rfl (K.move rfl) ?_
          refine KTZ.step rfl rfl (K.move rfl) ?_
          refine KTZ.fromC rfl rfl rfl hsc9 rfl hkc Try.underlying22 Try.size23 nilDrop22 fun rb hrb => ?_
          refine KTZ.appC rfl rfl trivial rfl rfl hid (by simp) hrb (by rw [List.map_drop]; exact all_sub hone fun x hx => List.mem_of_mem_drop hx) (by simp; omega) Try.underlying22 Try.size23 (of_decide_eq_true (by kernel_rfl)) (by kernel_rfl) fun σe ide hie ke we => ?_
          refine KTZ.step rfl rfl (K.assign rfl) ?_
          refine KTZ.nil ?_
          refine ⟨by kernel_rfl, ?_⟩
          refine thenK_n ?_
          refine KC.ret ?_
          have hat := putP_at (l := ps) (q := q) (k := k) (by omega) hall (fun _ => of_decide_eq_false hc17)
          rw [if_neg (by rw [List.getElem?_eq_getElem (show k < ps.length by omega), Option.map_some]; intro h; exact of_decide_eq_false hc31 (Option.some.inj h))] at hat
          refine ⟨.inl rfl, _, rfl, ?_⟩
          have hce : (putP ps q).map (·.1) = cs.take k ++ q.1 :: cs.drop k := by rw [hat, List.map_append, List.map_cons, List.map_take, List.map_drop, ← hcs]
          have hlt := obj_lt hie
          rw [show ∀ b c : Bool, ((b && [q.1].isEmpty) && c) = false from fun b c => by simp, hce, slOf_ne (by simp)]
          have hlen : 0 + (cs.take k).length + [q.1].length + (cs.drop k).length = (cs.take k ++ q.1 :: cs.drop k).length := by simp; omega
          rw [hlen]
          exact deepen_cells (ds := cs.take k ++ q.1 :: cs.drop k) (fz_get hie) (by simp) rfl
      · skip
        replace hb24 := of_decide_eq_false hb24
        refine KT.skip rfl rfl ?_
        refine KT.skip rfl rfl ?_
        refine KT.skip rfl rfl ?_
        refine KT.skip rfl rfl ?_
        refine KT.skip rfl rfl ?_
        refine KT.skip rfl rfl ?_
        refine KT.step rfl rfl (K.pick rfl (fun h => by cases h) (fun _ => rfl)) ?_
        refine KT.nil ?_
        refine thenK_n ?_
        refine KC.cond rfl (fun hc31 => ?_) (fun hc31 => ?_)
        · cases hc31
        · skip
          refine KC.skip ?_
          refine thenK_n ?_
          refine KC.seq ?_
          refine KC.drawZ (fun _ => True) Try.mixed ?_
          refine KTZ.step rfl rfl (K.build0 Try.underlying22 Try.one23) ?_
          refine KTZ.step rfl rfl (K.move rfl) ?_
          refine KTZ.step rfl rfl (K.move rfl) ?_
          refine KTZ.toC rfl rfl rfl hsc9 rfl hkc Try.underlying22 Try.size23 fun ra hra => ?_
          refine KTZ.appC (id := 0) (cells := []) rfl rfl trivial rfl rfl rfl rfl hra (by rw [List.map_take]; exact all_sub hone fun x hx => List.mem_of_mem_take hx) (by simp; omega) Try.underlying22 Try.size23 (of_decide_eq_true (by kernel_rfl)) (by kernel_rfl) fun σc idc hic kc wc => ?_
          refine KTZ.step rfl rfl (K.move rfl) ?_
          refine KTZ.step rfl rfl (K.litSl (m := 1) (k := 1) (lo := 1) (qs := [(0, .d q.1)]) (cells := [.d q.1]) (d := .sl [q.1] 1 (some 1)) rfl (fun q hq => by simp only [List.mem_cons, List.not_mem_nil, or_false] at hq; rcases hq with rfl; exact ⟨_, rfl⟩) (build_one (SlD.of hq.1).cells Try.underlying22 Try.one23) (by rw [deepen_osl rfl rfl (by simp)]; rfl)) ?_
          refine KTZ.appC (cs := [q.1]) rfl rfl trivial rfl rfl hic (by simp) (.inr ⟨some 1, rfl⟩) (by simp [(SlD.of hq.1).one]) (by simp; omega) Try.underlying22 Try.size23 (of_decide_eq_true (by kernel_rfl)) (by kernel_rfl) fun σd idd hid kd wd => ?_
          refine KTZ.step rfl rfl (K.move rfl) ?_
          refine KTZ.step rfl rfl (K.move rfl) ?_
          refine KTZ.fromC rfl rfl rfl hsc9 rfl hkc Try.underlying22 Try.size23 nilDrop22 fun rb hrb => ?_
          refine KTZ.appC rfl rfl trivial rfl rfl hid (by simp) hrb (by rw [List.map_drop]; exact all_sub hone fun x hx => List.mem_of_mem_drop hx) (by simp; omega) Try.underlying22 Try.size23 (of_decide_eq_true (by kernel_rfl)) (by kernel_rfl) fun σe ide hie ke we => ?_
          refine KTZ.step rfl rfl (K.assign rfl) ?_
          refine KTZ.nil ?_
          refine ⟨by kernel_rfl, ?_⟩
          refine thenK_n ?_
          refine KC.ret ?_
          have hat := putP_at (l := ps) (q := q) (k := k) (by omega) hall (fun _ => of_decide_eq_false hc17)
          rw [if_neg (by rw [List.getElem?_eq_none (by omega)]; intro h; cases h)] at hat
          refine ⟨.inl rfl, _, rfl, ?_⟩
          have hce : (putP ps q).map (·.1) = cs.take k ++ q.1 :: cs.drop k := by rw [hat, List.map_append, List.map_cons, List.map_take, List.map_drop, ← hcs]
          have hlt := obj_lt hie
          rw [show ∀ b c : Bool, ((b && [q.1].isEmpty) && c) = false from fun b c => by simp, hce, slOf_ne (by simp)]
          have hlen : 0 + (cs.take k).length + [q.1].length + (cs.drop k).length = (cs.take k ++ q.1 :: cs.drop k).length := by simp; omega
          rw [hlen]
          exact deepen_cells (ds := cs.take k ++ q.1 :: cs.drop k) (fz_get hie) (by simp) rfl
  · skip
    replace hb10 := of_decide_eq_false hb10
    refine KT.skip rfl rfl ?_
    refine KT.skip rfl rfl ?_
    refine KT.skip rfl rfl ?_
    refine KT.skip rfl rfl ?_
    refine KT.skip rfl rfl ?_
    refine KT.skip rfl rfl ?_
    refine KT.step rfl rfl (K.pick rfl (fun h => by cases h) (fun _ => rfl)) ?_
    refine KT.nil ?_
    refine thenK_n ?_
    refine KC.cond rfl (fun hc17 => ?_) (fun hc17 => ?_)
    · cases hc17
    · skip
      refine KC.exit ?_
      refine thenK_x ?_
      refine thenK_x ?_
      refine blockK_e ?_
      refine thenK_n ?_
      refine KC.seq ?_
      refine KC.seq ?_
      refine KC.region ?_
      refine KT.step rfl rfl (K.move rfl) ?_
      refine KT.step rfl rfl (K.move rfl) ?_
      refine KT.step rfl rfl (K.len (l := cs) rfl (slc_vec hsc) Try.underlying22) ?_
      refine KT.step rfl rfl (K.lss rfl rfl) ?_
      refine KT.step rfl rfl (K.move rfl) ?_
      refine KT.bcase (fun hb24 => ?_) (fun hb24 => ?_)
      · skip
        replace hb24 := of_decide_eq_true hb24
        refine KT.step rfl rfl (K.move rfl) ?_
        refine KT.step rfl rfl (K.move rfl) ?_
        have hkl : k < cs.length := by omega
        have hkp : k < ps.length := by omega
        have hck : cs[k] = ps[k].1 := by simp only [hcs, List.getElem_map]
        rw [slOf_ne (ds := cs) (by intro h; rw [h] at hkl; simp at hkl)]
        refine KT.step rfl rfl (K.idxDK (k := 1) (m := k) rfl rfl hkl Try.underlying22 Try.size23) ?_
        rw [Nat.mul_one, List.drop_eq_getElem_cons hkl, hck]
        refine KT.step rfl rfl (K.load rfl Try.agg23) ?_
        refine KT.step rfl rfl (K.move rfl) ?_
        refine KT.step rfl rfl (K.call2 rfl rfl plainTry_56 (requal56 (hp _ (List.getElem_mem hkp)).1 hq.1 (by rw [(hp _ (List.getElem_mem hkp)).2, hq.2]) (by rw [(hp _ (List.getElem_mem hkp)).2]; omega))) ?_
        refine KT.step rfl rfl (K.pick rfl (fun _ => rfl) (fun h => by cases h)) ?_
        refine KT.nil ?_
        refine thenK_n ?_
        refine KC.cond rfl (fun hc31 => ?_) (fun hc31 => ?_)
        · skip
          refine KC.seq ?_
          refine KC.region ?_
          refine KT.step rfl rfl (K.move rfl) ?_
          refine KT.step rfl rfl (K.assign rfl) ?_
          refine KT.nil ?_
          refine thenK_n ?_
          refine KC.ret ?_
          refine thenK_r ?_
          exfalso; omega
        · skip
          refine KC.skip ?_
          refine thenK_n ?_
          refine KC.seq ?_
          refine KC.drawZ (fun _ => True) Try.mixed ?_
          refine KTZ.step rfl rfl (K.build0 Try.underlying22 Try.one23) ?_
          refine KTZ.step rfl rfl (K.move rfl) ?_
          refine KTZ.step rfl rfl (K.move rfl) ?_
          refine KTZ.toC rfl rfl rfl hsc9 rfl hkc Try.underlying22 Try.size23 fun ra hra => ?_
          refine KTZ.appC (id := 0) (cells := []) rfl rfl trivial rfl rfl rfl rfl hra (by rw [List.map_take]; exact all_sub hone fun x hx => List.mem_of_mem_take hx) (by simp; omega) Try.underlying22 Try.size23 (of_decide_eq_true (by kernel_rfl)) (by kernel_rfl) fun σc idc hic kc wc => ?_
          refine KTZ.step rfl rfl (K.move rfl) ?_
          refine KTZ.step rfl rfl (K.litSl (m := 1) (k := 1) (lo := 1) (qs := [(0, .d q.1)]) (cells := [.d q.1]) (d := .sl [q.1] 1 (some 1)) rfl (fun q hq => by simp only [List.mem_cons, List.not_mem_nil, or_false] at hq; rcases hq with rfl; exact ⟨_, rfl⟩) (build_one (SlD.of hq.1).cells Try.underlying22 Try.one23) (by rw [deepen_osl rfl rfl (by simp)]; rfl)) ?_
          refine KTZ.appC (cs := [q.1]) rfl rfl trivial rfl rfl hic (by simp) (.inr ⟨some 1, rfl⟩) (by simp [(SlD.of hq.1).one]) (by simp; omega) Try.underlying22 Try.size23 (of_decide_eq_true (by kernel_rfl)) (by kernel_rfl) fun σd idd hid kd wd => ?_
          refine KTZ.step rfl rfl (K.move rfl) ?_
          refine KTZ.step rfl rfl (K.move rfl) ?_
          refine KTZ.fromC rfl rfl rfl hsc9 rfl hkc Try.underlying22 Try.size23 nilDrop22 fun rb hrb => ?_
          refine KTZ.appC rfl rfl trivial rfl rfl hid (by simp) hrb (by rw [List.map_drop]; exact all_sub hone fun x hx => List.mem_of_mem_drop hx) (by simp; omega) Try.underlying22 Try.size23 (of_decide_eq_true (by kernel_rfl)) (by kernel_rfl) fun σe ide hie ke we => ?_
          refine KTZ.step rfl rfl (K.assign rfl) ?_
          refine KTZ.nil ?_
          refine ⟨by kernel_rfl, ?_⟩
          refine thenK_n ?_
          refine KC.ret ?_
          exfalso; omega
      · skip
        replace hb24 := of_decide_eq_false hb24
        refine KT.skip rfl rfl ?_
        refine KT.skip rfl rfl ?_
        refine KT.skip rfl rfl ?_
        refine KT.skip rfl rfl ?_
        refine KT.skip rfl rfl ?_
        refine KT.skip rfl rfl ?_
        refine KT.step rfl rfl (K.pick rfl (fun h => by cases h) (fun _ => rfl)) ?_
        refine KT.nil ?_
        refine thenK_n ?_
        refine KC.cond rfl (fun hc31 => ?_) (fun hc31 => ?_)
        · cases hc31
        · skip
          refine KC.skip ?_
          refine thenK_n ?_
          refine KC.seq ?_
          refine KC.drawZ (fun _ => True) Try.mixed ?_
          refine KTZ.step rfl rfl (K.build0 Try.underlying22 Try.one23) ?_
          refine KTZ.step rfl rfl (K.move rfl) ?_
          refine KTZ.step rfl rfl (K.move rfl) ?_
          refine KTZ.toC rfl rfl rfl hsc rfl hkc Try.underlying22 Try.size23 fun ra hra => ?_
          refine KTZ.appC (id := 0) (cells := []) rfl rfl trivial rfl rfl rfl rfl hra (by rw [List.map_take]; exact all_sub hone fun x hx => List.mem_of_mem_take hx) (by simp; omega) Try.underlying22 Try.size23 (of_decide_eq_true (by kernel_rfl)) (by kernel_rfl) fun σc idc hic kc wc => ?_
          refine KTZ.step rfl rfl (K.move rfl) ?_
          refine KTZ.step rfl rfl (K.litSl (m := 1) (k := 1) (lo := 1) (qs := [(0, .d q.1)]) (cells := [.d q.1]) (d := .sl [q.1] 1 (some 1)) rfl (fun q hq => by simp only [List.mem_cons, List.not_mem_nil, or_false] at hq; rcases hq with rfl; exact ⟨_, rfl⟩) (build_one (SlD.of hq.1).cells Try.underlying22 Try.one23) (by rw [deepen_osl rfl rfl (by simp)]; rfl)) ?_
          refine KTZ.appC (cs := [q.1]) rfl rfl trivial rfl rfl hic (by simp) (.inr ⟨some 1, rfl⟩) (by simp [(SlD.of hq.1).one]) (by simp; omega) Try.underlying22 Try.size23 (of_decide_eq_true (by kernel_rfl)) (by kernel_rfl) fun σd idd hid kd wd => ?_
          refine KTZ.step rfl rfl (K.move rfl) ?_
          refine KTZ.step rfl rfl (K.move rfl) ?_
          refine KTZ.fromC rfl rfl rfl hsc rfl hkc Try.underlying22 Try.size23 nilDrop22 fun rb hrb => ?_
          refine KTZ.appC rfl rfl trivial rfl rfl hid (by simp) hrb (by rw [List.map_drop]; exact all_sub hone fun x hx => List.mem_of_mem_drop hx) (by simp; omega) Try.underlying22 Try.size23 (of_decide_eq_true (by kernel_rfl)) (by kernel_rfl) fun σe ide hie ke we => ?_
          refine KTZ.step rfl rfl (K.assign rfl) ?_
          refine KTZ.nil ?_
          refine ⟨by kernel_rfl, ?_⟩
          refine thenK_n ?_
          refine KC.ret ?_
          have hat := putP_at (l := ps) (q := q) (k := k) (by omega) hall (fun h => absurd h (by omega))
          rw [if_neg (by rw [List.getElem?_eq_none (by omega)]; intro h; cases h)] at hat
          refine ⟨.inl rfl, _, rfl, ?_⟩
          have hce : (putP ps q).map (·.1) = cs.take k ++ q.1 :: cs.drop k := by rw [hat, List.map_append, List.map_cons, List.map_take, List.map_drop, ← hcs]
          have hlt := obj_lt hie
          rw [show ∀ b c : Bool, ((b && [q.1].isEmpty) && c) = false from fun b c => by simp, hce, slOf_ne (by simp)]
          have hlen : 0 + (cs.take k).length + [q.1].length + (cs.drop k).length = (cs.take k ++ q.1 :: cs.drop k).length := by simp; omega
          rw [hlen]
          exact deepen_cells (ds := cs.take k ++ q.1 :: cs.drop k) (fz_get hie) (by simp) rfl
end Go.Proofs.Ytocgjopmlhpjdaa

