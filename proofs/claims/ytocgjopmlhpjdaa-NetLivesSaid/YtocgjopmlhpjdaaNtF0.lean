import Derived.Test.YtocgjopmlhpjdaaNtE
import Derived.Test.YtocgjopmlhpjdaaNtWq
/-
  Nets: the reference: reach.
-/
namespace Go.Proofs.Ytocgjopmlhpjdaa
open Go.Vm Go.RowKit Go.Nt
theorem plainTry_43 : plainFn Try.prog 43 = true := by kernel_rfl
theorem build80_2 {a b : Nat} : opBuild Try.prog 80 [(0, .osl a 0 1 1 1 true), (1, .osl b 0 1 1 1 true)] = some (aggX [.osl a 0 1 1 1 true, .osl b 0 1 1 1 true, .d Dnil]) := by kernel_rfl

/-- What the reference keeps of the firings at a node. -/
def rE (fs : List Ent) : Option (List Int) → Int
  | none => -1
  | some m' => ((place (marks fs) m' : Nat) : Int)
def rN (nx : List Int → Nat → Option (List Int)) (fs : List Ent) (m : List Int) (t : Nat) : List Int := (List.range t).map fun u => rE fs (nx m u)
theorem rN_len (nx : List Int → Nat → Option (List Int)) (fs : List Ent) (m : List Int) (t : Nat) : (rN nx fs m t).length = t := by simp [rN]
theorem rN_succ (nx : List Int → Nat → Option (List Int)) (fs : List Ent) (m : List Int) (t : Nat) : rN nx fs m (t + 1) = rN nx fs m t ++ [rE fs (nx m t)] := by
  unfold rN; rw [List.range_succ, List.map_append]; rfl
theorem rN_grow {nx : List Int → Nat → Option (List Int)} {fs : List Ent} {m : List Int} {t : Nat} (h : Closed nx fs m t) (l : List Ent) : rN nx (fs ++ l) m t = rN nx fs m t := by
  unfold rN
  refine List.map_congr_left fun u hu => ?_
  have hu := List.mem_range.1 hu
  cases hm : nx m u with
  | none => rfl
  | some m' => simp only [rE]; rw [marks_append, place_append _ (h u m' hu hm)]
def rNN (nx : List Int → Nat → Option (List Int)) (T : Nat) (fs : List Ent) (i : Nat) : List (List Int) := (List.range i).map fun k => rN nx fs (mrk fs k) T
def ClosedB (nx : List Int → Nat → Option (List Int)) (T : Nat) (fs : List Ent) (i : Nat) : Prop := ∀ k, k < i → Closed nx fs (mrk fs k) T
theorem rNN_grow {nx : List Int → Nat → Option (List Int)} {T : Nat} {fs : List Ent} {i : Nat} (hi : i ≤ fs.length) (h : ClosedB nx T fs i) (l : List Ent) : rNN nx T (fs ++ l) i = rNN nx T fs i := by
  unfold rNN
  refine List.map_congr_left fun k hk => ?_
  have hk := List.mem_range.1 hk
  rw [mrk_app (by omega), rN_grow (h k hk)]
theorem ClosedB.grow {nx : List Int → Nat → Option (List Int)} {T : Nat} {fs : List Ent} {i : Nat} (hi : i ≤ fs.length) (h : ClosedB nx T fs i) (l : List Ent) : ClosedB nx T (fs ++ l) i := fun k hk => by
  rw [mrk_app (by omega)]; exact (h k hk).grow l
def wrdV (fs : List Ent) : List DV := fs.map fun e => wV e.2.2.2
def nV (r : List Int) : DV := .sl (r.map DI) r.length none
def iX (r : List Int) : List XV := (r.map DI).map .d
def rgF (xm xw xr xo : XV) (c : DV) (fs : List Ent) (N : List (List Int)) (r : List Int) : List (Nat × XV × List XV) :=
  [(1, xm, (mkV c fs).map .d), (1, xw, (wrdV fs).map .d), (1, xr, (N.map nV).map .d), (1, xo, iX r)]
/-- The reference's graph while it grows; B: where the call's objects begin. -/
structure RgM (σ0 σ : List VObj) (B : Nat) (xm xw xr xo : XV) (c : DV) (fs : List Ent) (N : List (List Int)) (r : List Int) : Prop where
  g : σ[B + 3]? = some ⟨[xm, xw, xr], 0⟩
  f : FamL σ (rgF xm xw xr xo c fs N r)
  og : OffL (rgF xm xw xr xo c fs N r) (B + 3)
  lo : B + 4 ≤ σ.length
  out : ∀ e, e ≤ B → σ[e]? = σ0[e]? ∧ OffL (rgF xm xw xr xo c fs N r) e
theorem word_len {nx : List Int → Nat → Option (List Int)} {T n : Nat} {s : List Int} {fs : List Ent} (h : InvE nx T n s fs) : ∀ (i : Nat) (e : Ent), fs[i]? = some e → e.2.2.2.length ≤ i := by
  intro i
  induction i using Nat.strongRecOn with
  | _ i ih =>
    intro e he
    by_cases h0 : i = 0
    · subst h0; rw [h.hd] at he; cases he; exact Nat.le_refl _
    · obtain ⟨h1, _, p, h2, _, h3⟩ := h.ch i e he (by omega)
      have := ih _ h1 p h2
      rw [h3, List.length_append, List.length_singleton]; omega
theorem rfire_some {pre post : List (List Int)} {n : Nat} {x m' : List Int} {t : Nat} (_ : NetOk pre post n) (ht : t < pre.length) {ht2 : t < post.length} (h : nxN pre post x t = some m') :
    (if withinB pre[t] x then DV.tup [numD x.length (fireW (tk post[t]) (tk pre[t]) (tk x)), DB true] else .tup [Dnil, DB false]) = .tup [numV m', DB true] := by
  have e1 : pre.getD t [] = pre[t] := by simp [ht]
  have e2 : post.getD t [] = post[t] := by simp [ht2]
  unfold nxN at h
  rw [e1, e2] at h
  split at h
  · rename_i hw
    cases h
    rw [if_pos hw, numD_V]
  · cases h
theorem rfire_none {pre post : List (List Int)} {n : Nat} {x : List Int} {t : Nat} (_ : NetOk pre post n) (ht : t < pre.length) {ht2 : t < post.length} (h : nxN pre post x t = none) :
    (if withinB pre[t] x then DV.tup [numD x.length (fireW (tk post[t]) (tk pre[t]) (tk x)), DB true] else .tup [Dnil, DB false]) = .tup [Dnil, DB false] := by
  rw [if_neg (by rw [(nxN_none ht).1 h]; decide)]
theorem slc_wV (w : List Nat) : SlC (wV w) (w.map fun i => DI (i : Nat)) := by
  cases w with
  | nil => exact .inl ⟨rfl, rfl⟩
  | cons a w => exact .inr ⟨none, by simp [wV]⟩
theorem wrdV_snoc (fs : List Ent) (e : Ent) : wrdV (fs ++ [e]) = wrdV fs ++ [wV e.2.2.2] := by simp [wrdV]
theorem findZ_neg {fs : List Ent} {m : List Int} (h : findZ fs m < 0) : m ∉ marks fs := fun hm => by
  unfold findZ at h; rw [if_pos hm] at h; omega
theorem findZ_pos {fs : List Ent} {m : List Int} (h : ¬ findZ fs m < 0) : m ∈ marks fs := by
  refine Classical.byContradiction fun hm => h ?_
  unfold findZ; rw [if_neg hm]; decide
theorem ints_one2 (ds : List DV) (h : ∀ d ∈ ds, ∃ z, d = DI z) : (ds.map XV.d).all oneX = true := by
  rw [List.all_map, List.all_eq_true]
  intro x hx
  obtain ⟨z, rfl⟩ := h x hx
  rfl
theorem wr_one (w : List Nat) : ((w.map fun i => DI ((i : Nat) : Int)).map XV.d).all oneX = true := ints_one2 _ fun d hd => by
  obtain ⟨i, _, rfl⟩ := List.mem_map.1 hd
  exact ⟨_, rfl⟩
theorem sld_ints {d : DV} {l : List Int} (h : Ints d l) : SlD d := SlD.of h
theorem _root_.Go.Vm.FamL.four {σ : List VObj} {a b c d : Nat × XV × List XV} (h1 : OwnL a.1 σ a.2.1 a.2.2) (h2 : OwnL b.1 σ b.2.1 b.2.2) (h3 : OwnL c.1 σ c.2.1 c.2.2) (h4 : OwnL d.1 σ d.2.1 d.2.2)
    (ab : ∀ id, idX a.2.1 = some id → idX b.2.1 ≠ some id) (ac : ∀ id, idX a.2.1 = some id → idX c.2.1 ≠ some id) (ad : ∀ id, idX a.2.1 = some id → idX d.2.1 ≠ some id)
    (bc : ∀ id, idX b.2.1 = some id → idX c.2.1 ≠ some id) (bd : ∀ id, idX b.2.1 = some id → idX d.2.1 ≠ some id) (cd : ∀ id, idX c.2.1 = some id → idX d.2.1 ≠ some id) : FamL σ [a, b, c, d] := by
  refine ⟨fun p hp => ?_, ?_⟩
  · simp only [List.mem_cons, List.not_mem_nil, or_false] at hp
    rcases hp with rfl | rfl | rfl | rfl <;> assumption
  · simp only [List.pairwise_cons, List.mem_cons, List.not_mem_nil, or_false, List.Pairwise.nil, and_true, forall_eq_or_imp, forall_eq]
    exact ⟨⟨ab, ac, ad⟩, ⟨bc, bd⟩, cd, fun _ h => h.elim⟩
theorem _root_.Go.Vm.FamL.un4 {σ : List VObj} {a b c d : Nat × XV × List XV} (h : FamL σ [a, b, c, d]) : OwnL a.1 σ a.2.1 a.2.2 ∧ OwnL b.1 σ b.2.1 b.2.2 ∧ OwnL c.1 σ c.2.1 c.2.2 ∧ OwnL d.1 σ d.2.1 d.2.2 ∧
    (∀ id, idX a.2.1 = some id → idX b.2.1 ≠ some id) ∧ (∀ id, idX a.2.1 = some id → idX c.2.1 ≠ some id) ∧ (∀ id, idX a.2.1 = some id → idX d.2.1 ≠ some id) ∧ (∀ id, idX b.2.1 = some id → idX c.2.1 ≠ some id) ∧ (∀ id, idX b.2.1 = some id → idX d.2.1 ≠ some id) ∧ ∀ id, idX c.2.1 = some id → idX d.2.1 ≠ some id := by
  have h2 := h.ap
  simp only [List.pairwise_cons, List.mem_cons, List.not_mem_nil, or_false, List.Pairwise.nil, and_true, forall_eq_or_imp, forall_eq] at h2
  exact ⟨h.own a (by simp), h.own b (by simp), h.own c (by simp), h.own d (by simp), h2.1.1, h2.1.2.1, h2.1.2.2, h2.2.1.1, h2.2.1.2, h2.2.2.1⟩
theorem _root_.Go.Vm.OffL.four {a b c d : Nat × XV × List XV} {e : Nat} : OffL [a, b, c, d] e ↔ idX a.2.1 ≠ some e ∧ idX b.2.1 ≠ some e ∧ idX c.2.1 ≠ some e ∧ idX d.2.1 ≠ some e := by
  unfold OffL
  simp
theorem _root_.Go.Vm.OwnL.is {k : Nat} {σ : List VObj} {x : XV} {cells : List XV} {n : Nat} (h : OwnL k σ x cells) (hn : cells.length = n * k) (hk : 0 < k) (h0 : 0 < n) : ∃ id ex, x = .osl id 0 n k n ex ∧ σ[id]? = some ⟨cells, 0⟩ := by
  cases h with
  | own h =>
    obtain ⟨id, h1, h2⟩ := h.is hn hk h0
    exact ⟨id, false, h1, h2⟩
  | @lit id m cells h hm =>
    have : m = n := Nat.eq_of_mul_eq_mul_right hk (hm.symm.trans hn)
    subst this
    exact ⟨id, true, rfl, h⟩
theorem _root_.Go.Vm.OwnL.cells {k : Nat} {σ : List VObj} {x : XV} {cells : List XV} (h : OwnL k σ x cells) : cellsX x = [x] ∧ oneX x = true := by
  cases h with
  | own h => exact h.cells
  | lit h hn => exact ⟨rfl, rfl⟩
/-- The state at a round's head. -/
structure ExR (pre post : List (List Int)) (n : Nat) (s : List Int) (fs : List Ent) (i : Nat) : Prop where
  inv : InvE (nxN pre post) pre.length n s fs
  cl : ClosedB (nxN pre post) pre.length fs i
  le : i ≤ fs.length
  lim : fs.length ≤ 2000
  bf : bfs (nxN pre post) pre.length 2000 (2001 - i) i fs = reachE (nxN pre post) pre.length 2000 s
/-- What reach leaves behind. -/
def RchQ (pre post : List (List Int)) (s : List Int) (c : DV) (σ : List VObj) (σ' : List VObj) (x : XV) : Prop :=
  match reachE (nxN pre post) pre.length 2000 s with
  | none => x = .tup [.d (.lit (.pointer none)), .d (DI 3)]
  | some fs => ∃ (gid : Nat) (xm xw xr : XV), x = .tup [.optr gid 0, .d (DI 0)] ∧ σ'[gid]? = some ⟨[xm, xw, xr], 0⟩ ∧ FamL σ' (rgF xm xw xr (.d Dnil) c fs (rNN (nxN pre post) pre.length fs fs.length) []) ∧
      (∀ e, e < σ.length → σ'[e]? = σ[e]? ∧ OffL (rgF xm xw xr (.d Dnil) c fs (rNN (nxN pre post) pre.length fs fs.length) []) e) ∧ σ.length ≤ gid ∧ OffL (rgF xm xw xr (.d Dnil) c fs (rNN (nxN pre post) pre.length fs fs.length) []) gid
end Go.Proofs.Ytocgjopmlhpjdaa

