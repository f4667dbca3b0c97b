import Derived.Test.YthbnnffmhnjpjaaCyV
/-
  MATRICES THAT ARE MADE BY A FUNCTION VALUE, behind other objects.
-/
namespace Go.Vm
open Go.RowKit

/-- A contract on deep values, among objects. -/
theorem DeepCall.own {P : Program} {f : FuncId} {args : List DV} {res : DV} (h : DeepCall P f args res) (σ : List VObj) : OwnCall P f σ (args.map .d) σ (.d res) := by
  intro M W0 ι w vs hm hl hx
  refine (h (Forb M ι σ) w vs hm.forb_lt (by simpa using hl) fun i v x hv hx' => ?_).mono fun e w' => ?_
  · have := hx i v (.d x) hv (by simp [hx'])
    cases this with
    | d h => exact h
  · rintro ⟨v, rfl, h1, h2⟩
    obtain ⟨g1, g2⟩ := hm.grown h2
    exact ⟨ι, σ, .d res, v, rfl, g1, g2, .d h1, rfl, rfl⟩

section
variable (L N : Nat) (f : Nat → Nat → Int)
def oslL (k : Nat) : XV := .osl (L + k + 1) 0 N 1 N true
def gP (i : Nat) : List VObj := ⟨updL N (oslL L N) (.d Dnil) i, 0⟩ :: doneG N f i
def gQ (i j : Nat) : List VObj := ⟨updL N (oslL L N) (.d Dnil) (i + 1), 0⟩ :: (doneG N f i ++ [⟨rowC N f i j, 0⟩])
end
section
variable {L N : Nat} {f : Nat → Nat → Int} {pre : List VObj}
theorem gP_zero : gP L N f 0 = [⟨List.replicate N (.d Dnil), 0⟩] := by rw [updL_zero (f := oslL L N)]; rfl
theorem gP_len (i : Nat) : (gP L N f i).length = i + 1 := by simp [gP, doneG_len]
theorem gQ_len (i j : Nat) : (gQ L N f i j).length = i + 2 := by simp [gQ, doneG_len]
theorem gP_at (h : pre.length = L) (i : Nat) : (pre ++ gP L N f i)[L]? = some ⟨updL N (oslL L N) (.d Dnil) i, 0⟩ := by
  rw [List.getElem?_append_right (by omega), h]; simp [gP]
theorem gQ_at (h : pre.length = L) (i j : Nat) : (pre ++ gQ L N f i j)[L]? = some ⟨updL N (oslL L N) (.d Dnil) (i + 1), 0⟩ := by
  rw [List.getElem?_append_right (by omega), h]; simp [gQ]
theorem gP_start (h : pre.length = L) {i : Nat} (hi : i < N) :
    ((pre ++ gP L N f i) ++ [(⟨List.replicate N (XV.d (.lit (.int .i64 0))), 0⟩ : VObj)]).set L ⟨(updL N (oslL L N) (.d Dnil) i).set (0 + i) (.osl (pre ++ gP L N f i).length 0 N 1 N true), 0⟩ = pre ++ gQ L N f i 0 := by
  rw [List.append_assoc, List.set_append_right _ _ (by omega), h, List.length_append, gP_len, h, Nat.zero_add, show XV.osl (L + (i + 1)) 0 N 1 N true = oslL L N i from rfl, updL_set hi, updL_zero (f := rowF f i), Nat.sub_self]
  rfl
theorem gQ_row (h : pre.length = L) (i j : Nat) : (pre ++ gQ L N f i j)[L + i + 1]? = some ⟨rowC N f i j, 0⟩ := by
  rw [List.getElem?_append_right (by omega), show L + i + 1 - pre.length = i + 1 by omega]
  simp only [gQ, List.getElem?_cons_succ]
  rw [List.getElem?_append_right (by rw [doneG_len]; omega), doneG_len]; simp
theorem gQ_step (h : pre.length = L) {i j : Nat} (hj : j < N) : (pre ++ gQ L N f i j).set (L + i + 1) ⟨(rowC N f i j).set (0 + j) (.d (DI (f i j))), 0⟩ = pre ++ gQ L N f i (j + 1) := by
  rw [Nat.zero_add, show rowC N f i j = updL N (rowF f i) _ j from rfl, show XV.d (DI (f i j)) = rowF f i j from rfl, updL_set hj, List.set_append_right _ _ (by omega), show L + i + 1 - pre.length = i + 1 by omega]
  simp only [gQ, List.set_cons_succ]
  rw [List.set_append_right _ _ (by rw [doneG_len]; omega), doneG_len]
  simp [rowC]
theorem gQ_end (i : Nat) : gQ L N f i N = gP L N f (i + 1) := by rw [gQ, gP, doneG_succ]
theorem oslL_get {i : Nat} (hi : i < N) : (updL N (oslL L N) (.d Dnil) (i + 1))[0 + i]? = some (.osl (L + i + 1) 0 N 1 N true) := by
  rw [Nat.zero_add, updL_get hi (by omega)]; rfl
theorem rowC_len' (i j : Nat) : (rowC N f i j).length = N := updL_len
theorem gP_fin (h : pre.length = L) : deepen (freezeAll (pre ++ gP L N f N)) 5 (.osl L 0 N 1 N true) = some (genD N N f) := by
  have hf : freezeAll (gP L N f N) = ⟨updL N (oslL L N) (.d Dnil) N, 1⟩ :: (List.range N).map fun i => (⟨((List.range N).map fun j => DI (f i j)).map XV.d, 1⟩ : VObj) := by
    simp [freezeAll, gP, doneG, Function.comp_def, rowC, updL_full, rowF]
  have hpl : (freezeAll pre).length = L := by simp [freezeAll, h]
  have hfa : freezeAll (pre ++ gP L N f N) = freezeAll pre ++ freezeAll (gP L N f N) := by simp [freezeAll]
  have hlen : (updL N (oslL L N) (.d Dnil) N).length = N := updL_len
  rw [hfa, hf, deepen_osl (ob := ⟨updL N (oslL L N) (.d Dnil) N, 1⟩) (by rw [List.getElem?_append_right (by omega), hpl]; simp) rfl (by simp [hlen])]
  have h2 : ((updL N (oslL L N) (.d Dnil) N).drop 0).take (N * 1) = (List.range N).map (oslL L N) := by rw [List.drop_zero, Nat.mul_one, List.take_of_length_le (by omega), updL_full (Nat.le_refl _)]
  rw [show ((⟨updL N (oslL L N) (.d Dnil) N, 1⟩ : VObj).cells.drop 0).take (N * 1) = (List.range N).map (oslL L N) from h2]
  have hall : ∀ (l : List Nat), (∀ i ∈ l, i < N) → (l.map (oslL L N)).mapM (deepen (freezeAll pre ++ (⟨updL N (oslL L N) (.d Dnil) N, 1⟩ :: (List.range N).map fun i => (⟨((List.range N).map fun j => DI (f i j)).map XV.d, 1⟩ : VObj))) 4) = some (l.map fun k => rowG N (f k)) := by
    intro l
    induction l with
    | nil => intro _; rfl
    | cons i l ih =>
      intro hl
      have hi := hl i (by simp)
      rw [List.map_cons, List.mapM_cons, ih (fun k hk => hl k (by simp [hk]))]
      rw [show oslL L N i = .osl (L + i + 1) 0 N 1 N true from rfl, deepen_cells (k := 2) (R := N) (ds := (List.range N).map fun j => DI (f i j)) (by
        rw [List.getElem?_append_right (by omega), hpl, show L + i + 1 - L = i + 1 by omega]; simp [hi]) rfl (by simp)]
      rfl
  rw [hall (List.range N) (fun i hi => by simpa using hi)]; rfl
theorem keeps_pre {pre2 τ : List VObj} (h : pre.length = L) (h2 : pre2.length = L) : KeepsZ (fun id => id < L) (pre ++ τ) (pre2 ++ τ) := fun id ob hz ho => by
  simp only [Nat.not_lt] at hz
  refine ⟨ob, ?_, rfl, Iff.rfl⟩
  rw [List.getElem?_append_right (by omega)] at ho ⊢
  rw [h2, ← h]; exact ho
end
end Go.Vm
namespace Go.Vm
/-- Cells of which the first k have turned. -/
def mixL (n : Nat) (f old : Nat → XV) (k : Nat) : List XV := (List.range n).map fun q => if q < k then f q else old q
theorem mixL_len {n : Nat} {f old : Nat → XV} {k : Nat} : (mixL n f old k).length = n := by simp [mixL]
theorem mixL_zero {n : Nat} {f old : Nat → XV} : mixL n f old 0 = (List.range n).map old := by simp [mixL]
theorem mixL_full {n : Nat} {f old : Nat → XV} : mixL n f old n = (List.range n).map f := by
  refine List.map_congr_left fun q hq => ?_
  rw [if_pos (by simpa using hq)]
theorem mixL_set {n : Nat} {f old : Nat → XV} {k : Nat} (hk : k < n) : (mixL n f old k).set (0 + k) (f k) = mixL n f old (k + 1) := by
  refine List.ext_getElem (by simp [mixL]) fun i h1 h2 => ?_
  simp only [mixL, Nat.zero_add, List.getElem_set, List.getElem_map, List.getElem_range]
  by_cases e : k = i
  · subst e; simp
  · rw [if_neg e]
    by_cases h : i < k
    · rw [if_pos h, if_pos (by omega)]
    · rw [if_neg h, if_neg (by omega)]
end Go.Vm
namespace Go.Vm
section
variable {P : Program} {σ : List VObj} {kn : Kn} {dst : Option Tmp} {ty : TypeId} {pos : String} {af : Array Edge} {g : Option (Nat × Bool)}
/-- A function value that brings variables. -/
theorem K.makeF {fn : Fn} {caps : Array Operand} {xs : List XV} {x : Operand} {v : XV} {m : Nat} (ha : caps.toList.mapM (evK kn) = some xs) (hx : caps[m]? = some x) (hv : evK kn x = some v) (hl : litOf v = none) :
    KEv P ⟨dst, .makeFunc fn #[] caps, ty, pos, af, g⟩ σ kn (.fn fn [] xs) σ 0 := ev_op fun env he => by
  have e1 := evK_evalX he hv
  unfold evalOp
  rw [litOp_none (x := x) (by simpa [Op.operands] using Array.mem_of_getElem? hx) (by rw [e1]; exact hl)]
  have := mapM_evK he ha
  simp [this]
end
end Go.Vm
namespace Go.Vm
theorem mixL_put {n : Nat} {f old : Nat → XV} {k : Nat} {v : XV} (hk : k < n) : (mixL n f old k).set (0 + k) v = mixL n f (fun q => if q = k then v else old q) k := by
  refine List.ext_getElem (by simp [mixL]) fun i h1 h2 => ?_
  simp only [mixL, Nat.zero_add, List.getElem_set, List.getElem_map, List.getElem_range]
  by_cases e : k = i
  · subst e; simp
  · rw [if_neg e]
    by_cases h : i < k
    · rw [if_pos h, if_pos h]
    · rw [if_neg h, if_neg h, if_neg (fun e' => e e'.symm)]
theorem mixL_put2 {n : Nat} {f old : Nat → XV} {k : Nat} {v w : XV} (hk : k < n) : (mixL n f (fun q => if q = k then v else old q) k).set (0 + k) w = mixL n f (fun q => if q = k then w else old q) k := by
  rw [mixL_put hk]; congr 1; funext q; split <;> rfl
theorem mixL_done {n : Nat} {f old : Nat → XV} {k : Nat} (hk : k < n) : mixL n f (fun q => if q = k then f k else old q) k = mixL n f old (k + 1) := by
  rw [← mixL_put hk, mixL_set hk]
theorem mixL_get {n : Nat} {f old : Nat → XV} {k : Nat} {v : XV} (hk : k < n) : (mixL n f (fun q => if q = k then v else old q) k)[0 + k]? = some v := by
  simp [mixL, hk]
theorem set_last (σ : List VObj) (a b : VObj) : (σ ++ [a]).set σ.length b = σ ++ [b] := by
  rw [List.set_append_right _ _ (Nat.le_refl _), Nat.sub_self]; rfl
theorem mixL_rep {n : Nat} {f : Nat → XV} {v : XV} : List.replicate n v = mixL n f (fun _ => v) 0 := by
  rw [mixL_zero, List.map_const', List.length_range]
end Go.Vm
namespace Go.Cy
theorem gre_ge (l : List Int) : Nv ≤ gre l := by
  have key : ∀ (l : List Int) (z : Int), Nv ≤ z → Nv ≤ l.foldl max z := by
    intro l
    induction l with
    | nil => intro z hz; exact hz
    | cons x l ih => intro z hz; exact ih _ (by omega)
  exact key l Nv (Int.le_refl _)
/-- The greatest of the first k values. -/
def greR (k : Nat) (f : Nat → Int) : Int := gre ((List.range k).map f)
theorem greR_succ (k : Nat) (f : Nat → Int) : greR (k + 1) f = max (greR k f) (f k) := by
  unfold greR
  rw [List.range_succ, List.map_append]
  exact foldl_snoc _ _ _
theorem greR_nv {k : Nat} {f : Nat → Int} (h : f k = Nv) : greR (k + 1) f = greR k f := by
  rw [greR_succ, h]; have := gre_ge ((List.range k).map f); unfold greR; omega
theorem prodI_greR (n : Nat) (a b : Nat → Nat → Int) (i j : Nat) : prodI n a b i j = greR n fun k => aft (a i k) (b k j) := rfl
theorem greR_good {b : Int} {k : Nat} {f : Nat → Int} (h : ∀ q, Good b (f q)) : Good b (greR k f) := gre_good fun x hx => by
  obtain ⟨q, _, rfl⟩ := List.mem_map.1 hx; exact h q

/-- The first eight rows and columns. -/
def fewM (m : List (List Int)) : List (List Int) := (m.take 8).map (List.take 8)
theorem few_valid {L : Int} {m : List (List Int)} (h : validB L m = true) : fewM m = m := by
  unfold validB at h
  simp only [Bool.and_eq_true, decide_eq_true_eq, List.all_eq_true] at h
  obtain ⟨⟨h1, h2⟩, h3⟩ := h
  unfold fewM
  rw [List.take_of_length_le (by omega)]
  refine List.ext_getElem (by simp) fun i h5 h6 => ?_
  rw [List.getElem_map]
  have := h3 m[i] (List.getElem_mem h6)
  unfold okRow at this
  simp only [Bool.and_eq_true, decide_eq_true_eq] at this
  exact List.take_of_length_le (by omega)
theorem few_validB (L : Int) (m : List (List Int)) : validB L (fewM m) = validB L m := by
  cases h : validB L m with
  | true => rw [few_valid h, h]
  | false =>
    cases h2 : validB L (fewM m) with
    | false => rfl
    | true =>
      exfalso
      have e : fewM m = m := by
        unfold validB at h2
        simp only [Bool.and_eq_true, decide_eq_true_eq, List.all_eq_true] at h2
        obtain ⟨⟨h1, h3⟩, h4⟩ := h2
        have hl : (fewM m).length = min 8 m.length := by simp [fewM]
        rw [hl] at h1 h3 h4
        have hm : m.take 8 = m := List.take_of_length_le (by omega)
        unfold fewM at h4 ⊢
        rw [hm] at h4 ⊢
        refine List.ext_getElem (by simp) fun i h5 h6 => ?_
        rw [List.getElem_map]
        have := h4 (m[i].take 8) (List.mem_map.2 ⟨m[i], List.getElem_mem h6, rfl⟩)
        unfold okRow at this
        simp only [Bool.and_eq_true, decide_eq_true_eq, List.length_take] at this
        exact List.take_of_length_le (by omega)
      rw [e, h] at h2; cases h2
end Go.Cy

/-
  VALUES WITHOUT ADDRESSES: what a cell of one's own, or a slot, stands for may be told in another way.
-/
namespace Go.Vm
open Go.RowKit

theorem Mem.recell {M : Nat → Prop} {W0 w : World} {ι : List Nat} {σ : List VObj} (hm : Mem M W0 ι σ w) {id i : Nat} {ob : VObj} {x : XV} {d : DV} (ho : σ[id]? = some ob) (h2 : ob.mode ≠ 2) (hx : ob.cells[i]? = some x)
    (hd : ∀ v, XRep w ι (Forb M ι σ) v x → DRep w (Forb M ι σ) v d) : Mem M W0 ι (σ.set id ⟨ob.cells.set i (.d d), ob.mode⟩) w ∧ Ext M ι σ w ι (σ.set id ⟨ob.cells.set i (.d d), ob.mode⟩) w := by
  have hlt := (List.getElem?_eq_some_iff.1 ho).1
  have hback : ∀ (j : Nat) (o : VObj), (σ.set id ⟨ob.cells.set i (.d d), ob.mode⟩)[j]? = some o → ∃ o1, σ[j]? = some o1 ∧ o.mode = o1.mode ∧ o.cells.length = o1.cells.length := by
    intro j o h
    by_cases e : id = j
    · subst e
      rw [List.getElem?_set_self hlt] at h
      cases h
      exact ⟨ob, ho, rfl, by simp⟩
    · rw [List.getElem?_set_ne e] at h
      exact ⟨o, h, rfl, rfl⟩
  have hmt : ∀ c, Mut ι (σ.set id ⟨ob.cells.set i (.d d), ob.mode⟩) c → Mut ι σ c := by
    rintro c ⟨j, p, h1, h2, h3⟩
    obtain ⟨o, k1, k2, _⟩ := hback j p h1
    exact ⟨j, o, k1, h2, by omega⟩
  have hext : Ext M ι σ w ι (σ.set id ⟨ob.cells.set i (.d d), ob.mode⟩) w := ⟨fun _ _ h => h, fun _ _ _ => rfl, Nat.le_refl _, fun c _ h => hmt c h, fun _ _ h => h⟩
  refine ⟨⟨by rw [hm.len]; simp, ?_, hm.fresh, ?_, hm.below, hm.outer⟩, hext⟩
  · intro j o b h1 h2' h3
    by_cases e : id = j
    · subst e
      rw [List.getElem?_set_self hlt] at h1
      cases h1
      obtain ⟨cur, ty, q1, q2, q3⟩ := hm.objs id ob b ho h2' h2
      refine ⟨cur, ty, q1, by simpa using q2, fun m y hy => ?_⟩
      by_cases em : i = m
      · subst em
        rw [List.getElem?_set_self (List.getElem?_eq_some_iff.1 hx).1] at hy
        cases hy
        obtain ⟨v, kv, kx⟩ := q3 i x hx
        exact ⟨v, kv, (XRep.d (hd v kx)).ext hext⟩
      · rw [List.getElem?_set_ne em] at hy
        obtain ⟨v, kv, kx⟩ := q3 m y hy
        exact ⟨v, kv, kx.ext hext⟩
    · rw [List.getElem?_set_ne e] at h1
      obtain ⟨cur, ty, q1, q2, q3⟩ := hm.objs j o b h1 h2' h3
      exact ⟨cur, ty, q1, q2, fun m y hy => by
        obtain ⟨v, kv, kx⟩ := q3 m y hy
        exact ⟨v, kv, kx.ext hext⟩⟩
  · intro i' j oi oj bi bj hij h1 h2' h3 h4 h5 h6
    obtain ⟨o1, a1, a2, _⟩ := hback i' oi h1
    obtain ⟨o2, b1, b2, _⟩ := hback j oj h2'
    exact hm.apart i' j o1 o2 bi bj hij a1 b1 h3 h4 (by omega) (by omega)

section
variable {P : Program} {M : Nat → Prop} {W0 : World} {n : Nat} {σ : List VObj} {kn : Kn}
/-- A cell that refers to an object which is only read from here on. -/
theorem KC.ghostC {c : Code} {T : Exit → List VObj → Kn → Prop} (ids : List Nat) (m : Nat) {id i : Nat} {ob : VObj} {x : XV} {d : DV} (ho : (freezeIds σ ids)[id]? = some ob) (h2 : ob.mode ≠ 2) (hx : ob.cells[i]? = some x) (hd : deepen (freezeIds σ ids) m x = some d)
    (h : KC P M W0 n c ((freezeIds σ ids).set id ⟨ob.cells.set i (.d d), ob.mode⟩) kn T) : KC P M W0 n c σ kn T := by
  intro env he ι a w hF Q hQ
  obtain ⟨f1, f2⟩ := freezeIds_tamed hF.mem ids
  obtain ⟨g1, g2⟩ := f1.recell ho h2 hx fun v hv => deepen_sound f1 m v x d hv hd
  exact h env he ι a w ⟨g1, fun s => ((hF.env s).ext f2).ext g2, hF.size, hF.defers⟩ Q fun e ι' s' a' w' hT hFr hE => hQ e ι' s' a' w' hT hFr (f2.trans (g2.trans hE))
/-- A slot that is told in another way. -/
theorem KC.ghostX {c : Code} {T : Exit → List VObj → Kn → Prop} {t : Nat} {x y : XV} (hl : look kn t = some x) (hd : ∀ (w : World) (ι : List Nat) (F : Nat → Prop) (v : Value), XRep w ι F v x → XRep w ι F v y)
    (h : KC P M W0 n c σ (extK (some t) y kn) T) : KC P M W0 n c σ kn T := by
  intro env he ι a w hF Q hQ
  refine h (putE env (some t) y) (he.ext (some t) y) ι a w ⟨hF.mem, fun s => ?_, hF.size, hF.defers⟩ Q hQ
  have hs := hF.env s
  simp only [putE, upd]
  split
  · rename_i e
    subst e
    have he' : env s = x := he s x hl
    simp only [he'] at hs
    exact hd _ _ _ _ hs
  · exact hs
theorem osl_loose {w : World} {ι : List Nat} {F : Nat → Prop} {v : Value} {id off len k lo : Nat} (h : XRep w ι F v (.osl id off len k lo true)) : XRep w ι F v (.osl id off len k lo false) := by
  cases h with
  | osl hb hl hlo hex hs => exact .osl hb hl hlo (fun h => by cases h) hs
end
theorem resK_tct {P : Program} {σ : List VObj} {kn : Kn} {fn : Func} {a t b c id m md : Nat} (ds : List DV) {y z : XV} (hr : fn.results = #[.tmp b, .cell a t, .tmp c]) (hl : look kn a = some (.optr id 0)) (ho : σ[id]? = some ⟨ds.map .d, md⟩) (h2 : md ≠ 2) (ha : isAggT P t = some true) (hs : sizeT P t = some m) (hm : ds.length = m) (hy : look kn b = some y) (hz : look kn c = some z) :
    resK P fn σ kn = some (.tup [y, .d (.agg ds), z]) := by
  unfold resK
  rw [hr]
  have e : resVarK P σ kn (.cell a t) = some (.d (.agg ds)) := by
    simp only [resVarK, hl, Option.bind_some, opLoad, ho]
    rw [if_neg h2]
    simp only [takeVar, ha, hs, List.drop_zero]
    rw [if_pos (by simp; omega), List.take_of_length_le (by simp; omega), aggX_d]; rfl
  have e2 : resVarK P σ kn (.tmp b) = some y := hy
  have e3 : resVarK P σ kn (.tmp c) = some z := hz
  simp [e, e2, e3]
end Go.Vm

