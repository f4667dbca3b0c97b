import Derived.Test.YtcjcchceeidgkaaLgPa
import Derived.Test.YtcjcchceeidgkaaFlY
import Derived.Test.YtcjcchceeidgkaaVmTb
/-
  CLAUSES: pure part and rules. (No seat.)
-/
namespace Go.Lg
open Go.Vm

/-- A clause. -/
structure Cl where
  op : ByteArray
  x : Int
  y : Int
instance : Inhabited Cl := ⟨⟨⟨#[]⟩, 0, 0⟩⟩
abbrev cg (l : List Cl) (i : Nat) : Cl := l.getD i default
def clC (c : Cl) : List DV := [.lit (.string c.op), DI c.x, DI c.y]
def flatC : List Cl → List DV
  | [] => []
  | c :: l => clC c ++ flatC l
theorem flatC_len : ∀ l : List Cl, (flatC l).length = l.length * 3
  | [] => rfl
  | c :: l => by rw [flatC, List.length_append, flatC_len l, List.length_cons]; show 3 + _ = _; omega
theorem flatC_app : ∀ (l m : List Cl), flatC (l ++ m) = flatC l ++ flatC m
  | [], m => rfl
  | c :: l, m => by rw [List.cons_append, flatC, flatC, flatC_app l m, List.append_assoc]
theorem flatC_get : ∀ (l : List Cl) (i : Nat), i < l.length → ((flatC l).drop (i * 3)).take 3 = clC (cg l i)
  | [], i, h => absurd h (Nat.not_lt_zero _)
  | c :: l, 0, _ => by rw [flatC]; rfl
  | c :: l, i + 1, h => by
    rw [show (i + 1) * 3 = i * 3 + 3 by omega]
    exact flatC_get l i (by simpa using h)
inductive ClsD : DV → List Cl → Prop
  | nil : ClsD Dnil []
  | sl {l : List Cl} {cs : List DV} {cap : Option Nat} (hn : cs.length = l.length * 3) (h : ∀ i, i < l.length → (cs.drop (i * 3)).take 3 = clC (cg l i)) : ClsD (.sl cs l.length cap) l
def clsV (l : List Cl) : DV := match l with | [] => Dnil | _ => .sl (flatC l) l.length none
theorem clsV_ok (l : List Cl) : ClsD (clsV l) l := by
  cases l with
  | nil => exact .nil
  | cons a l => exact .sl (flatC_len _) (flatC_get _)
theorem own_cls {σ : List VObj} {k : Nat} {x : XV} {l : List Cl} (h : OwnK 3 σ x ((flatC l).map .d)) (hne : l = [] → x = .d Dnil) : deepen (freezeAll σ) (k + 2) x = some (clsV l) := by
  cases l with
  | nil => rw [hne rfl]; rfl
  | cons a l =>
    generalize hc : (flatC (a :: l)).map XV.d = cells at h
    cases h with
    | nil => have := congrArg List.length hc; rw [List.length_map, flatC_len] at this; simp at this
    | @sl id m cells h hn =>
      subst hc
      have hm : m = (a :: l).length := by rw [List.length_map, flatC_len] at hn; omega
      subst hm
      have h1 : (freezeAll σ)[id]? = some ⟨(flatC (a :: l)).map .d, 1⟩ := by simp [freezeAll, h]
      rw [deepen_osl h1 rfl (by rw [List.length_map, flatC_len]; omega)]
      rw [List.drop_zero, List.take_of_length_le (by rw [List.length_map, flatC_len]; omega), mapM_deep]; rfl

section
variable {P : Program} {n : Nat} {ops : Array Oper} {l : List Oper} {σ : List VObj} {kn : Kn} {dst : Option Tmp} {ty : TypeId} {pos : String} {af : Array Edge} {g : Option (Nat × Bool)}
  {R : List Nat → List VObj → Kn → Prop}
theorem K.lenCls {x : Operand} {t e : TypeId} {d : DV} {ks : List Cl} (hx : evK kn x = some (.d d)) (hd : ClsD d ks) (ht : P.underlying t = some (.slice e)) :
    KEv P ⟨dst, .call ⟨.builtin .len, #[x], #[t]⟩, ty, pos, af, g⟩ σ kn (.d (DI (ks.length : Nat))) σ 0 := by
  cases hd with
  | nil => exact K.len (R := fun _ (_ : Nat) => True) (l := []) hx .nil ht
  | sl hn ha => exact K.lenD hx ht
theorem KT.idxCls {x i : Operand} {t e : TypeId} {d : DV} {ks : List Cl} {m : Nat} (hg : guardK ops kn ⟨dst, .indexAddr t x i, ty, pos, af, g⟩ = some true) (hdst : dstOk n dst = true) (hx : evK kn x = some (.d d)) (hd : ClsD d ks)
    (hi : evK kn i = some (.d (DI (m : Nat)))) (hm : m < ks.length) (ht : P.underlying t = some (.slice e)) (hs : sizeT P e = some 3)
    (h : ∀ (rest : List DV), KT P n ops l σ (extK dst (.d (.ptr (.lit (.string (cg ks m).op) :: DI (cg ks m).x :: DI (cg ks m).y :: rest))) kn) (fun fls τ k => R (0 :: fls) τ k)) :
    KT P n ops (⟨dst, .indexAddr t x i, ty, pos, af, g⟩ :: l) σ kn R := by
  cases hd with
  | nil => simp at hm
  | @sl ks cs cap hn ha =>
    have hK := K.idxDK (P := P) (σ := σ) (dst := dst) (ty := ty) (pos := pos) (af := af) (g := g) (k := 3) hx hi hm ht hs
    rw [← List.take_append_drop 3 (cs.drop (m * 3)), ha m hm] at hK
    exact KT.step hg hdst hK (h _)
end

/-- Kinds of operators: by the kids that a clause with them names; 3: no clause has it. -/
def kindC (k : Nat) : Nat := if k = 0 ∨ (12 ≤ k ∧ k < 18) then 0 else if k = 1 ∨ k = 4 then 1 else if k = 2 ∨ k = 3 then 2 else 3
def kd (c : Cl) : Nat := kindC (opc c.op)
def folP (c : Cl) (i : Nat) : Prop := (kd c = 0 ∧ c.x = 0 ∧ c.y = 0) ∨ (kd c = 1 ∧ (0 ≤ c.x ∧ c.x < (i : Int)) ∧ c.y = 0) ∨ (kd c = 2 ∧ (0 ≤ c.x ∧ c.x < (i : Int)) ∧ 0 ≤ c.y ∧ c.y < (i : Int))
instance (c : Cl) (i : Nat) : Decidable (folP c i) := by unfold folP; exact inferInstance
def follB (c : Cl) (i : Nat) : Bool := decide (folP c i)
theorem fol0 {c : Cl} {i : Nat} (hk : kd c = 0) : follB c i = (decide (c.x = 0) && decide (c.y = 0)) := by
  rw [Bool.eq_iff_iff]; unfold follB; simp [folP, hk]
theorem fol1 {c : Cl} {i : Nat} (hk : kd c = 1) : follB c i = ((decide (0 ≤ c.x) && decide (c.x ≤ (i : Int) - 1)) && decide (c.y = 0)) := by
  rw [Bool.eq_iff_iff]; unfold follB; simp [folP, hk]; omega
theorem fol2 {c : Cl} {i : Nat} (hk : kd c = 2) : follB c i = ((decide (0 ≤ c.x) && decide (c.x ≤ (i : Int) - 1)) && (decide (0 ≤ c.y) && decide (c.y ≤ (i : Int) - 1))) := by
  rw [Bool.eq_iff_iff]; unfold follB; simp [folP, hk]; omega
theorem fol3 {c : Cl} {i : Nat} (hk : kd c = 3) : follB c i = false := by
  unfold follB; exact decide_eq_false (by unfold folP; rw [hk]; omega)
def okC (l : List Cl) : Bool := (decide (1 ≤ l.length) && decide (l.length ≤ 5000)) && (List.range l.length).all fun i => follB (cg l i) i

def tru' : ByteArray := ⟨#[116, 114, 117, 101]⟩
def not' : ByteArray := ⟨#[33]⟩
def and' : ByteArray := ⟨#[38]⟩
def or' : ByteArray := ⟨#[124]⟩
theorem kind_of {op : ByteArray} {k : Nat} (h : NM[k]? = some op) : kindC (opc op) = kindC k := by rw [opc_of h]
theorem kind0 {op : ByteArray} (h : kindC (opc op) = 0) : op = tru' ∨ op = ⟨#[97]⟩ ∨ op = ⟨#[98]⟩ ∨ op = ⟨#[99]⟩ ∨ op = ⟨#[100]⟩ ∨ op = ⟨#[101]⟩ ∨ op = ⟨#[102]⟩ := by
  have hlt : opc op < 18 := by
    unfold kindC at h
    split at h
    · omega
    · split at h
      · cases h
      · split at h <;> cases h
  have hg := opc_get hlt
  generalize opc op = k at h hlt hg
  match k, hlt with
  | 0, _ => exact .inl (Option.some.inj hg).symm
  | 1, _ | 2, _ | 3, _ | 4, _ | 5, _ | 6, _ | 7, _ | 8, _ | 9, _ | 10, _ | 11, _ => exact absurd h (by decide)
  | 12, _ => exact .inr (.inl (Option.some.inj hg).symm)
  | 13, _ => exact .inr (.inr (.inl (Option.some.inj hg).symm))
  | 14, _ => exact .inr (.inr (.inr (.inl (Option.some.inj hg).symm)))
  | 15, _ => exact .inr (.inr (.inr (.inr (.inl (Option.some.inj hg).symm))))
  | 16, _ => exact .inr (.inr (.inr (.inr (.inr (.inl (Option.some.inj hg).symm)))))
  | 17, _ => exact .inr (.inr (.inr (.inr (.inr (.inr (Option.some.inj hg).symm)))))
  | k + 18, h => omega
theorem kind_lt {op : ByteArray} (h : kindC (opc op) ≠ 3) : opc op < 18 := by
  apply Classical.byContradiction
  intro hn
  refine h ?_
  unfold kindC
  rw [if_neg (by omega), if_neg (by omega), if_neg (by omega)]
theorem kind1 {op : ByteArray} (h : kindC (opc op) = 1) : op = not' ∨ op = EX' := by
  have hlt := kind_lt (op := op) (by omega)
  have hg := opc_get hlt
  generalize opc op = k at h hlt hg
  match k, hlt with
  | 1, _ => exact .inl (Option.some.inj hg).symm
  | 4, _ => exact .inr (Option.some.inj hg).symm
  | 0, _ | 2, _ | 3, _ | 5, _ | 6, _ | 7, _ | 8, _ | 9, _ | 10, _ | 11, _ | 12, _ | 13, _ | 14, _ | 15, _ | 16, _ | 17, _ => exact absurd h (by decide)
  | k + 18, h => omega
theorem kind2 {op : ByteArray} (h : kindC (opc op) = 2) : op = and' ∨ op = or' := by
  have hlt := kind_lt (op := op) (by omega)
  have hg := opc_get hlt
  generalize opc op = k at h hlt hg
  match k, hlt with
  | 2, _ => exact .inl (Option.some.inj hg).symm
  | 3, _ => exact .inr (Option.some.inj hg).symm
  | 0, _ | 1, _ | 4, _ | 5, _ | 6, _ | 7, _ | 8, _ | 9, _ | 10, _ | 11, _ | 12, _ | 13, _ | 14, _ | 15, _ | 16, _ | 17, _ => exact absurd h (by decide)
  | k + 18, h => omega
theorem kind3 {op : ByteArray} (h0 : ¬ op = ⟨#[116, 114, 117, 101]⟩) (h1 : ¬ op = ⟨#[97]⟩) (h2 : ¬ op = ⟨#[98]⟩) (h3 : ¬ op = ⟨#[99]⟩) (h4 : ¬ op = ⟨#[100]⟩) (h5 : ¬ op = ⟨#[101]⟩) (h6 : ¬ op = ⟨#[102]⟩)
    (h7 : ¬ op = ⟨#[33]⟩) (h8 : ¬ op = ⟨#[69, 88]⟩) (h9 : ¬ op = ⟨#[38]⟩) (h10 : ¬ op = ⟨#[124]⟩) : kindC (opc op) = 3 := by
  have hle : kindC (opc op) ≤ 3 := by unfold kindC; split; omega; split; omega; split <;> omega
  apply Classical.byContradiction
  intro hn
  rcases (show kindC (opc op) = 0 ∨ kindC (opc op) = 1 ∨ kindC (opc op) = 2 by omega) with h | h | h
  · rcases kind0 h with e | e | e | e | e | e | e
    · exact h0 e
    · exact h1 e
    · exact h2 e
    · exact h3 e
    · exact h4 e
    · exact h5 e
    · exact h6 e
  · rcases kind1 h with e | e
    · exact h7 e
    · exact h8 e
  · rcases kind2 h with e | e
    · exact h9 e
    · exact h10 e

theorem okC_all {l : List Cl} (h : okC l = true) : 1 ≤ l.length ∧ l.length ≤ 5000 ∧ ∀ i, i < l.length → folP (cg l i) i := by
  unfold okC at h
  simp only [Bool.and_eq_true, decide_eq_true_iff, List.all_eq_true, List.mem_range] at h
  exact ⟨h.1.1, h.1.2, fun i hi => of_decide_eq_true (h.2 i hi)⟩
theorem okC_len {l : List Cl} (h : ¬ (1 ≤ l.length ∧ l.length ≤ 5000)) : okC l = false := by
  cases hk : okC l with
  | false => rfl
  | true => exact absurd ⟨(okC_all hk).1, (okC_all hk).2.1⟩ h
theorem okC_no {l : List Cl} {i : Nat} (hi : i < l.length) (h : follB (cg l i) i = false) : okC l = false := by
  cases hk : okC l with
  | false => rfl
  | true => exact absurd ((okC_all hk).2.2 i hi) (of_decide_eq_false h)
theorem okC_yes {l : List Cl} (h1 : 1 ≤ l.length) (h2 : l.length ≤ 5000) (h : ∀ i, i < l.length → follB (cg l i) i = true) : okC l = true := by
  unfold okC
  simp only [Bool.and_eq_true, decide_eq_true_iff, List.all_eq_true, List.mem_range]
  exact ⟨⟨h1, h2⟩, h⟩
theorem okC_take {l : List Cl} : okC (l.take 5002) = okC l := by
  by_cases h : l.length ≤ 5002
  · rw [List.take_of_length_le h]
  · rw [okC_len (l := l.take 5002) (by simp; omega), okC_len (l := l) (by omega)]
theorem fol_in {c : Cl} {i n : Nat} (h : folP c i) (hi : i < n) : (0 ≤ c.x ∧ c.x.toNat < n) ∧ (0 ≤ c.y ∧ c.y.toNat < n) ∧ opc c.op < 18 := by
  have hk : opc c.op < 18 := kind_lt (by unfold folP kd at h; omega)
  unfold folP at h
  refine ⟨?_, ?_, hk⟩ <;> omega

/-- The sets of the first clauses, and their depths. -/
def satC (nx lb : List Nat) (l : List Cl) : Nat → List Nat
  | 0 => []
  | i + 1 => satC nx lb l i ++ [opN nx lb (opc (cg l i).op) ((satC nx lb l i).getD (cg l i).x.toNat 0) ((satC nx lb l i).getD (cg l i).y.toNat 0)]
def depC (l : List Cl) : Nat → List Int
  | 0 => []
  | i + 1 => depC l i ++ [max ((depC l i).getD (cg l i).x.toNat 0) ((depC l i).getD (cg l i).y.toNat 0) + if (cg l i).op = EX' then 1 else 0]
theorem getD_snoc {α : Type} {L : List α} {v d : α} {k : Nat} : (L ++ [v]).getD k d = if k = L.length then v else L.getD k d := by
  simp only [List.getD_eq_getElem?_getD]
  by_cases h : k < L.length
  · rw [List.getElem?_append_left h, if_neg (by omega)]
  · by_cases e : k = L.length
    · subst e; rw [if_pos rfl, List.getElem?_concat_length]; rfl
    · rw [if_neg e, List.getElem?_eq_none (by simp; omega), List.getElem?_eq_none (by omega)]
theorem satC_len (nx lb : List Nat) (l : List Cl) : ∀ i, (satC nx lb l i).length = i
  | 0 => rfl
  | i + 1 => by rw [satC, List.length_append, satC_len nx lb l i]; rfl
theorem depC_len (l : List Cl) : ∀ i, (depC l i).length = i
  | 0 => rfl
  | i + 1 => by rw [depC, List.length_append, depC_len l i]; rfl
theorem satC_lt {nx lb : List Nat} (hl : lb.length = nx.length) (l : List Cl) : ∀ i k, (satC nx lb l i).getD k 0 < 2 ^ nx.length
  | 0, k => by rw [satC]; exact Nat.two_pow_pos _
  | i + 1, k => by
    rw [satC, getD_snoc]
    split
    · exact opN_lt hl (satC_lt hl l i _) (satC_lt hl l i _)
    · exact satC_lt hl l i k
theorem depC_in (l : List Cl) : ∀ i k, 0 ≤ (depC l i).getD k 0 ∧ (depC l i).getD k 0 ≤ (i : Int)
  | 0, k => by rw [depC]; simp
  | i + 1, k => by
    rw [depC, getD_snoc]
    have h1 := depC_in l i (cg l i).x.toNat
    have h2 := depC_in l i (cg l i).y.toNat
    have h3 := depC_in l i k
    split
    · split <;> omega
    · omega
theorem dep_zero {l : List Cl} (h : folP (cg l 0) 0) : ∀ i, (depC l i).getD 0 0 = 0
  | 0 => rfl
  | 1 => by
    have hz : kindC (opc (cg l 0).op) = 0 := by unfold folP kd at h; omega
    have : ¬ (cg l 0).op = EX' := fun e => by rw [e] at hz; exact absurd hz (by decide)
    rw [depC, getD_snoc, if_pos (depC_len l 0).symm, if_neg this]; rfl
  | i + 2 => by
    rw [depC, getD_snoc, if_neg (show ¬ 0 = (depC l (i + 1)).length by rw [depC_len]; omega)]
    exact dep_zero h (i + 1)

/-- Cells of numbers. -/
def nX (n : Nat) (f : Nat → Int) : List XV := (List.range n).map fun k => .d (DI (f k))
theorem nX_len (n : Nat) (f : Nat → Int) : (nX n f).length = n := by simp [nX]
theorem nX_get {n : Nat} (f : Nat → Int) {i : Nat} (hi : i < n) : (nX n f)[0 + i]? = some (.d (DI (f i))) := by rw [Nat.zero_add]; simp [nX, hi]
theorem nX_set {n : Nat} {f f' : Nat → Int} {i : Nat} {v : Int} (h : ∀ k, k < n → f' k = if k = i then v else f k) : (nX n f).set (0 + i) (.d (DI v)) = nX n f' := by
  rw [Nat.zero_add]
  refine List.ext_getElem? fun k => ?_
  rw [List.getElem?_set]
  by_cases hk : k < n
  · simp only [nX, List.getElem?_map, List.getElem?_range hk, List.length_map, List.length_range, Option.map_some, h k hk]
    by_cases e : i = k
    · subst e; simp [hk]
    · rw [if_neg e, if_neg (fun e' => e e'.symm)]
  · rw [List.getElem?_eq_none (by rw [nX_len]; omega), List.getElem?_eq_none (by rw [nX_len]; omega)]
    split
    · rw [if_neg (by rw [nX_len]; omega)]
    · rfl
theorem nX_zero (n : Nat) : List.replicate n (XV.d (.lit (.int .i64 0))) = nX n fun _ => 0 := by
  refine List.ext_getElem? fun k => ?_
  by_cases hk : k < n
  · simp [nX, hk]
  · rw [List.getElem?_eq_none (by simp; omega), List.getElem?_eq_none (by rw [nX_len]; omega)]
abbrev sX (nx lb : List Nat) (l : List Cl) (n i : Nat) : List XV := nX n fun k => (((satC nx lb l i).getD k 0 : Nat) : Int)
abbrev dX (l : List Cl) (n i : Nat) : List XV := nX n fun k => (depC l i).getD k 0
theorem sX_set {nx lb : List Nat} {l : List Cl} {n i : Nat} : (sX nx lb l n i).set (0 + i) (.d (DI ((opN nx lb (opc (cg l i).op) ((satC nx lb l i).getD (cg l i).x.toNat 0) ((satC nx lb l i).getD (cg l i).y.toNat 0) : Nat)))) = sX nx lb l n (i + 1) :=
  nX_set fun k _ => by
    rw [satC, getD_snoc, satC_len]
    split <;> rfl
theorem opN_zero {nx lb : List Nat} {c : Nat} (h : kindC c = 0) (x y : Nat) : opN nx lb c x y = opN nx lb c 0 0 := by
  match c with
  | 0 => rfl
  | 1 | 2 | 3 | 4 | 5 | 6 | 7 | 8 | 9 | 10 | 11 => exact absurd h (by decide)
  | k + 12 => rfl
end Go.Lg
namespace Go.Lg
open Go.Vm
theorem kd_le (c : Cl) : kd c ≤ 3 := by unfold kd kindC; split; omega; split; omega; split <;> omega
theorem ar_kind0 {c : Cl} (h : kd c = 0) : arI c.op = 0 := by rcases kind0 h with e | e | e | e | e | e | e <;> rw [e] <;> decide
theorem ar_kind1 {c : Cl} (h : kd c = 1) : arI c.op = 1 := by rcases kind1 h with e | e <;> rw [e] <;> decide
theorem ar_kind2 {c : Cl} (h : kd c = 2) : arI c.op = 2 := by rcases kind2 h with e | e <;> rw [e] <;> decide
theorem ar_kind3 {c : Cl} (h : kd c = 3) : (arI c.op = -1 ∨ arI c.op = 1 ∨ arI c.op = 2) ∧ c.op ≠ not' ∧ c.op ≠ EX' ∧ c.op ≠ and' ∧ c.op ≠ or' := by
  have hne : ∀ {k : Nat} {op : ByteArray}, NM[k]? = some op → kindC k ≠ 3 → c.op ≠ op := fun hk h3 e => h3 (by rw [← kind_of hk, ← e]; exact h)
  refine ⟨?_, hne (k := 1) rfl (by decide), hne (k := 4) rfl (by decide), hne (k := 2) rfl (by decide), hne (k := 3) rfl (by decide)⟩
  unfold kd at h
  unfold arI
  generalize opc c.op = k at h
  by_cases hk : k < 18
  · have key : ∀ k : Nat, k < 18 → kindC k = 3 → arC k = -1 ∨ arC k = 1 ∨ arC k = 2 := by decide
    exact key k hk h
  · exact .inl (by unfold arC; rw [List.getElem?_eq_none (by show 18 ≤ k; omega)])
def Two (σ τ : List VObj) (N p q : Nat) : Prop := σ.length ≤ p ∧ σ.length ≤ q ∧ p ≠ q ∧ τ[p]? = some ⟨nX N fun _ => 0, 0⟩ ∧ τ[q]? = some ⟨nX N fun _ => 0, 0⟩ ∧ ∀ j, j < σ.length → τ[j]? = σ[j]?
def zObj (N : Nat) : VObj := ⟨List.replicate N (.d (.lit (.int .i64 0))), 0⟩
theorem two_new (σ : List VObj) (N : Nat) : Two σ (σ ++ [zObj N] ++ [zObj N]) N σ.length (σ ++ [zObj N]).length := by
  have e : zObj N = ⟨nX N fun _ => 0, 0⟩ := by unfold zObj; rw [nX_zero]
  refine ⟨Nat.le_refl _, by simp, by simp, ?_, ?_, fun j hj => ?_⟩
  · rw [List.getElem?_append_left (by simp), e]; exact List.getElem?_concat_length ..
  · rw [e]; exact List.getElem?_concat_length ..
  · rw [List.getElem?_append_left (by simp; omega), List.getElem?_append_left hj]
theorem two_new2 (σ : List VObj) (N : Nat) : Two σ (σ ++ [zObj N] ++ [zObj N]) N (σ ++ [zObj N]).length σ.length := by
  obtain ⟨a, b, c, d, e, f⟩ := two_new σ N
  exact ⟨b, a, Ne.symm c, e, d, f⟩
theorem sX_put {nx lb : List Nat} {l : List Cl} {n i v : Nat} (hv : v = opN nx lb (opc (cg l i).op) ((satC nx lb l i).getD (cg l i).x.toNat 0) ((satC nx lb l i).getD (cg l i).y.toNat 0)) : (sX nx lb l n i).set (0 + i) (.d (DI (v : Nat))) = sX nx lb l n (i + 1) := hv ▸ sX_set
abbrev dV (l : List Cl) (i : Nat) : Int := max ((depC l i).getD (cg l i).x.toNat 0) ((depC l i).getD (cg l i).y.toNat 0) + if (cg l i).op = EX' then 1 else 0
theorem dX_at {l : List Cl} {i k : Nat} : (depC l (i + 1)).getD k 0 = if k = i then dV l i else (depC l i).getD k 0 := by rw [depC, getD_snoc, depC_len]
theorem dX_put {l : List Cl} {n i : Nat} {v : Int} (hv : v = dV l i) : (dX l n i).set (0 + i) (.d (DI v)) = dX l n (i + 1) := hv ▸ nX_set fun _ _ => dX_at
abbrev tX (l : List Cl) (n i : Nat) (w : Int) : List XV := nX n fun k => if k = i then w else (depC l i).getD k 0
theorem tX_put {l : List Cl} {n i : Nat} {v w : Int} (hv : v = dV l i) : (tX l n i w).set (0 + i) (.d (DI v)) = dX l n (i + 1) := by
  subst hv
  refine nX_set fun k _ => ?_
  rw [dX_at]
  by_cases e : k = i
  · simp only [if_pos e]
  · simp only [if_neg e]
theorem tX_end {l : List Cl} {n i : Nat} {w : Int} (hv : w = dV l i) : tX l n i w = dX l n (i + 1) := by
  subst hv
  exact congrArg (nX n) (funext fun k => dX_at.symm)
theorem dX_same {l : List Cl} {n i : Nat} (hk : kd (cg l i) = 0) (hx : (cg l i).x = 0) (hy : (cg l i).y = 0) (h0 : folP (cg l 0) 0) : dX l n i = dX l n (i + 1) := by
  refine congrArg (nX n) (funext fun k => ?_)
  rw [dX_at]
  split
  · rename_i e
    subst e
    have hne : ¬ (cg l k).op = EX' := fun e => by unfold kd at hk; rw [e] at hk; exact absurd hk (by decide)
    unfold dV
    rw [hx, hy, if_neg hne]
    have := dep_zero h0 k
    have hlen : (depC l k).getD k 0 = 0 := by rw [List.getD_eq_getElem?_getD, List.getElem?_eq_none (by rw [depC_len]; omega)]; rfl
    rw [hlen]
    show (0 : Int) = max ((depC l k).getD 0 0) ((depC l k).getD 0 0) + 0
    rw [this]; rfl
  · rfl
end Go.Lg
namespace Go.Vm
theorem K.neqS {P : Program} {σ : List VObj} {kn : Kn} {dst : Option Tmp} {ty : TypeId} {pos : String} {af : Array Edge} {g : Option (Nat × Bool)} {t u : TypeId} {x y : Operand} {a b : ByteArray} (hx : evK kn x = some (.d (.lit (.string a)))) (hy : evK kn y = some (.d (.lit (.string b)))) :
    KEv P ⟨dst, .binOp .neq t x y u, ty, pos, af, g⟩ σ kn (.d (DB (decide (a ≠ b)))) σ 0 :=
  K.bin hx hy (by
    rw [pureRun_bind]
    show (some ()).bind _ = _
    simp only [Option.bind_some]
    rw [binOp_string_neq, bytes_eq, show decide (a ≠ b) = !decide (a = b) from decide_not]; rfl)
end Go.Vm
namespace Go.Lg
open Go.Vm
theorem bit_zero {s : Nat} {x : Int} : decide (((s / 2 ^ x.toNat &&& 1 : Nat) : Int) = 0) = !tb s x := by
  by_cases h : ((s / 2 ^ x.toNat &&& 1 : Nat) : Int) = 0
  · rw [decide_eq_true h, bit_no h]; rfl
  · rw [decide_eq_false h, bit_yes h]; rfl
def ClP (ds : List DV) : Prop := ∃ op x y, ds = [.lit (.string op), DI x, DI y]
theorem cls_of {d : DV} (h : VecP 3 ClP d) : ∃ l, ClsD d l ∧ l.length ≤ 9223372036854775807 := by
  cases h with
  | nil => exact ⟨[], .nil, by decide⟩
  | @sl cs len cap hn hl h =>
    have each : ∀ i, i < len → ∃ c : Cl, (cs.drop (i * 3)).take 3 = clC c := fun i hi => by
      obtain ⟨op, x, y, h1⟩ := h i hi
      exact ⟨⟨op, x, y⟩, h1⟩
    obtain ⟨f, hf⟩ := Go.Deep.choose_lt each
    have e : ((List.range len).map f).length = len := by simp
    refine ⟨(List.range len).map f, ?_, by rw [e]; exact hl⟩
    have := ClsD.sl (l := (List.range len).map f) (cs := cs) (cap := cap) (by rw [e]; exact hn) (fun i hi => by
      rw [e] at hi
      rw [hf i hi]
      show clC (f i) = clC (((List.range len).map f).getD i default)
      rw [List.getD_eq_getElem?_getD, List.getElem?_map, List.getElem?_range hi]; rfl)
    rwa [e] at this
end Go.Lg

