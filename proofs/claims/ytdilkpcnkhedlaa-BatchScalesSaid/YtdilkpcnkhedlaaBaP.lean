import Derived.Test.YtdilkpcnkhedlaaHtU
/-
  Batch: shops, arcs and longest ways (pure).
-/
namespace Go.Ba
open Go.Vm Go.Ht

def c2 (o : Int × Int) : List DV := [DI o.1, DI o.2]
theorem c2_len (o : Int × Int) : (c2 o).length = 2 := rfl
abbrev PrD : DV → List (Int × Int) → Prop := FlD 2 c2
/-- The jobs of a shop. -/
abbrev JbD : DV → List (List (Int × Int)) → Prop := Vec PrD

theorem all_false_of {α : Type} {p : α → Bool} {l : List α} {a : α} (ha : a ∈ l) (h : p a = false) : l.all p = false := by
  cases hb : l.all p with
  | false => rfl
  | true => rw [List.all_eq_true.1 hb a ha] at h; cases h
def opB (M : Int) (o : Int × Int) : Bool := (decide (0 ≤ o.1) && decide (o.1 ≤ M - 1)) && (decide (1 ≤ o.2) && decide (o.2 ≤ 20))
def jobB (M : Int) (j : List (Int × Int)) : Bool := (decide (1 ≤ j.length) && decide (j.length ≤ 4)) && (j.all (opB M) && decide (j.map Prod.fst).Nodup)
def shopB (M : Int) (J : List (List (Int × Int))) : Bool := (decide (1 ≤ M) && decide (M ≤ 4)) && ((decide (1 ≤ J.length) && decide (J.length ≤ 3)) && (J.all (jobB M) && decide (J.flatten.length ≤ 9)))

structure ShopOk (M : Int) (J : List (List (Int × Int))) : Prop where
  m1 : 1 ≤ M
  m4 : M ≤ 4
  j1 : 1 ≤ J.length
  j3 : J.length ≤ 3
  jb : ∀ j ∈ J, 1 ≤ j.length ∧ j.length ≤ 4 ∧ (∀ o ∈ j, 0 ≤ o.1 ∧ o.1 < M ∧ 1 ≤ o.2 ∧ o.2 ≤ 20) ∧ (j.map Prod.fst).Nodup
  n9 : J.flatten.length ≤ 9
theorem jobB_iff {M : Int} {j : List (Int × Int)} : jobB M j = true ↔ 1 ≤ j.length ∧ j.length ≤ 4 ∧ (∀ o ∈ j, 0 ≤ o.1 ∧ o.1 < M ∧ 1 ≤ o.2 ∧ o.2 ≤ 20) ∧ (j.map Prod.fst).Nodup := by
  simp only [jobB, opB, Bool.and_eq_true, decide_eq_true_eq, List.all_eq_true]
  constructor
  · rintro ⟨⟨h1, h2⟩, h3, h4⟩
    exact ⟨h1, h2, fun o ho => by have := h3 o ho; omega, h4⟩
  · rintro ⟨h1, h2, h3, h4⟩
    exact ⟨⟨h1, h2⟩, fun o ho => by have := h3 o ho; omega, h4⟩
theorem shopB_iff {M : Int} {J : List (List (Int × Int))} : shopB M J = true ↔ ShopOk M J := by
  simp only [shopB, Bool.and_eq_true, decide_eq_true_eq, List.all_eq_true]
  constructor
  · rintro ⟨⟨h1, h2⟩, ⟨h3, h4⟩, h5, h6⟩
    exact ⟨h1, h2, h3, h4, fun j hj => jobB_iff.1 (h5 j hj), h6⟩
  · rintro ⟨h1, h2, h3, h4, h5, h6⟩
    exact ⟨⟨h1, h2⟩, ⟨h3, h4⟩, fun j hj => jobB_iff.2 (h5 j hj), h6⟩

theorem jobB_no1 {M : Int} {j : List (Int × Int)} {o : Int × Int} (ho : o ∈ j) (h : opB M o = false) : jobB M j = false := by
  rw [jobB, all_false_of ho h]; simp
theorem jobB_no2 {M : Int} {j : List (Int × Int)} {i : Nat} (hi : i < j.length) (h : j[i].1 ∈ (j.take i).map Prod.fst) : jobB M j = false := by
  have hn : ¬ (j.map Prod.fst).Nodup := fun hn => by
    rw [← List.take_append_drop i j, List.map_append, List.nodup_append] at hn
    refine hn.2.2 _ h _ ?_ rfl
    rw [List.drop_eq_getElem_cons hi, List.map_cons]; exact List.mem_cons_self
  rw [jobB, decide_eq_false hn]; simp
theorem nodup_take {j : List (Int × Int)} {i : Nat} (hi : i < j.length) (hn : ((j.take i).map Prod.fst).Nodup) (h : ¬ j[i].1 ∈ (j.take i).map Prod.fst) : ((j.take (i + 1)).map Prod.fst).Nodup := by
  rw [List.take_succ_eq_append_getElem hi, List.map_append, List.nodup_append]
  refine ⟨hn, by simp, fun a ha b hb => ?_⟩
  simp at hb; subst hb
  exact fun e => h (e ▸ ha)
theorem shopB_no {M : Int} {J : List (List (Int × Int))} {j : List (Int × Int)} (hj : j ∈ J) (h : jobB M j = false) : shopB M J = false := by
  rw [shopB, all_false_of hj h]; simp

theorem flat_le {J : List (List (Int × Int))} (h : ∀ j ∈ J, j.length ≤ 4) {k : Nat} : (J.take k).flatten.length ≤ 4 * J.length := by
  have : ∀ J : List (List (Int × Int)), (∀ j ∈ J, j.length ≤ 4) → J.flatten.length ≤ 4 * J.length := by
    intro J
    induction J with
    | nil => simp
    | cons j J ih =>
      intro h
      have := ih fun i hi => h i (by simp [hi])
      have := h j (by simp)
      simp at *; omega
  have h1 := this (J.take k) fun j hj => h j (List.mem_of_mem_take hj)
  have h2 : (J.take k).length ≤ J.length := by simp; omega
  omega

/-- Which machines some operations are of: four marks. -/
def usedC (l : List (Int × Int)) : List XV := (List.range 4).map fun (k : Nat) => XV.d (DB (decide ((k : Int) ∈ l.map Prod.fst)))
theorem usedC_len (l : List (Int × Int)) : (usedC l).length = 4 := by simp [usedC]
theorem usedC_get {l : List (Int × Int)} {k : Nat} (h : k < 4) : (usedC l)[k]? = some (.d (DB (decide ((k : Int) ∈ l.map Prod.fst)))) := by
  simp [usedC, h]
theorem usedC_nil : usedC [] = [.d (DB false), .d (DB false), .d (DB false), .d (DB false)] := rfl
theorem usedC_set {l : List (Int × Int)} {o : Int × Int} {k : Nat} (hk : (k : Int) = o.1) : (usedC l).set k (.d (DB true)) = usedC (l ++ [o]) := by
  apply List.ext_getElem
  · simp [usedC]
  · intro i h1 h2
    have hi : i < 4 := by rw [usedC_len] at h2; exact h2
    rw [List.getElem_set]
    by_cases e : k = i
    · subst e
      simp [usedC, hk]
    · rw [if_neg e]
      have : (i : Int) ≠ o.1 := fun h => e (by omega)
      simp [usedC, this]

def tm (ops : List (Int × Int)) (i : Int) : Int := (ops.getD i.toNat (0, 0)).2
def gt (hs : List Int) (i : Int) : Int := hs.getD i.toNat 0
def rlx (ops : List (Int × Int)) (s : List Int × Bool) (a : Int × Int) : List Int × Bool :=
  if gt s.1 a.2 < gt s.1 a.1 + tm ops a.1 then (s.1.set a.2.toNat (gt s.1 a.1 + tm ops a.1), false) else s
def rnd (ops arcs : List (Int × Int)) (hs : List Int) : List Int × Bool := arcs.foldl (rlx ops) (hs, true)
def hdsN (ops arcs : List (Int × Int)) : Nat → List Int → Option (List Int)
  | 0, _ => none
  | n + 1, hs => if (rnd ops arcs hs).2 = true then some (rnd ops arcs hs).1 else hdsN ops arcs n (rnd ops arcs hs).1
def hds (ops arcs : List (Int × Int)) : Option (List Int) := hdsN ops arcs ops.length (List.replicate ops.length 0)

/-- Arcs between operations below n. -/
def ArcsIn (n : Nat) (arcs : List (Int × Int)) : Prop := ∀ a ∈ arcs, 0 ≤ a.1 ∧ a.1 < n ∧ 0 ≤ a.2 ∧ a.2 < n
def Times (ops : List (Int × Int)) : Prop := ∀ o ∈ ops, 1 ≤ o.2 ∧ o.2 ≤ 20
def Bd (B : Int) (hs : List Int) : Prop := ∀ x ∈ hs, 0 ≤ x ∧ x ≤ B

theorem tm_bd {ops : List (Int × Int)} (h : Times ops) {i : Int} (h0 : 0 ≤ i) (hi : i < ops.length) : 1 ≤ tm ops i ∧ tm ops i ≤ 20 := by
  unfold tm
  have h2 : i.toNat < ops.length := by omega
  rw [List.getD_eq_getElem?_getD, List.getElem?_eq_getElem h2]
  exact h _ (List.getElem_mem h2)
theorem gt_bd {hs : List Int} {B : Int} (h : Bd B hs) (hB : 0 ≤ B) (i : Int) : 0 ≤ gt hs i ∧ gt hs i ≤ B := by
  unfold gt
  by_cases h2 : i.toNat < hs.length
  · rw [List.getD_eq_getElem?_getD, List.getElem?_eq_getElem h2]
    exact h _ (List.getElem_mem h2)
  · rw [List.getD_eq_getElem?_getD, List.getElem?_eq_none (by omega)]; simp; exact hB
theorem rlx_len {ops : List (Int × Int)} {s : List Int × Bool} {a : Int × Int} : (rlx ops s a).1.length = s.1.length := by
  unfold rlx; split <;> simp
theorem fold_len {ops : List (Int × Int)} : ∀ (arcs : List (Int × Int)) (s : List Int × Bool), (arcs.foldl (rlx ops) s).1.length = s.1.length
  | [], _ => rfl
  | a :: arcs, s => by rw [List.foldl_cons, fold_len arcs, rlx_len]
theorem rlx_bd {ops : List (Int × Int)} (ht : Times ops) {s : List Int × Bool} {a : Int × Int} {B : Int} (hB : 0 ≤ B) (ha : 0 ≤ a.1 ∧ a.1 < ops.length) (h : Bd B s.1) : Bd (B + 20) (rlx ops s a).1 := by
  unfold rlx
  split
  · intro x hx
    rcases List.mem_or_eq_of_mem_set hx with hx | rfl
    · have := h x hx; omega
    · have := gt_bd h hB a.1; have := tm_bd ht ha.1 ha.2; omega
  · intro x hx
    have := h x hx; omega
theorem fold_bd {ops : List (Int × Int)} (ht : Times ops) : ∀ (arcs : List (Int × Int)) (s : List Int × Bool) (B : Int), 0 ≤ B → ArcsIn ops.length arcs → Bd B s.1 → Bd (B + 20 * arcs.length) (arcs.foldl (rlx ops) s).1
  | [], s, B, _, _, h => by simpa using h
  | a :: arcs, s, B, hB, ha, h => by
    have h1 := rlx_bd ht hB ⟨(ha a (by simp)).1, (ha a (by simp)).2.1⟩ h
    have h2 := fold_bd ht arcs (rlx ops s a) (B + 20) (by omega) (fun b hb => ha b (by simp [hb])) h1
    rw [List.foldl_cons]
    have e : B + 20 + 20 * (arcs.length : Int) = B + 20 * ((a :: arcs).length : Nat) := by simp; omega
    rwa [e] at h2
theorem fold_take {ops arcs : List (Int × Int)} {s : List Int × Bool} {i : Nat} (hi : i < arcs.length) : (arcs.take (i + 1)).foldl (rlx ops) s = rlx ops ((arcs.take i).foldl (rlx ops) s) arcs[i] := by
  rw [List.take_succ_eq_append_getElem hi, List.foldl_append]; rfl
theorem bd_zero (n : Nat) : Bd 0 (List.replicate n (0 : Int)) := fun x hx => by
  rw [(List.mem_replicate.1 hx).2]; omega
theorem gt_get {hs : List Int} {i : Int} {k : Nat} (hk : k < hs.length) (e : i = (k : Int)) : gt hs i = hs[k] := by
  subst e
  unfold gt
  simp [hk]
theorem tm_get {ops : List (Int × Int)} {i : Int} {k : Nat} (hk : k < ops.length) (e : i = (k : Int)) : tm ops i = ops[k].2 := by
  subst e
  unfold tm
  simp [hk]
/-- The greatest end. -/
def spanT (ops : List (Int × Int)) (hs : List Int) (k : Nat) : Int := (List.range k).foldl (fun m i => max m (gt hs (i : Nat) + tm ops (i : Nat))) 0
def spanO (ops : List (Int × Int)) (hs : List Int) : Int := spanT ops hs ops.length
theorem spanT_succ (ops : List (Int × Int)) (hs : List Int) (k : Nat) : spanT ops hs (k + 1) = max (spanT ops hs k) (gt hs (k : Nat) + tm ops (k : Nat)) := by
  unfold spanT; rw [List.range_succ, List.foldl_append]; rfl
theorem hds_len {ops arcs : List (Int × Int)} : ∀ (n : Nat) (hs r : List Int), hdsN ops arcs n hs = some r → r.length = hs.length
  | 0, _, _, h => by cases h
  | n + 1, hs, r, h => by
    unfold hdsN at h
    split at h
    · cases h; exact fold_len arcs _
    · rw [hds_len n _ _ h]; exact fold_len arcs _
theorem hdsN_bd {ops arcs : List (Int × Int)} (ht : Times ops) (ha : ArcsIn ops.length arcs) : ∀ (n : Nat) (hs r : List Int) (B : Int), 0 ≤ B → Bd B hs → hdsN ops arcs n hs = some r → Bd (B + n * (20 * arcs.length)) r
  | 0, _, _, _, _, _, h => by cases h
  | n + 1, hs, r, B, hB, hb, h => by
    have h1 := fold_bd ht arcs (hs, true) B hB ha hb
    have e : ((n + 1 : Nat) : Int) * (20 * (arcs.length : Nat)) = 20 * (arcs.length : Nat) + n * (20 * (arcs.length : Nat)) := by
      rw [Int.natCast_add, Int.add_mul]; omega
    unfold hdsN at h
    split at h
    · cases h
      intro x hx
      have h2 := h1 x hx
      have h3 : (0 : Int) ≤ n * (20 * (arcs.length : Nat)) := Int.mul_nonneg (by omega) (by omega)
      rw [e]; omega
    · have h2 := hdsN_bd ht ha n _ r (B + 20 * arcs.length) (by omega) h1 h
      intro x hx
      have h3 := h2 x hx
      rw [e]; omega
theorem hds_bd {ops arcs : List (Int × Int)} (ht : Times ops) (ha : ArcsIn ops.length arcs) {r : List Int} (h : hds ops arcs = some r) (h9 : ops.length ≤ 9) (hA : arcs.length ≤ 1000000) : Bd 200000000 r := fun x hx => by
  have h1 := hdsN_bd ht ha _ _ _ 0 (by omega) (bd_zero _) h x hx
  have : (ops.length : Int) * (20 * (arcs.length : Nat)) ≤ 9 * (20 * (arcs.length : Nat)) := Int.mul_le_mul_of_nonneg_right (by omega) (by omega)
  omega
/-- Times as they are returned. -/
def hdV (zs : List Int) : DV := .sl (ints zs) zs.length (some zs.length)
theorem hdV_ok (zs : List Int) : Ints (hdV zs) zs := ints_ok
def hdR : Option (List Int) → DV
  | some zs => .tup [hdV zs, DB true]
  | none => .tup [Dnil, DB false]
theorem own_make {σ : List VObj} {id k n : Nat} {zs : List Int} (h : σ[id]? = some ⟨xs zs, 0⟩) (e : zs.length = n) : deepen (freezeAll σ) (k + 2) (.osl id 0 n 1 n true) = some (hdV zs) := by
  subst e
  have f2 : (freezeAll σ)[id]? = some ⟨xs zs, 1⟩ := by simp [freezeAll, h]
  rw [deepen_osl f2 rfl (by rw [xs_len]; omega), List.drop_zero, Nat.mul_one, List.take_of_length_le (by rw [xs_len]; exact Nat.le_refl _), xs_ints, mapM_deep]; rfl
theorem xs_gt {l : List Int} {z : Int} (h0 : 0 ≤ z) (h : z < l.length) : (xs l)[0 + z.toNat]? = some (.d (DI (gt l z))) := by
  rw [xs_get (show z.toNat < l.length by omega), gt_get (show z.toNat < l.length by omega) (by omega)]
theorem rep_xs (n : Nat) : List.replicate n (XV.d (.lit (.int .i64 0))) = xs (List.replicate n 0) := by simp [xs]
/-- A graph as a value. -/
structure Gr (d : DV) (ops arcs : List (Int × Int)) (ms : List (List Int)) : Prop where
  ex : ∃ a b c, d = .agg [a, b, c] ∧ PrD a ops ∧ PrD b arcs ∧ Mat c ms
end Go.Ba

