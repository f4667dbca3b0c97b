/-
  VALUES WITHOUT ADDRESSES: what a cell of one's own, or a slot, stands for may be told in another way.
-/
import Derived.Test.YthbnnffmhnjpjaaCyW
namespace Go.Vm
open Go.RowKit

theorem Mem.recell {M : Nat → Prop} {W0 w : World} {ι : List Nat} {σ : List VObj} (hm : Mem M W0 ι σ w) {id i : Nat} {ob : VObj} {x : XV} {d : DV} (ho : σ[id]? = some ob) (h2 : ob.mode ≠ 2) (hx : ob.cells[i]? = some x)
    (hd : ∀ v, XRep w ι (Forb M ι σ) v x → DRep w (Forb M ι σ) v d) : Mem M W0 ι (σ.set id ⟨ob.cells.set i (.d d), ob.mode⟩) w ∧ Ext M ι σ w ι (σ.set id ⟨ob.cells.set i (.d d), ob.mode⟩) w := by
  have hlt := (List.getElem?_eq_some_iff.1 ho).1
  have hback : ∀ (j : Nat) (o : VObj), (σ.set id ⟨ob.cells.set i (.d d), ob.mode⟩)[j]? = some o → ∃ o1, σ[j]? = some o1 ∧ o.mode = o1.mode ∧ o.cells.length = o1.cells.length := by
    intro j o h
    by_cases e : id = j
    · subst e
      rw [List.getElem?_set_self hlt] at h
      cases h
      exact ⟨ob, ho, rfl, by simp⟩
    · rw [List.getElem?_set_ne e] at h
      exact ⟨o, h, rfl, rfl⟩
  have hmt : ∀ c, Mut ι (σ.set id ⟨ob.cells.set i (.d d), ob.mode⟩) c → Mut ι σ c := by
    rintro c ⟨j, p, h1, h2, h3⟩
    obtain ⟨o, k1, k2, _⟩ := hback j p h1
    exact ⟨j, o, k1, h2, by omega⟩
  have hext : Ext M ι σ w ι (σ.set id ⟨ob.cells.set i (.d d), ob.mode⟩) w := ⟨fun _ _ h => h, fun _ _ _ => rfl, Nat.le_refl _, fun c _ h => hmt c h, fun _ _ h => h⟩
  refine ⟨⟨by rw [hm.len]; simp, ?_, hm.fresh, ?_, hm.below, hm.outer⟩, hext⟩
  · intro j o b h1 h2' h3
    by_cases e : id = j
    · subst e
      rw [List.getElem?_set_self hlt] at h1
      cases h1
      obtain ⟨cur, ty, q1, q2, q3⟩ := hm.objs id ob b ho h2' h2
      refine ⟨cur, ty, q1, by simpa using q2, fun m y hy => ?_⟩
      by_cases em : i = m
      · subst em
        rw [List.getElem?_set_self (List.getElem?_eq_some_iff.1 hx).1] at hy
        cases hy
        obtain ⟨v, kv, kx⟩ := q3 i x hx
        exact ⟨v, kv, (XRep.d (hd v kx)).ext hext⟩
      · rw [List.getElem?_set_ne em] at hy
        obtain ⟨v, kv, kx⟩ := q3 m y hy
        exact ⟨v, kv, kx.ext hext⟩
    · rw [List.getElem?_set_ne e] at h1
      obtain ⟨cur, ty, q1, q2, q3⟩ := hm.objs j o b h1 h2' h3
      exact ⟨cur, ty, q1, q2, fun m y hy => by
        obtain ⟨v, kv, kx⟩ := q3 m y hy
        exact ⟨v, kv, kx.ext hext⟩⟩
  · intro i' j oi oj bi bj hij h1 h2' h3 h4 h5 h6
    obtain ⟨o1, a1, a2, _⟩ := hback i' oi h1
    obtain ⟨o2, b1, b2, _⟩ := hback j oj h2'
    exact hm.apart i' j o1 o2 bi bj hij a1 b1 h3 h4 (by omega) (by omega)

section
variable {P : Program} {M : Nat → Prop} {W0 : World} {n : Nat} {σ : List VObj} {kn : Kn}
/-- A cell that refers to an object which is only read from here on. -/
theorem KC.ghostC {c : Code} {T : Exit → List VObj → Kn → Prop} (ids : List Nat) (m : Nat) {id i : Nat} {ob : VObj} {x : XV} {d : DV} (ho : (freezeIds σ ids)[id]? = some ob) (h2 : ob.mode ≠ 2) (hx : ob.cells[i]? = some x) (hd : deepen (freezeIds σ ids) m x = some d)
    (h : KC P M W0 n c ((freezeIds σ ids).set id ⟨ob.cells.set i (.d d), ob.mode⟩) kn T) : KC P M W0 n c σ kn T := by
  intro env he ι a w hF Q hQ
  obtain ⟨f1, f2⟩ := freezeIds_tamed hF.mem ids
  obtain ⟨g1, g2⟩ := f1.recell ho h2 hx fun v hv => deepen_sound f1 m v x d hv hd
  exact h env he ι a w ⟨g1, fun s => ((hF.env s).ext f2).ext g2, hF.size, hF.defers⟩ Q fun e ι' s' a' w' hT hFr hE => hQ e ι' s' a' w' hT hFr (f2.trans (g2.trans hE))
/-- A slot that is told in another way. -/
theorem KC.ghostX {c : Code} {T : Exit → List VObj → Kn → Prop} {t : Nat} {x y : XV} (hl : look kn t = some x) (hd : ∀ (w : World) (ι : List Nat) (F : Nat → Prop) (v : Value), XRep w ι F v x → XRep w ι F v y)
    (h : KC P M W0 n c σ (extK (some t) y kn) T) : KC P M W0 n c σ kn T := by
  intro env he ι a w hF Q hQ
  refine h (putE env (some t) y) (he.ext (some t) y) ι a w ⟨hF.mem, fun s => ?_, hF.size, hF.defers⟩ Q hQ
  have hs := hF.env s
  simp only [putE, upd]
  split
  · rename_i e
    subst e
    have he' : env s = x := he s x hl
    simp only [he'] at hs
    exact hd _ _ _ _ hs
  · exact hs
theorem osl_loose {w : World} {ι : List Nat} {F : Nat → Prop} {v : Value} {id off len k lo : Nat} (h : XRep w ι F v (.osl id off len k lo true)) : XRep w ι F v (.osl id off len k lo false) := by
  cases h with
  | osl hb hl hlo hex hs => exact .osl hb hl hlo (fun h => by cases h) hs
end
theorem resK_tct {P : Program} {σ : List VObj} {kn : Kn} {fn : Func} {a t b c id m md : Nat} (ds : List DV) {y z : XV} (hr : fn.results = #[.tmp b, .cell a t, .tmp c]) (hl : look kn a = some (.optr id 0)) (ho : σ[id]? = some ⟨ds.map .d, md⟩) (h2 : md ≠ 2) (ha : isAggT P t = some true) (hs : sizeT P t = some m) (hm : ds.length = m) (hy : look kn b = some y) (hz : look kn c = some z) :
    resK P fn σ kn = some (.tup [y, .d (.agg ds), z]) := by
  unfold resK
  rw [hr]
  have e : resVarK P σ kn (.cell a t) = some (.d (.agg ds)) := by
    simp only [resVarK, hl, Option.bind_some, opLoad, ho]
    rw [if_neg h2]
    simp only [takeVar, ha, hs, List.drop_zero]
    rw [if_pos (by simp; omega), List.take_of_length_le (by simp; omega), aggX_d]; rfl
  have e2 : resVarK P σ kn (.tmp b) = some y := hy
  have e3 : resVarK P σ kn (.tmp c) = some z := hz
  simp [e, e2, e3]
end Go.Vm
