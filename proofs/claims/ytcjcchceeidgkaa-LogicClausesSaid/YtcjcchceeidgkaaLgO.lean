import Derived.Test.YtcjcchceeidgkaaLgK
import Derived.Test.YtcjcchceeidgkaaVmTb
/-
  Logic: what a statement gives.
-/
namespace Go.Proofs.Ytcjcchceeidgkaa
open Go.Vm Go.Lg

instance : Inhabited Fo := ⟨.mk ⟨#[]⟩ []⟩
def FoP (ds : List DV) : Prop := ∃ op kd ks, ds = [.lit (.string op), kd] ∧ KidsD kd ks
theorem kids_of {d : DV} (h : VecP 2 FoP d) : ∃ ks, KidsD d ks := by
  cases h with
  | nil => exact ⟨[], .nil⟩
  | @sl cs len cap hn hl h =>
    have each : ∀ i, i < len → ∃ f : Fo, ∃ kd, (cs.drop (i * 2)).take 2 = [.lit (.string f.op), kd] ∧ KidsD kd f.ks := fun i hi => by
      obtain ⟨op, kd, ks, h1, h2⟩ := h i hi
      exact ⟨.mk op ks, kd, h1, h2⟩
    obtain ⟨f, hf⟩ := Go.Deep.choose_lt each
    have e : ((List.range len).map f).length = len := by simp
    refine ⟨(List.range len).map f, ?_⟩
    have get : ∀ (i : Nat) (op : ByteArray) (ks' : List Fo), ((List.range len).map f)[i]? = some (.mk op ks') → ∃ kd, cs[i * 2]? = some (.lit (.string op)) ∧ cs[i * 2 + 1]? = some kd ∧ KidsD kd ks' := fun i op ks' hi => by
      rw [List.getElem?_map] at hi
      by_cases hlt : i < len
      · rw [List.getElem?_range hlt] at hi
        simp only [Option.map_some, Option.some.injEq] at hi
        obtain ⟨kd, h1, h2⟩ := hf i hlt
        rw [hi] at h1 h2
        have g0 := congrArg (fun l => l[0]?) h1
        have g1 := congrArg (fun l => l[1]?) h1
        simp only [List.getElem?_take, List.getElem?_drop] at g0 g1
        exact ⟨kd, by simpa [Fo.op] using g0, by simpa using g1, h2⟩
      · rw [List.getElem?_eq_none (by simp; omega)] at hi; cases hi
    have := KidsD.sl (ks := (List.range len).map f) (cs := cs) (cap := cap) (by rw [e]; exact hn) (fun i op ks' a h1 h2 => by
      obtain ⟨kd, k1, _⟩ := get i op ks' h1
      rw [k1] at h2; exact (Option.some.inj h2).symm) (fun i op ks' kd h1 h2 => by
      obtain ⟨kd', _, k2, k3⟩ := get i op ks' h1
      rw [k2] at h2; cases h2; exact k3)
    rwa [e] at this
theorem open_i : Opn Try.prog 3 (One fun d => ∃ n, IsI d n) := (Opn.int Try.underlying3).mono fun _ ⟨d, e, n, hd, _⟩ => ⟨d, e, n, hd⟩
theorem open_s : Opn Try.prog 9 (One fun d => ∃ s, d = .lit (.string s)) := (Opn.string Try.underlying9).mono fun _ ⟨d, e, n, hd, _⟩ => ⟨d, e, n, hd⟩
theorem open_ints : Opn Try.prog 22 (One fun d => ∃ l, Ints d l ∧ l.length ≤ 9223372036854775807) := (Opn.slice Try.underlying22 (by kernel_rfl) open_i).mono fun ds ⟨d, e, h⟩ => ⟨d, e, VecP.vec (R := IsI) h⟩
theorem open_formB : ∀ B, OpnB B Try.prog 27 FoP
  | 0 => OpnB.structZ Try.underlying27
  | B + 1 => by
    have hk : OpnB B Try.prog 25 (One fun d => ∃ ks, KidsD d ks) := ((OpnB.slice (B := B) Try.underlying25 (by kernel_rfl) (open_formB B)).less (Nat.le_succ B)).mono fun ds ⟨d, e, h⟩ => ⟨d, e, kids_of h⟩
    refine (OpnB.struct Try.underlying27 [(1, One fun d => ∃ s, d = .lit (.string s)), (1, One fun d => ∃ ks, KidsD d ks)] (fun i => i) rfl rfl (by kernel_rfl) fun i f q hf hq => ?_).mono fun ds h => ?_
    · match i with
      | 0 => simp at hf hq; subst hf hq; exact ⟨rfl, by kernel_rfl, rfl, open_s.b B⟩
      | 1 => simp at hf hq; subst hf hq; exact ⟨rfl, by kernel_rfl, rfl, hk⟩
      | i + 2 => simp at hf
    · obtain ⟨_, _, rfl, _, ⟨_, rfl, s, rfl⟩, _, _, rfl, _, ⟨kd, rfl, ks, hks⟩, rfl⟩ := h
      exact ⟨s, kd, ks, rfl, hks⟩
theorem open_form : Opn Try.prog 27 FoP := OpnB.all open_formB
def StP (ds : List DV) : Prop := ∃ dN dL N L, ds = [dN, dL] ∧ Ints dN N ∧ Ints dL L ∧ N.length ≤ 9223372036854775807 ∧ L.length ≤ 9223372036854775807
theorem open_str : Opn Try.prog 24 StP := by
  refine (Opn.struct Try.underlying24 [(1, (One fun d => ∃ l, Ints d l ∧ l.length ≤ 9223372036854775807)), (1, (One fun d => ∃ l, Ints d l ∧ l.length ≤ 9223372036854775807))] (fun i => i) rfl rfl (by kernel_rfl) fun i f q hf hq => ?_).mono fun ds h => ?_
  · match i with
    | 0 => simp at hf hq; subst hf hq; exact ⟨rfl, by kernel_rfl, rfl, open_ints⟩
    | 1 => simp at hf hq; subst hf hq; exact ⟨rfl, by kernel_rfl, rfl, open_ints⟩
    | i + 2 => simp at hf
  · obtain ⟨_, _, rfl, _, ⟨a, rfl, N, h1, h2⟩, _, _, rfl, _, ⟨b, rfl, L, h3, h4⟩, rfl⟩ := h
    exact ⟨a, b, N, L, rfl, h1, h3, h2, h4⟩
end Go.Proofs.Ytcjcchceeidgkaa

