import Derived.Test.YtnfnjnaheckdbaaFlK
/-
  Dataflow graphs: the closed call; what the laws need.
-/
namespace Go.Proofs.Ytnfnjnaheckdbaa
open Go.Vm Go.Fl

theorem build62k : pureRun Try.prog (Instr.build 62 #[(0, .int .i64 0), (1, .int .i64 1), (2, .int .i64 2), (3, .int .i64 3)]) = some (.agg #[.int .i64 0, .int .i64 1, .int .i64 2, .int .i64 3, .int .i64 0]) := by kernel_rfl
set_option maxRecDepth 10000 in
theorem build31o {n : Int} {id off len k lo : Nat} {ex : Bool} : opBuild Try.prog 31 [(0, .d (DI n)), (1, .osl id off len k lo ex)] = some (.agg [.d (DI n), .osl id off len k lo ex]) := by
  have hp := Try.places31
  rw [Try.underlying31] at hp
  simp only at hp
  have e1 : ((#[(0, 1), (1, 1)] : Array (Nat × Nat))[0]?) = some (0, 1) := rfl
  have e2 : ((#[(0, 1), (1, 1)] : Array (Nat × Nat))[1]?) = some (1, 1) := rfl
  simp [opBuild, Try.zero31, Try.underlying31, hp, fillP, splice, Value.cells, aggX, allD, cellsX]
def awL : List LN := [⟨0, 1, 2, 3, 0⟩]
theorem aw_q : ∃ q, RepG 2 awL q ∧ q 0 = 3 ∧ q 1 = 2 := by
  have h0 : (repA ((2 : Nat) : Int) (awL.map LN.z)).2 = 0 := by decide +kernel
  obtain ⟨N, Ln, q, h1, h2, h3⟩ := repG_of h0
  obtain rfl : N = 2 := by omega
  obtain rfl : Ln = awL := by rw [← toN_z Ln, ← h2, toN_z]
  have e := h3.r
  refine ⟨q, h3, ?_, ?_⟩
  · have : (repA ((2 : Nat) : Int) (awL.map LN.z)).1 0 = 3 := by decide +kernel
    rw [e] at this; exact this
  · have : (repA ((2 : Nat) : Int) (awL.map LN.z)).1 1 = 2 := by decide +kernel
    rw [e] at this; exact this
set_option maxRecDepth 10000 in
theorem awake22 : DeepCall Try.prog 22 [] (DB true) := by
  obtain ⟨q, hr, q0, q1⟩ := aw_q
  have hrep := repeat18_ok (d := .sl (flatK (awL.map LN.z)) 1 (some 1)) (.sl (L := awL.map LN.z)) hr
  have hI : Ints (.sl [DI 3, DI 2] 2 (some 2)) [3, 2] := .sl (l := [3, 2]) rfl fun i c x hc hx => by
    match i with
    | 0 => simp at hc hx; subst hc hx; rfl
    | 1 => simp at hc hx; subst hc hx; rfl
    | i + 2 => simp at hc
  have hEq := equal21 (seqD_ints q 2) hI (by simp)
  have e : (List.range 2).map (fun i => (q i : Int)) = [3, 2] := by simp [List.range_succ, q0, q1]
  rw [e] at hEq
  refine deepCall_K 5 Try.func22 rfl (Nat.le_of_ble_eq_true rfl) fun M W0 => ?_
  refine KC.seq ?_
  refine KC.region ?_
  refine KT.step rfl rfl (K.assign rfl) ?_
  refine KT.nil ?_
  refine thenK_n ?_
  refine KC.seq ?_
  refine KC.region ?_
  refine KT.step rfl rfl (K.buildL rfl build62k) ?_
  refine KT.step rfl rfl (K.buildC (k := 5) (cs := (lk5 ⟨0, 1, 2, 3, 0⟩).map .d) rfl rfl rfl Try.underlying29 Try.size62 Try.zero62 (by omega)) ?_
  refine KT.step rfl rfl (K.build rfl (x := .tmp 5) (by simp) rfl rfl build31o) ?_
  refine KT.step rfl rfl (K.callZ [0] 5 rfl plainTry_18 rfl hrep) ?_
  refine KT.step rfl rfl (K.move rfl) ?_
  refine KT.step rfl rfl (K.extract rfl rfl) ?_
  refine KT.step rfl rfl (K.extract rfl rfl) ?_
  refine KT.step rfl rfl (K.assign rfl) ?_
  refine KT.step rfl rfl (K.assign rfl) ?_
  refine KT.nil ?_
  refine thenK_n ?_
  refine KC.seq ?_
  refine KC.region ?_
  refine KT.step rfl rfl (K.move rfl) ?_
  refine KT.step rfl rfl (K.eql rfl rfl) ?_
  refine KT.step rfl rfl (K.move rfl) ?_
  refine KT.step rfl rfl (K.move rfl) ?_
  refine KT.step rfl rfl (K.build2s rfl rfl rfl rfl Try.underlying25 Try.one3) ?_
  refine KT.step rfl rfl (K.callZ [1] 5 rfl plainTry_21 rfl hEq) ?_
  refine KT.step rfl rfl (K.pick rfl (fun _ => rfl) (fun h => by cases h)) ?_
  refine KT.step rfl rfl (K.assign rfl) ?_
  refine KT.nil ?_
  refine thenK_n ?_
  refine KC.ret ?_
  exact ⟨.inl rfl, _, rfl, fin_b (by simp)⟩

abbrev intX (l : List Int) : List XV := (l.map DI).map .d
section
variable {P : Program} {σ : List VObj} {kn : Kn} {dst : Option Tmp} {ty : TypeId} {pos : String} {af : Array Edge} {g : Option (Nat × Bool)}
theorem K.loadSeq {x : Operand} {t : TypeId} {N m : Nat} {f : Nat → DV} (hm : m < N) (hx : evK kn x = some (.d (.ptr (((List.range N).map f).drop (m * 1))))) (ht : isAggT P t = some false) : KEv P ⟨dst, .load t x, ty, pos, af, g⟩ σ kn (.d (f m)) σ 0 := by
  have e : ((List.range N).map f).drop (m * 1) = f m :: ((List.range N).map f).drop (m + 1) := by
    rw [Nat.mul_one, List.drop_eq_getElem_cons (by simpa using hm)]
    simp
  rw [e] at hx
  exact K.load hx ht
end
theorem take12 {L : List LZ} {Ln : List LN} (h : L.take 12 = Ln.map LN.z) (hl : Ln.length ≤ 10) : L = Ln.map LN.z ∧ L.take 12 = L := by
  have h1 := congrArg List.length h
  rw [List.length_take, List.length_map] at h1
  have h2 : L.take 12 = L := List.take_of_length_le (by omega)
  exact ⟨h2.symm.trans h, h2⟩
end Go.Proofs.Ytnfnjnaheckdbaa

