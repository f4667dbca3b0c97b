import Derived.Test.YtjfpeiioddfjcaaZnZa
import Derived.Test.YtjfpeiioddfjcaaZnYa
/-
  Automata: which are right.
-/
namespace Go.Proofs.Ytjfpeiioddfjcaa
open Go.Vm Go.Zn
theorem plainTry_45 : plainFn Try.prog 45 = true := by kernel_rfl
theorem plainTry_77 : plainFn Try.prog 77 = true := by kernel_rfl
theorem Try.agg62 : isAggT Try.prog 62 = some true := by kernel_rfl
theorem Try.size62 : sizeT Try.prog 62 = some 3 := by kernel_rfl
theorem Try.zero62 : zeroT Try.prog 62 = some (.agg #[.int .i64 0, .slice none 0 0, .slice none 0 0]) := by kernel_rfl
theorem Try.fld62_0 : fieldT Try.prog 62 0 = some { name := "Clocks", type := 3, offset := 0, embedded := false, tag := "", pkgPath := "", byteOffset := 0 } := by kernel_rfl
theorem Try.fld62_1 : fieldT Try.prog 62 1 = some { name := "Invariants", type := 59, offset := 1, embedded := false, tag := "", pkgPath := "", byteOffset := 8 } := by kernel_rfl
theorem Try.fld62_2 : fieldT Try.prog 62 2 = some { name := "Edges", type := 60, offset := 2, embedded := false, tag := "", pkgPath := "", byteOffset := 32 } := by kernel_rfl
theorem Try.places62 : (match Try.prog.underlying 62 with | some (.struct fs) => placesT Try.prog fs | _ => none) = some #[(0, 1), (1, 1), (2, 1)] := by kernel_rfl
theorem Try.agg122 : isAggT Try.prog 122 = some true := by kernel_rfl
theorem Try.size122 : sizeT Try.prog 122 = some 4 := by kernel_rfl
theorem Try.zero122 : zeroT Try.prog 122 = some (.agg #[.int .i64 0, .int .i64 0, .slice none 0 0, .int .i64 0]) := by kernel_rfl
theorem Try.fld122_0 : fieldT Try.prog 122 0 = some { name := "From", type := 3, offset := 0, embedded := false, tag := "", pkgPath := "", byteOffset := 0 } := by kernel_rfl
theorem Try.fld122_1 : fieldT Try.prog 122 1 = some { name := "To", type := 3, offset := 1, embedded := false, tag := "", pkgPath := "", byteOffset := 8 } := by kernel_rfl
theorem Try.fld122_2 : fieldT Try.prog 122 2 = some { name := "Guards", type := 107, offset := 2, embedded := false, tag := "", pkgPath := "", byteOffset := 16 } := by kernel_rfl
theorem Try.fld122_3 : fieldT Try.prog 122 3 = some { name := "Resets", type := 3, offset := 3, embedded := false, tag := "", pkgPath := "", byteOffset := 40 } := by kernel_rfl
theorem Try.places122 : (match Try.prog.underlying 122 with | some (.struct fs) => placesT Try.prog fs | _ => none) = some #[(0, 1), (1, 1), (2, 1), (3, 1)] := by kernel_rfl
theorem Try.agg120 : isAggT Try.prog 120 = some true := by kernel_rfl
theorem Try.size120 : sizeT Try.prog 120 = some 4 := by kernel_rfl
theorem Try.zero120 : zeroT Try.prog 120 = some (.agg #[.int .i64 0, .int .i64 0, .slice none 0 0, .int .i64 0]) := by kernel_rfl
theorem Try.fld120_0 : fieldT Try.prog 120 0 = some { name := "From", type := 3, offset := 0, embedded := false, tag := "", pkgPath := "", byteOffset := 0 } := by kernel_rfl
theorem Try.fld120_1 : fieldT Try.prog 120 1 = some { name := "To", type := 3, offset := 1, embedded := false, tag := "", pkgPath := "", byteOffset := 8 } := by kernel_rfl
theorem Try.fld120_2 : fieldT Try.prog 120 2 = some { name := "Guards", type := 117, offset := 2, embedded := false, tag := "", pkgPath := "", byteOffset := 16 } := by kernel_rfl
theorem Try.fld120_3 : fieldT Try.prog 120 3 = some { name := "Resets", type := 3, offset := 3, embedded := false, tag := "", pkgPath := "", byteOffset := 40 } := by kernel_rfl
theorem Try.places120 : (match Try.prog.underlying 120 with | some (.struct fs) => placesT Try.prog fs | _ => none) = some #[(0, 1), (1, 1), (2, 1), (3, 1)] := by kernel_rfl
theorem Try.agg60 : isAggT Try.prog 60 = some false := by kernel_rfl
theorem Try.size60 : sizeT Try.prog 60 = some 1 := by kernel_rfl
theorem Try.one60 : OneT Try.prog 60 (.slice none 0 0) := ⟨by kernel_rfl, by kernel_rfl, rfl, of_decide_eq_true (by kernel_rfl)⟩
theorem Try.agg54 : isAggT Try.prog 54 = some false := by kernel_rfl
theorem Try.size54 : sizeT Try.prog 54 = some 1 := by kernel_rfl
theorem Try.one54 : OneT Try.prog 54 (.slice none 0 0) := ⟨by kernel_rfl, by kernel_rfl, rfl, of_decide_eq_true (by kernel_rfl)⟩
theorem Try.agg59 : isAggT Try.prog 59 = some false := by kernel_rfl
theorem Try.size59 : sizeT Try.prog 59 = some 1 := by kernel_rfl
theorem Try.one59 : OneT Try.prog 59 (.slice none 0 0) := ⟨by kernel_rfl, by kernel_rfl, rfl, of_decide_eq_true (by kernel_rfl)⟩
theorem Try.agg53 : isAggT Try.prog 53 = some false := by kernel_rfl
theorem Try.size53 : sizeT Try.prog 53 = some 1 := by kernel_rfl
theorem Try.one53 : OneT Try.prog 53 (.slice none 0 0) := ⟨by kernel_rfl, by kernel_rfl, rfl, of_decide_eq_true (by kernel_rfl)⟩

abbrev GdsL : DV → List (List G3) → Prop := Vec Gds
def okEd (c n : Nat) (e : Ed) : Bool := ((decide (0 ≤ e.1) && decide (e.1 ≤ (n : Int) - 1)) && (decide (0 ≤ e.2.1) && decide (e.2.1 ≤ (n : Int) - 1))) && (okL c e.2.2.1 && setB (c + 1) e.2.2.2)
theorem okEd_iff {c n : Nat} {e : Ed} : okEd c n e = true ↔ (0 ≤ e.1 ∧ e.1 < n) ∧ (0 ≤ e.2.1 ∧ e.2.1 < n) ∧ okL c e.2.2.1 = true ∧ setB (c + 1) e.2.2.2 = true := by
  unfold okEd
  simp only [Bool.and_eq_true, decide_eq_true_eq]
  constructor
  · rintro ⟨⟨⟨h1, h2⟩, h3, h4⟩, h5, h6⟩
    exact ⟨⟨h1, by omega⟩, ⟨h3, by omega⟩, h5, h6⟩
  · rintro ⟨⟨h1, h2⟩, ⟨h3, h4⟩, h5, h6⟩
    exact ⟨⟨⟨h1, by omega⟩, h3, by omega⟩, h5, h6⟩
theorem Gds.one {gd : DV} {L : List G3} (h : Gds gd L) : oneX (.d gd) = true := by cases h <;> rfl
theorem ed_one {gd : DV} {L : List G3} {a b r : Int} (h : Gds gd L) : [XV.d (DI a), .d (DI b), .d gd, .d (DI r)].all oneX = true := by
  show (true && (true && (oneX (.d gd) && (true && true)))) = true
  rw [Gds.one h]; rfl
def rightB (c : Int) (I : List (List G3)) (E : List Ed) : Bool := ((decide (1 ≤ c) && decide (c ≤ 3)) && ((decide (1 ≤ I.length) && decide (I.length ≤ 5)) && decide (E.length ≤ 8))) && (I.all (okL c) && E.all (okEd c.toNat I.length))
theorem rightB_iff {c : Int} {I : List (List G3)} {E : List Ed} : rightB c I E = true ↔ ((1 ≤ c ∧ c ≤ 3) ∧ (1 ≤ I.length ∧ I.length ≤ 5) ∧ E.length ≤ 8) ∧ (∀ q (h : q < I.length), okL c I[q] = true) ∧ ∀ q (h : q < E.length), okEd c.toNat I.length E[q] = true := by
  unfold rightB
  simp only [Bool.and_eq_true, decide_eq_true_eq, List.all_eq_true]
  constructor
  · rintro ⟨⟨h1, h2, h3⟩, h4, h5⟩
    exact ⟨⟨h1, h2, h3⟩, fun q h => h4 _ (List.getElem_mem h), fun q h => h5 _ (List.getElem_mem h)⟩
  · rintro ⟨⟨h1, h2, h3⟩, h4, h5⟩
    refine ⟨⟨h1, h2, h3⟩, fun x hx => ?_, fun x hx => ?_⟩
    · obtain ⟨q, hq, rfl⟩ := List.getElem_of_mem hx; exact h4 q hq
    · obtain ⟨q, hq, rfl⟩ := List.getElem_of_mem hx; exact h5 q hq
theorem shl2 : ∀ c : Nat, c < 4 → IntKind.i64.wrap ((2 : Int) * 2 ^ min ((c : Int)).toNat IntKind.i64.bits) = ((2 ^ (c + 1) : Nat) : Int) := by decide

theorem setB_iff {L : Nat} {s : Int} : setB L s = true ↔ (0 ≤ s ∧ s ≤ ((2 ^ L : Nat) : Int) - 1) ∧ s % 2 = 0 := by
  unfold setB
  simp only [Bool.and_eq_true, decide_eq_true_eq]
set_option maxHeartbeats 2000000 in
set_option maxRecDepth 10000 in
theorem Right45 {iD eD : DV} {I : List (List G3)} {E : List Ed} {c : Int} (hI : GdsL iD I) (hE : Eds eD E) (hIl : I.length ≤ 9223372036854775807) (hEl : E.length ≤ 9223372036854775807) (hIr : ∀ L ∈ I, L.length ≤ 9223372036854775807) (hEr : ∀ e ∈ E, e.2.2.1.length ≤ 9223372036854775807) : DeepCall Try.prog 45 [.agg [DI c, iD, eD]] (DB (rightB c I E)) := by
  refine deepCall_K 5 Try.func45 rfl (Nat.le_of_ble_eq_true rfl) fun M W0 => ?_
  refine KC.seq ?_
  refine KC.region ?_
  refine KT.step rfl rfl (K.box rfl) ?_
  refine KT.step rfl rfl (K.assign rfl) ?_
  refine KT.nil ?_
  refine thenK_n ?_
  refine KC.seq ?_
  refine KC.seq ?_
  refine KC.region ?_
  refine KT.step rfl rfl (K.fieldAddrO rfl Try.fld56_0 Try.size3) ?_
  refine KT.step rfl rfl (K.loadO rfl rfl (by simp) rfl Try.agg3) ?_
  refine KT.step rfl rfl (K.lss rfl rfl) ?_
  refine KT.step rfl rfl (K.move rfl) ?_
  refine KT.bcase (fun hb10 => ?_) (fun hb10 => ?_)
  · skip
    replace hb10 := of_decide_eq_true hb10
    refine KT.skip rfl rfl ?_
    refine KT.skip rfl rfl ?_
    refine KT.skip rfl rfl ?_
    refine KT.step rfl rfl (K.pick rfl (fun _ => rfl) (fun h => by cases h)) ?_
    refine KT.step rfl rfl (K.move rfl) ?_
    refine KT.skip rfl rfl ?_
    refine KT.skip rfl rfl ?_
    refine KT.skip rfl rfl ?_
    refine KT.skip rfl rfl ?_
    refine KT.step rfl rfl (K.pick rfl (fun _ => rfl) (fun h => by cases h)) ?_
    refine KT.step rfl rfl (K.move rfl) ?_
    refine KT.skip rfl rfl ?_
    refine KT.skip rfl rfl ?_
    refine KT.skip rfl rfl ?_
    refine KT.skip rfl rfl ?_
    refine KT.step rfl rfl (K.pick rfl (fun _ => rfl) (fun h => by cases h)) ?_
    refine KT.step rfl rfl (K.move rfl) ?_
    refine KT.skip rfl rfl ?_
    refine KT.skip rfl rfl ?_
    refine KT.skip rfl rfl ?_
    refine KT.skip rfl rfl ?_
    refine KT.step rfl rfl (K.pick rfl (fun _ => rfl) (fun h => by cases h)) ?_
    refine KT.nil ?_
    refine thenK_n ?_
    refine KC.cond rfl (fun hc32 => ?_) (fun hc32 => ?_)
    · skip
      refine KC.seq ?_
      refine KC.region ?_
      refine KT.step rfl rfl (K.assign rfl) ?_
      refine KT.nil ?_
      refine thenK_n ?_
      refine KC.ret ?_
      refine thenK_r ?_
      have hbad : rightB c I E = false := Bool.eq_false_iff.2 fun h => by
        obtain ⟨⟨h1, h2, h3⟩, h4, h5⟩ := rightB_iff.1 h
        omega
      exact ⟨.inl rfl, _, rfl, fin_b hbad⟩
    · cases hc32
  · skip
    replace hb10 := of_decide_eq_false hb10
    refine KT.step rfl rfl (K.fieldAddrO rfl Try.fld56_0 Try.size3) ?_
    refine KT.step rfl rfl (K.loadO rfl rfl (by simp) rfl Try.agg3) ?_
    refine KT.step rfl rfl (K.gtr rfl rfl) ?_
    refine KT.step rfl rfl (K.pick rfl (fun h => by cases h) (fun _ => rfl)) ?_
    refine KT.step rfl rfl (K.move rfl) ?_
    refine KT.bcase (fun hb15 => ?_) (fun hb15 => ?_)
    · skip
      replace hb15 := of_decide_eq_true hb15
      refine KT.skip rfl rfl ?_
      refine KT.skip rfl rfl ?_
      refine KT.skip rfl rfl ?_
      refine KT.skip rfl rfl ?_
      refine KT.step rfl rfl (K.pick rfl (fun _ => rfl) (fun h => by cases h)) ?_
      refine KT.step rfl rfl (K.move rfl) ?_
      refine KT.skip rfl rfl ?_
      refine KT.skip rfl rfl ?_
      refine KT.skip rfl rfl ?_
      refine KT.skip rfl rfl ?_
      refine KT.step rfl rfl (K.pick rfl (fun _ => rfl) (fun h => by cases h)) ?_
      refine KT.step rfl rfl (K.move rfl) ?_
      refine KT.skip rfl rfl ?_
      refine KT.skip rfl rfl ?_
      refine KT.skip rfl rfl ?_
      refine KT.skip rfl rfl ?_
      refine KT.step rfl rfl (K.pick rfl (fun _ => rfl) (fun h => by cases h)) ?_
      refine KT.nil ?_
      refine thenK_n ?_
      refine KC.cond rfl (fun hc32 => ?_) (fun hc32 => ?_)
      · skip
        refine KC.seq ?_
        refine KC.region ?_
        refine KT.step rfl rfl (K.assign rfl) ?_
        refine KT.nil ?_
        refine thenK_n ?_
        refine KC.ret ?_
        refine thenK_r ?_
        have hbad : rightB c I E = false := Bool.eq_false_iff.2 fun h => by
          obtain ⟨⟨h1, h2, h3⟩, h4, h5⟩ := rightB_iff.1 h
          omega
        exact ⟨.inl rfl, _, rfl, fin_b hbad⟩
      · cases hc32
    · skip
      replace hb15 := of_decide_eq_false hb15
      refine KT.step rfl rfl (K.fieldAddrO rfl Try.fld56_1 Try.size53) ?_
      refine KT.step rfl rfl (K.loadO rfl rfl (by simp) rfl Try.agg53) ?_
      refine KT.step rfl rfl (K.len rfl hI Try.underlying53) ?_
      refine KT.step rfl rfl (K.lss rfl rfl) ?_
      refine KT.step rfl rfl (K.pick rfl (fun h => by cases h) (fun _ => rfl)) ?_
      refine KT.step rfl rfl (K.move rfl) ?_
      refine KT.bcase (fun hb21 => ?_) (fun hb21 => ?_)
      · skip
        replace hb21 := of_decide_eq_true hb21
        refine KT.skip rfl rfl ?_
        refine KT.skip rfl rfl ?_
        refine KT.skip rfl rfl ?_
        refine KT.skip rfl rfl ?_
        refine KT.step rfl rfl (K.pick rfl (fun _ => rfl) (fun h => by cases h)) ?_
        refine KT.step rfl rfl (K.move rfl) ?_
        refine KT.skip rfl rfl ?_
        refine KT.skip rfl rfl ?_
        refine KT.skip rfl rfl ?_
        refine KT.skip rfl rfl ?_
        refine KT.step rfl rfl (K.pick rfl (fun _ => rfl) (fun h => by cases h)) ?_
        refine KT.nil ?_
        refine thenK_n ?_
        refine KC.cond rfl (fun hc32 => ?_) (fun hc32 => ?_)
        · skip
          refine KC.seq ?_
          refine KC.region ?_
          refine KT.step rfl rfl (K.assign rfl) ?_
          refine KT.nil ?_
          refine thenK_n ?_
          refine KC.ret ?_
          refine thenK_r ?_
          have hbad : rightB c I E = false := Bool.eq_false_iff.2 fun h => by
            obtain ⟨⟨h1, h2, h3⟩, h4, h5⟩ := rightB_iff.1 h
            omega
          exact ⟨.inl rfl, _, rfl, fin_b hbad⟩
        · cases hc32
      · skip
        replace hb21 := of_decide_eq_false hb21
        refine KT.step rfl rfl (K.fieldAddrO rfl Try.fld56_1 Try.size53) ?_
        refine KT.step rfl rfl (K.loadO rfl rfl (by simp) rfl Try.agg53) ?_
        refine KT.step rfl rfl (K.len rfl hI Try.underlying53) ?_
        refine KT.step rfl rfl (K.gtr rfl rfl) ?_
        refine KT.step rfl rfl (K.pick rfl (fun h => by cases h) (fun _ => rfl)) ?_
        refine KT.step rfl rfl (K.move rfl) ?_
        refine KT.bcase (fun hb27 => ?_) (fun hb27 => ?_)
        · skip
          replace hb27 := of_decide_eq_true hb27
          refine KT.skip rfl rfl ?_
          refine KT.skip rfl rfl ?_
          refine KT.skip rfl rfl ?_
          refine KT.skip rfl rfl ?_
          refine KT.step rfl rfl (K.pick rfl (fun _ => rfl) (fun h => by cases h)) ?_
          refine KT.nil ?_
          refine thenK_n ?_
          refine KC.cond rfl (fun hc32 => ?_) (fun hc32 => ?_)
          · skip
            refine KC.seq ?_
            refine KC.region ?_
            refine KT.step rfl rfl (K.assign rfl) ?_
            refine KT.nil ?_
            refine thenK_n ?_
            refine KC.ret ?_
            refine thenK_r ?_
            have hbad : rightB c I E = false := Bool.eq_false_iff.2 fun h => by
              obtain ⟨⟨h1, h2, h3⟩, h4, h5⟩ := rightB_iff.1 h
              omega
            exact ⟨.inl rfl, _, rfl, fin_b hbad⟩
          · cases hc32
        · skip
          replace hb27 := of_decide_eq_false hb27
          refine KT.step rfl rfl (K.fieldAddrO rfl Try.fld56_2 Try.size54) ?_
          refine KT.step rfl rfl (K.loadO rfl rfl (by simp) rfl Try.agg54) ?_
          refine KT.step rfl rfl (K.lenEd rfl hE Try.underlying54) ?_
          refine KT.step rfl rfl (K.gtr rfl rfl) ?_
          refine KT.step rfl rfl (K.pick rfl (fun h => by cases h) (fun _ => rfl)) ?_
          refine KT.nil ?_
          refine thenK_n ?_
          refine KC.cond rfl (fun hc32 => ?_) (fun hc32 => ?_)
          · skip
            replace hc32 := of_decide_eq_true hc32
            refine KC.seq ?_
            refine KC.region ?_
            refine KT.step rfl rfl (K.assign rfl) ?_
            refine KT.nil ?_
            refine thenK_n ?_
            refine KC.ret ?_
            refine thenK_r ?_
            have hbad : rightB c I E = false := Bool.eq_false_iff.2 fun h => by
              obtain ⟨⟨h1, h2, h3⟩, h4, h5⟩ := rightB_iff.1 h
              omega
            exact ⟨.inl rfl, _, rfl, fin_b hbad⟩
          · skip
            replace hc32 := of_decide_eq_false hc32
            obtain ⟨c, rfl⟩ := Int.eq_ofNat_of_zero_le (show 0 ≤ c by omega)
            refine KC.skip ?_
            refine thenK_n ?_
            refine KC.seq ?_
            refine KC.seq ?_
            refine KC.region ?_
            refine KT.step rfl rfl (K.fieldAddrO rfl Try.fld56_1 Try.size53) ?_
            refine KT.step rfl rfl (K.loadO rfl rfl (by simp) rfl Try.agg53) ?_
            refine KT.step rfl rfl (K.len rfl hI Try.underlying53) ?_
            refine KT.step rfl rfl (K.move rfl) ?_
            refine KT.nil ?_
            refine thenK_n ?_
            refine KC.block ?_
            refine KC.loop (fun _ : Nat => [⟨[.d (DI c), .d iD, .d eD], 0⟩]) (fun i => [(1, .optr 0 0), (34, .d iD), (35, .d (DI (I.length : Nat))), (36, .d (DI (i : Nat)))]) (fun i => i ≤ I.length ∧ ∀ q (h : q < I.length), q < i → okL c I[q] = true) (fun i => I.length - i) 0 ⟨Nat.zero_le _, fun q _ h => absurd h (Nat.not_lt_zero _)⟩ rfl (by simp [Go.Vm.look, extK, enterK]) ?_
            intro i hi
            obtain ⟨hi, hI2⟩ := hi
            refine KC.seq ?_
            refine KC.region ?_
            refine KT.step rfl rfl (K.lss rfl rfl) ?_
            refine KT.nil ?_
            refine thenK_n ?_
            refine KC.seq ?_
            refine KC.cond rfl (fun hc37 => ?_) (fun hc37 => ?_)
            · skip
              replace hc37 := of_decide_eq_true hc37
              have hil : i < I.length := by omega
              refine KC.skip ?_
              refine thenK_n ?_
              refine KC.seq ?_
              refine KC.block ?_
              refine KC.seq ?_
              refine KC.region ?_
              refine KT.idx rfl rfl rfl hI rfl hil Try.underlying53 Try.size117 fun c38 cs38 hq38 => ?_
              refine KT.step rfl rfl (K.load rfl Try.agg117) ?_
              refine KT.step rfl rfl (K.assign rfl) ?_
              refine KT.nil ?_
              refine thenK_n ?_
              refine KC.seq ?_
              refine KC.region ?_
              refine KT.step rfl rfl (K.loadOA [DI c, iD, eD] rfl rfl (by decide) Try.agg56 Try.size56 rfl) ?_
              refine KT.step rfl rfl (K.move rfl) ?_
              refine KT.step rfl rfl (K.call2 rfl rfl plainTry_82 (rGuards82 hq38 (hIr _ (List.getElem_mem hil)))) ?_
              refine KT.step rfl rfl (K.not rfl) ?_
              refine KT.nil ?_
              refine thenK_n ?_
              refine KC.cond rfl (fun hc43 => ?_) (fun hc43 => ?_)
              · skip
                refine KC.seq ?_
                refine KC.region ?_
                refine KT.step rfl rfl (K.assign rfl) ?_
                refine KT.nil ?_
                refine thenK_n ?_
                refine KC.ret ?_
                refine blockK_r ?_
                refine thenK_r ?_
                refine thenK_r ?_
                refine blockK_r ?_
                refine thenK_r ?_
                have hbad : rightB c I E = false := Bool.eq_false_iff.2 fun h => by
                  obtain ⟨⟨h1, h2, h3⟩, h4, h5⟩ := rightB_iff.1 h
                  rw [h4 i hil] at hc43; cases hc43
                exact ⟨.inl rfl, _, rfl, fin_b hbad⟩
              · skip
                refine KC.skip ?_
                refine blockK_n ?_
                refine thenK_n ?_
                refine KC.region ?_
                refine KT.step rfl rfl (K.add rfl rfl (wrap_id (by omega))) ?_
                refine KT.step rfl rfl (K.move rfl) ?_
                refine KT.nil ?_
                refine thenK_n ?_
                refine ⟨i + 1, ⟨by omega, fun q h hq => ?_⟩, by omega, rfl, by simp [Go.Vm.look, extK]⟩
                by_cases e : q = i
                · subst e; simpa using hc43
                · exact hI2 q h (by omega)
            · skip
              replace hc37 := of_decide_eq_false hc37
              refine KC.exit ?_
              refine thenK_x ?_
              refine thenK_x ?_
              refine blockK_e ?_
              refine thenK_n ?_
              refine KC.seq ?_
              refine KC.seq ?_
              refine KC.region ?_
              refine KT.step rfl rfl (K.fieldAddrO rfl Try.fld56_2 Try.size54) ?_
              refine KT.step rfl rfl (K.loadO rfl rfl (by simp) rfl Try.agg54) ?_
              refine KT.step rfl rfl (K.lenEd rfl hE Try.underlying54) ?_
              refine KT.step rfl rfl (K.move rfl) ?_
              refine KT.nil ?_
              refine thenK_n ?_
              refine KC.block ?_
              refine KC.loop (fun p : List VObj × Nat => p.1) (fun p => [(1, .optr 0 0), (46, .d eD), (47, .d (DI (E.length : Nat))), (48, .d (DI (p.2 : Nat)))]) (fun p => p.1[0]? = some ⟨[.d (DI c), .d iD, .d eD], 0⟩ ∧ p.2 ≤ E.length ∧ ∀ q (h : q < E.length), q < p.2 → okEd c I.length E[q] = true) (fun p => E.length - p.2) (_, 0) ⟨rfl, Nat.zero_le _, fun q _ h => absurd h (Nat.not_lt_zero _)⟩ rfl (by simp [Go.Vm.look, extK, enterK]) ?_
              intro p hp
              obtain ⟨y0, hp2, hE2⟩ := hp
              refine KC.seq ?_
              refine KC.region ?_
              refine KT.step rfl rfl (K.lss rfl rfl) ?_
              refine KT.nil ?_
              refine thenK_n ?_
              refine KC.seq ?_
              refine KC.cond rfl (fun hc49 => ?_) (fun hc49 => ?_)
              · skip
                replace hc49 := of_decide_eq_true hc49
                have hil : p.2 < E.length := by omega
                refine KC.skip ?_
                refine thenK_n ?_
                refine KC.seq ?_
                refine KC.block ?_
                refine KC.seq ?_
                refine KC.region ?_
                refine KT.idxEd rfl rfl rfl hE rfl hil Try.underlying54 Try.size120 fun gd rest hgd => ?_
                refine KT.step rfl rfl (K.loadAgg (m := 4) rfl Try.agg120 Try.size120 (by simp)) ?_
                refine KT.step rfl rfl (K.alloc Try.zero120) ?_
                refine KT.storeL (cs := [.d (DI E[p.2].1), .d (DI E[p.2].2.1), .d gd, .d (DI E[p.2].2.2.2)]) rfl rfl rfl rfl rfl rfl (ed_one hgd) Try.size120 ?_
                refine KT.nil ?_
                refine thenK_n ?_
                refine KC.seq ?_
                refine KC.draw Try.mixed ?_
                refine KT.step rfl rfl (K.fieldAddrO rfl Try.fld120_0 Try.size3) ?_
                refine KT.step rfl rfl (K.loadO rfl (List.getElem?_concat_length ..) (by simp) rfl Try.agg3) ?_
                refine KT.step rfl rfl (K.lss rfl rfl) ?_
                refine KT.step rfl rfl (K.move rfl) ?_
                refine KT.bcase (fun hb55 => ?_) (fun hb55 => ?_)
                · skip
                  replace hb55 := of_decide_eq_true hb55
                  refine KT.skip rfl rfl ?_
                  refine KT.skip rfl rfl ?_
                  refine KT.skip rfl rfl ?_
                  refine KT.skip rfl rfl ?_
                  refine KT.skip rfl rfl ?_
                  refine KT.skip rfl rfl ?_
                  refine KT.step rfl rfl (K.pick rfl (fun _ => rfl) (fun h => by cases h)) ?_
                  refine KT.step rfl rfl (K.move rfl) ?_
                  refine KT.skip rfl rfl ?_
                  refine KT.skip rfl rfl ?_
                  refine KT.skip rfl rfl ?_
                  refine KT.step rfl rfl (K.pick rfl (fun _ => rfl) (fun h => by cases h)) ?_
                  refine KT.step rfl rfl (K.move rfl) ?_
                  refine KT.skip rfl rfl ?_
                  refine KT.skip rfl rfl ?_
                  refine KT.skip rfl rfl ?_
                  refine KT.skip rfl rfl ?_
                  refine KT.skip rfl rfl ?_
                  refine KT.skip rfl rfl ?_
                  refine KT.step rfl rfl (K.pick rfl (fun _ => rfl) (fun h => by cases h)) ?_
                  refine KT.step rfl rfl (K.move rfl) ?_
                  refine KT.skip rfl rfl ?_
                  refine KT.skip rfl rfl ?_
                  refine KT.skip rfl rfl ?_
                  refine KT.step rfl rfl (K.pick rfl (fun _ => rfl) (fun h => by cases h)) ?_
                  refine KT.step rfl rfl (K.move rfl) ?_
                  refine KT.skip rfl rfl ?_
                  refine KT.skip rfl rfl ?_
                  refine KT.skip rfl rfl ?_
                  refine KT.skip rfl rfl ?_
                  refine KT.skip rfl rfl ?_
                  refine KT.skip rfl rfl ?_
                  refine KT.step rfl rfl (K.pick rfl (fun _ => rfl) (fun h => by cases h)) ?_
                  refine KT.step rfl rfl (K.move rfl) ?_
                  refine KT.skip rfl rfl ?_
                  refine KT.skip rfl rfl ?_
                  refine KT.skip rfl rfl ?_
                  refine KT.skip rfl rfl ?_
                  refine KT.step rfl rfl (K.pick rfl (fun _ => rfl) (fun h => by cases h)) ?_
                  refine KT.step rfl rfl (K.move rfl) ?_
                  refine KT.skip rfl rfl ?_
                  refine KT.skip rfl rfl ?_
                  refine KT.skip rfl rfl ?_
                  refine KT.skip rfl rfl ?_
                  refine KT.skip rfl rfl ?_
                  refine KT.step rfl rfl (K.pick rfl (fun _ => rfl) (fun h => by cases h)) ?_
                  refine KT.nil ?_
                  refine ⟨by kernel_rfl, ?_⟩
                  refine thenK_n ?_
                  refine KC.cond rfl (fun hc101 => ?_) (fun hc101 => ?_)
                  · skip
                    refine KC.seq ?_
                    refine KC.region ?_
                    refine KT.step rfl rfl (K.assign rfl) ?_
                    refine KT.nil ?_
                    refine thenK_n ?_
                    refine KC.ret ?_
                    refine blockK_r ?_
                    refine thenK_r ?_
                    refine thenK_r ?_
                    refine blockK_r ?_
                    refine thenK_r ?_
                    have hbad : rightB c I E = false := Bool.eq_false_iff.2 fun h => by
                      obtain ⟨⟨h1, h2, h3⟩, h4, h5⟩ := rightB_iff.1 h
                      obtain ⟨k1, k2, k3, k4⟩ := okEd_iff.1 (h5 p.2 hil)
                      rw [Int.toNat_natCast] at k3 k4
                      have k5 := setB_iff.1 k4
                      omega
                    exact ⟨.inl rfl, _, rfl, fin_b hbad⟩
                  · cases hc101
                · skip
                  replace hb55 := of_decide_eq_false hb55
                  refine KT.step rfl rfl (K.fieldAddrO rfl Try.fld120_0 Try.size3) ?_
                  refine KT.step rfl rfl (K.loadO rfl (List.getElem?_concat_length ..) (by simp) rfl Try.agg3) ?_
                  refine KT.step rfl rfl (K.fieldAddrO rfl Try.fld56_1 Try.size53) ?_
                  refine KT.step rfl rfl (K.loadO rfl (get_left y0) (by simp) rfl Try.agg53) ?_
                  refine KT.step rfl rfl (K.len rfl hI Try.underlying53) ?_
                  refine KT.step rfl rfl (K.geq rfl rfl) ?_
                  refine KT.step rfl rfl (K.pick rfl (fun h => by cases h) (fun _ => rfl)) ?_
                  refine KT.step rfl rfl (K.move rfl) ?_
                  refine KT.bcase (fun hb63 => ?_) (fun hb63 => ?_)
                  · skip
                    replace hb63 := of_decide_eq_true hb63
                    refine KT.skip rfl rfl ?_
                    refine KT.skip rfl rfl ?_
                    refine KT.skip rfl rfl ?_
                    refine KT.step rfl rfl (K.pick rfl (fun _ => rfl) (fun h => by cases h)) ?_
                    refine KT.step rfl rfl (K.move rfl) ?_
                    refine KT.skip rfl rfl ?_
                    refine KT.skip rfl rfl ?_
                    refine KT.skip rfl rfl ?_
                    refine KT.skip rfl rfl ?_
                    refine KT.skip rfl rfl ?_
                    refine KT.skip rfl rfl ?_
                    refine KT.step rfl rfl (K.pick rfl (fun _ => rfl) (fun h => by cases h)) ?_
                    refine KT.step rfl rfl (K.move rfl) ?_
                    refine KT.skip rfl rfl ?_
                    refine KT.skip rfl rfl ?_
                    refine KT.skip rfl rfl ?_
                    refine KT.step rfl rfl (K.pick rfl (fun _ => rfl) (fun h => by cases h)) ?_
                    refine KT.step rfl rfl (K.move rfl) ?_
                    refine KT.skip rfl rfl ?_
                    refine KT.skip rfl rfl ?_
                    refine KT.skip rfl rfl ?_
                    refine KT.skip rfl rfl ?_
                    refine KT.skip rfl rfl ?_
                    refine KT.skip rfl rfl ?_
                    refine KT.step rfl rfl (K.pick rfl (fun _ => rfl) (fun h => by cases h)) ?_
                    refine KT.step rfl rfl (K.move rfl) ?_
                    refine KT.skip rfl rfl ?_
                    refine KT.skip rfl rfl ?_
                    refine KT.skip rfl rfl ?_
                    refine KT.skip rfl rfl ?_
                    refine KT.step rfl rfl (K.pick rfl (fun _ => rfl) (fun h => by cases h)) ?_
                    refine KT.step rfl rfl (K.move rfl) ?_
                    refine KT.skip rfl rfl ?_
                    refine KT.skip rfl rfl ?_
                    refine KT.skip rfl rfl ?_
                    refine KT.skip rfl rfl ?_
                    refine KT.skip rfl rfl ?_
                    refine KT.step rfl rfl (K.pick rfl (fun _ => rfl) (fun h => by cases h)) ?_
                    refine KT.nil ?_
                    refine ⟨by kernel_rfl, ?_⟩
                    refine thenK_n ?_
                    refine KC.cond rfl (fun hc101 => ?_) (fun hc101 => ?_)
                    · skip
                      refine KC.seq ?_
                      refine KC.region ?_
                      refine KT.step rfl rfl (K.assign rfl) ?_
                      refine KT.nil ?_
                      refine thenK_n ?_
                      refine KC.ret ?_
                      refine blockK_r ?_
                      refine thenK_r ?_
                      refine thenK_r ?_
                      refine blockK_r ?_
                      refine thenK_r ?_
                      have hbad : rightB c I E = false := Bool.eq_false_iff.2 fun h => by
                        obtain ⟨⟨h1, h2, h3⟩, h4, h5⟩ := rightB_iff.1 h
                        obtain ⟨k1, k2, k3, k4⟩ := okEd_iff.1 (h5 p.2 hil)
                        rw [Int.toNat_natCast] at k3 k4
                        have k5 := setB_iff.1 k4
                        omega
                      exact ⟨.inl rfl, _, rfl, fin_b hbad⟩
                    · cases hc101
                  · skip
                    replace hb63 := of_decide_eq_false hb63
                    refine KT.step rfl rfl (K.fieldAddrO rfl Try.fld120_1 Try.size3) ?_
                    refine KT.step rfl rfl (K.loadO rfl (List.getElem?_concat_length ..) (by simp) rfl Try.agg3) ?_
                    refine KT.step rfl rfl (K.lss rfl rfl) ?_
                    refine KT.step rfl rfl (K.pick rfl (fun h => by cases h) (fun _ => rfl)) ?_
                    refine KT.step rfl rfl (K.move rfl) ?_
                    refine KT.bcase (fun hb68 => ?_) (fun hb68 => ?_)
                    · skip
                      replace hb68 := of_decide_eq_true hb68
                      refine KT.skip rfl rfl ?_
                      refine KT.skip rfl rfl ?_
                      refine KT.skip rfl rfl ?_
                      refine KT.skip rfl rfl ?_
                      refine KT.skip rfl rfl ?_
                      refine KT.skip rfl rfl ?_
                      refine KT.step rfl rfl (K.pick rfl (fun _ => rfl) (fun h => by cases h)) ?_
                      refine KT.step rfl rfl (K.move rfl) ?_
                      refine KT.skip rfl rfl ?_
                      refine KT.skip rfl rfl ?_
                      refine KT.skip rfl rfl ?_
                      refine KT.step rfl rfl (K.pick rfl (fun _ => rfl) (fun h => by cases h)) ?_
                      refine KT.step rfl rfl (K.move rfl) ?_
                      refine KT.skip rfl rfl ?_
                      refine KT.skip rfl rfl ?_
                      refine KT.skip rfl rfl ?_
                      refine KT.skip rfl rfl ?_
                      refine KT.skip rfl rfl ?_
                      refine KT.skip rfl rfl ?_
                      refine KT.step rfl rfl (K.pick rfl (fun _ => rfl) (fun h => by cases h)) ?_
                      refine KT.step rfl rfl (K.move rfl) ?_
                      refine KT.skip rfl rfl ?_
                      refine KT.skip rfl rfl ?_
                      refine KT.skip rfl rfl ?_
                      refine KT.skip rfl rfl ?_
                      refine KT.step rfl rfl (K.pick rfl (fun _ => rfl) (fun h => by cases h)) ?_
                      refine KT.step rfl rfl (K.move rfl) ?_
                      refine KT.skip rfl rfl ?_
                      refine KT.skip rfl rfl ?_
                      refine KT.skip rfl rfl ?_
                      refine KT.skip rfl rfl ?_
                      refine KT.skip rfl rfl ?_
                      refine KT.step rfl rfl (K.pick rfl (fun _ => rfl) (fun h => by cases h)) ?_
                      refine KT.nil ?_
                      refine ⟨by kernel_rfl, ?_⟩
                      refine thenK_n ?_
                      refine KC.cond rfl (fun hc101 => ?_) (fun hc101 => ?_)
                      · skip
                        refine KC.seq ?_
                        refine KC.region ?_
                        refine KT.step rfl rfl (K.assign rfl) ?_
                        refine KT.nil ?_
                        refine thenK_n ?_
                        refine KC.ret ?_
                        refine blockK_r ?_
                        refine thenK_r ?_
                        refine thenK_r ?_
                        refine blockK_r ?_
                        refine thenK_r ?_
                        have hbad : rightB c I E = false := Bool.eq_false_iff.2 fun h => by
                          obtain ⟨⟨h1, h2, h3⟩, h4, h5⟩ := rightB_iff.1 h
                          obtain ⟨k1, k2, k3, k4⟩ := okEd_iff.1 (h5 p.2 hil)
                          rw [Int.toNat_natCast] at k3 k4
                          have k5 := setB_iff.1 k4
                          omega
                        exact ⟨.inl rfl, _, rfl, fin_b hbad⟩
                      · cases hc101
                    · skip
                      replace hb68 := of_decide_eq_false hb68
                      refine KT.step rfl rfl (K.fieldAddrO rfl Try.fld120_1 Try.size3) ?_
                      refine KT.step rfl rfl (K.loadO rfl (List.getElem?_concat_length ..) (by simp) rfl Try.agg3) ?_
                      refine KT.step rfl rfl (K.fieldAddrO rfl Try.fld56_1 Try.size53) ?_
                      refine KT.step rfl rfl (K.loadO rfl (get_left y0) (by simp) rfl Try.agg53) ?_
                      refine KT.step rfl rfl (K.len rfl hI Try.underlying53) ?_
                      refine KT.step rfl rfl (K.geq rfl rfl) ?_
                      refine KT.step rfl rfl (K.pick rfl (fun h => by cases h) (fun _ => rfl)) ?_
                      refine KT.step rfl rfl (K.move rfl) ?_
                      refine KT.bcase (fun hb76 => ?_) (fun hb76 => ?_)
                      · skip
                        replace hb76 := of_decide_eq_true hb76
                        refine KT.skip rfl rfl ?_
                        refine KT.skip rfl rfl ?_
                        refine KT.skip rfl rfl ?_
                        refine KT.step rfl rfl (K.pick rfl (fun _ => rfl) (fun h => by cases h)) ?_
                        refine KT.step rfl rfl (K.move rfl) ?_
                        refine KT.skip rfl rfl ?_
                        refine KT.skip rfl rfl ?_
                        refine KT.skip rfl rfl ?_
                        refine KT.skip rfl rfl ?_
                        refine KT.skip rfl rfl ?_
                        refine KT.skip rfl rfl ?_
                        refine KT.step rfl rfl (K.pick rfl (fun _ => rfl) (fun h => by cases h)) ?_
                        refine KT.step rfl rfl (K.move rfl) ?_
                        refine KT.skip rfl rfl ?_
                        refine KT.skip rfl rfl ?_
                        refine KT.skip rfl rfl ?_
                        refine KT.skip rfl rfl ?_
                        refine KT.step rfl rfl (K.pick rfl (fun _ => rfl) (fun h => by cases h)) ?_
                        refine KT.step rfl rfl (K.move rfl) ?_
                        refine KT.skip rfl rfl ?_
                        refine KT.skip rfl rfl ?_
                        refine KT.skip rfl rfl ?_
                        refine KT.skip rfl rfl ?_
                        refine KT.skip rfl rfl ?_
                        refine KT.step rfl rfl (K.pick rfl (fun _ => rfl) (fun h => by cases h)) ?_
                        refine KT.nil ?_
                        refine ⟨by kernel_rfl, ?_⟩
                        refine thenK_n ?_
                        refine KC.cond rfl (fun hc101 => ?_) (fun hc101 => ?_)
                        · skip
                          refine KC.seq ?_
                          refine KC.region ?_
                          refine KT.step rfl rfl (K.assign rfl) ?_
                          refine KT.nil ?_
                          refine thenK_n ?_
                          refine KC.ret ?_
                          refine blockK_r ?_
                          refine thenK_r ?_
                          refine thenK_r ?_
                          refine blockK_r ?_
                          refine thenK_r ?_
                          have hbad : rightB c I E = false := Bool.eq_false_iff.2 fun h => by
                            obtain ⟨⟨h1, h2, h3⟩, h4, h5⟩ := rightB_iff.1 h
                            obtain ⟨k1, k2, k3, k4⟩ := okEd_iff.1 (h5 p.2 hil)
                            rw [Int.toNat_natCast] at k3 k4
                            have k5 := setB_iff.1 k4
                            omega
                          exact ⟨.inl rfl, _, rfl, fin_b hbad⟩
                        · cases hc101
                      · skip
                        replace hb76 := of_decide_eq_false hb76
                        refine KT.step rfl rfl (K.fieldAddrO rfl Try.fld120_3 Try.size3) ?_
                        refine KT.step rfl rfl (K.loadO rfl (List.getElem?_concat_length ..) (by simp) rfl Try.agg3) ?_
                        refine KT.step rfl rfl (K.lss rfl rfl) ?_
                        refine KT.step rfl rfl (K.pick rfl (fun h => by cases h) (fun _ => rfl)) ?_
                        refine KT.step rfl rfl (K.move rfl) ?_
                        refine KT.bcase (fun hb81 => ?_) (fun hb81 => ?_)
                        · skip
                          replace hb81 := of_decide_eq_true hb81
                          refine KT.skip rfl rfl ?_
                          refine KT.skip rfl rfl ?_
                          refine KT.skip rfl rfl ?_
                          refine KT.skip rfl rfl ?_
                          refine KT.skip rfl rfl ?_
                          refine KT.skip rfl rfl ?_
                          refine KT.step rfl rfl (K.pick rfl (fun _ => rfl) (fun h => by cases h)) ?_
                          refine KT.step rfl rfl (K.move rfl) ?_
                          refine KT.skip rfl rfl ?_
                          refine KT.skip rfl rfl ?_
                          refine KT.skip rfl rfl ?_
                          refine KT.skip rfl rfl ?_
                          refine KT.step rfl rfl (K.pick rfl (fun _ => rfl) (fun h => by cases h)) ?_
                          refine KT.step rfl rfl (K.move rfl) ?_
                          refine KT.skip rfl rfl ?_
                          refine KT.skip rfl rfl ?_
                          refine KT.skip rfl rfl ?_
                          refine KT.skip rfl rfl ?_
                          refine KT.skip rfl rfl ?_
                          refine KT.step rfl rfl (K.pick rfl (fun _ => rfl) (fun h => by cases h)) ?_
                          refine KT.nil ?_
                          refine ⟨by kernel_rfl, ?_⟩
                          refine thenK_n ?_
                          refine KC.cond rfl (fun hc101 => ?_) (fun hc101 => ?_)
                          · skip
                            refine KC.seq ?_
                            refine KC.region ?_
                            refine KT.step rfl rfl (K.assign rfl) ?_
                            refine KT.nil ?_
                            refine thenK_n ?_
                            refine KC.ret ?_
                            refine blockK_r ?_
                            refine thenK_r ?_
                            refine thenK_r ?_
                            refine blockK_r ?_
                            refine thenK_r ?_
                            have hbad : rightB c I E = false := Bool.eq_false_iff.2 fun h => by
                              obtain ⟨⟨h1, h2, h3⟩, h4, h5⟩ := rightB_iff.1 h
                              obtain ⟨k1, k2, k3, k4⟩ := okEd_iff.1 (h5 p.2 hil)
                              rw [Int.toNat_natCast] at k3 k4
                              have k5 := setB_iff.1 k4
                              generalize 2 ^ (c + 1) = w at *
                              omega
                            exact ⟨.inl rfl, _, rfl, fin_b hbad⟩
                          · cases hc101
                        · skip
                          replace hb81 := of_decide_eq_false hb81
                          refine KT.step rfl rfl (K.fieldAddrO rfl Try.fld120_3 Try.size3) ?_
                          refine KT.step rfl rfl (K.loadO rfl (List.getElem?_concat_length ..) (by simp) rfl Try.agg3) ?_
                          refine KT.step rfl rfl (K.fieldAddrO rfl Try.fld56_0 Try.size3) ?_
                          refine KT.step rfl rfl (K.loadO rfl (get_left y0) (by simp) rfl Try.agg3) ?_
                          refine KT.step rfl rfl (K.shl rfl rfl (by omega) (shl2 c (by omega))) ?_
                          refine KT.step rfl rfl (K.geq rfl rfl) ?_
                          refine KT.step rfl rfl (K.pick rfl (fun h => by cases h) (fun _ => rfl)) ?_
                          refine KT.step rfl rfl (K.move rfl) ?_
                          refine KT.bcase (fun hb89 => ?_) (fun hb89 => ?_)
                          · skip
                            replace hb89 := of_decide_eq_true hb89
                            refine KT.skip rfl rfl ?_
                            refine KT.skip rfl rfl ?_
                            refine KT.skip rfl rfl ?_
                            refine KT.skip rfl rfl ?_
                            refine KT.step rfl rfl (K.pick rfl (fun _ => rfl) (fun h => by cases h)) ?_
                            refine KT.step rfl rfl (K.move rfl) ?_
                            refine KT.skip rfl rfl ?_
                            refine KT.skip rfl rfl ?_
                            refine KT.skip rfl rfl ?_
                            refine KT.skip rfl rfl ?_
                            refine KT.skip rfl rfl ?_
                            refine KT.step rfl rfl (K.pick rfl (fun _ => rfl) (fun h => by cases h)) ?_
                            refine KT.nil ?_
                            refine ⟨by kernel_rfl, ?_⟩
                            refine thenK_n ?_
                            refine KC.cond rfl (fun hc101 => ?_) (fun hc101 => ?_)
                            · skip
                              refine KC.seq ?_
                              refine KC.region ?_
                              refine KT.step rfl rfl (K.assign rfl) ?_
                              refine KT.nil ?_
                              refine thenK_n ?_
                              refine KC.ret ?_
                              refine blockK_r ?_
                              refine thenK_r ?_
                              refine thenK_r ?_
                              refine blockK_r ?_
                              refine thenK_r ?_
                              have hbad : rightB c I E = false := Bool.eq_false_iff.2 fun h => by
                                obtain ⟨⟨h1, h2, h3⟩, h4, h5⟩ := rightB_iff.1 h
                                obtain ⟨k1, k2, k3, k4⟩ := okEd_iff.1 (h5 p.2 hil)
                                rw [Int.toNat_natCast] at k3 k4
                                have k5 := setB_iff.1 k4
                                generalize 2 ^ (c + 1) = w at *
                                omega
                              exact ⟨.inl rfl, _, rfl, fin_b hbad⟩
                            · cases hc101
                          · skip
                            replace hb89 := of_decide_eq_false hb89
                            refine KT.step rfl rfl (K.fieldAddrO rfl Try.fld120_3 Try.size3) ?_
                            refine KT.step rfl rfl (K.loadO rfl (List.getElem?_concat_length ..) (by simp) rfl Try.agg3) ?_
                            refine KT.step rfl rfl (K.band rfl rfl (andOne _)) ?_
                            refine KT.step rfl rfl (K.eql rfl rfl) ?_
                            refine KT.step rfl rfl (K.pick rfl (fun h => by cases h) (fun _ => rfl)) ?_
                            refine KT.step rfl rfl (K.move rfl) ?_
                            refine KT.bcase (fun hb95 => ?_) (fun hb95 => ?_)
                            · skip
                              replace hb95 := of_decide_eq_true hb95
                              refine KT.skip rfl rfl ?_
                              refine KT.skip rfl rfl ?_
                              refine KT.skip rfl rfl ?_
                              refine KT.skip rfl rfl ?_
                              refine KT.skip rfl rfl ?_
                              refine KT.step rfl rfl (K.pick rfl (fun _ => rfl) (fun h => by cases h)) ?_
                              refine KT.nil ?_
                              refine ⟨by kernel_rfl, ?_⟩
                              refine thenK_n ?_
                              refine KC.cond rfl (fun hc101 => ?_) (fun hc101 => ?_)
                              · skip
                                refine KC.seq ?_
                                refine KC.region ?_
                                refine KT.step rfl rfl (K.assign rfl) ?_
                                refine KT.nil ?_
                                refine thenK_n ?_
                                refine KC.ret ?_
                                refine blockK_r ?_
                                refine thenK_r ?_
                                refine thenK_r ?_
                                refine blockK_r ?_
                                refine thenK_r ?_
                                have hbad : rightB c I E = false := Bool.eq_false_iff.2 fun h => by
                                  obtain ⟨⟨h1, h2, h3⟩, h4, h5⟩ := rightB_iff.1 h
                                  obtain ⟨k1, k2, k3, k4⟩ := okEd_iff.1 (h5 p.2 hil)
                                  rw [Int.toNat_natCast] at k3 k4
                                  have k5 := setB_iff.1 k4
                                  generalize 2 ^ (c + 1) = w at *
                                  omega
                                exact ⟨.inl rfl, _, rfl, fin_b hbad⟩
                              · cases hc101
                            · skip
                              replace hb95 := of_decide_eq_false hb95
                              refine KT.step rfl rfl (K.loadOA [DI c, iD, eD] rfl (get_left y0) (by decide) Try.agg56 Try.size56 rfl) ?_
                              refine KT.step rfl rfl (K.fieldAddrO rfl Try.fld120_2 Try.size117) ?_
                              refine KT.step rfl rfl (K.loadO rfl (List.getElem?_concat_length ..) (by simp) rfl Try.agg117) ?_
                              refine KT.step rfl rfl (K.call2 rfl rfl plainTry_82 (rGuards82 hgd (hEr _ (List.getElem_mem hil)))) ?_
                              refine KT.step rfl rfl (K.not rfl) ?_
                              refine KT.step rfl rfl (K.pick rfl (fun h => by cases h) (fun _ => rfl)) ?_
                              refine KT.nil ?_
                              refine ⟨by kernel_rfl, ?_⟩
                              refine thenK_n ?_
                              refine KC.cond rfl (fun hc101 => ?_) (fun hc101 => ?_)
                              · skip
                                refine KC.seq ?_
                                refine KC.region ?_
                                refine KT.step rfl rfl (K.assign rfl) ?_
                                refine KT.nil ?_
                                refine thenK_n ?_
                                refine KC.ret ?_
                                refine blockK_r ?_
                                refine thenK_r ?_
                                refine thenK_r ?_
                                refine blockK_r ?_
                                refine thenK_r ?_
                                have hbad : rightB c I E = false := Bool.eq_false_iff.2 fun h => by
                                  obtain ⟨⟨h1, h2, h3⟩, h4, h5⟩ := rightB_iff.1 h
                                  obtain ⟨k1, k2, k3, k4⟩ := okEd_iff.1 (h5 p.2 hil)
                                  rw [Int.toNat_natCast] at k3 k4
                                  have k5 := setB_iff.1 k4
                                  rw [k3] at hc101; cases hc101
                                exact ⟨.inl rfl, _, rfl, fin_b hbad⟩
                              · skip
                                refine KC.skip ?_
                                refine blockK_n ?_
                                refine thenK_n ?_
                                refine KC.region ?_
                                refine KT.step rfl rfl (K.add rfl rfl (wrap_id (by omega))) ?_
                                refine KT.step rfl rfl (K.move rfl) ?_
                                refine KT.nil ?_
                                refine thenK_n ?_
                                refine ⟨(_, p.2 + 1), ⟨get_left y0, by simp only; omega, fun q h hq => ?_⟩, by simp only; omega, rfl, by simp [Go.Vm.look, extK]⟩
                                by_cases e : q = p.2
                                · subst e
                                  have hsb : setB (c + 1) E[p.2].2.2.2 = true := setB_iff.2 (by generalize 2 ^ (c + 1) = w at *; omega)
                                  exact okEd_iff.2 ⟨by omega, by omega, by simpa using hc101, hsb⟩
                                · exact hE2 q h (by simp only at hq; omega)
              · skip
                replace hc49 := of_decide_eq_false hc49
                refine KC.exit ?_
                refine thenK_x ?_
                refine thenK_x ?_
                refine blockK_e ?_
                refine thenK_n ?_
                refine KC.seq ?_
                refine KC.region ?_
                refine KT.step rfl rfl (K.assign rfl) ?_
                refine KT.nil ?_
                refine thenK_n ?_
                refine KC.ret ?_
                have hyes : rightB c I E = true := rightB_iff.2 ⟨by omega, fun q h => hI2 q h (by omega), fun q h => hE2 q h (by omega)⟩
                exact ⟨.inl rfl, _, rfl, fin_b hyes⟩
end Go.Proofs.Ytjfpeiioddfjcaa

