import Derived.Test.YtcjcchceeidgkaaLgD
/-
  Logic: Sat.
-/
namespace Go.Proofs.Ytcjcchceeidgkaa
open Go.Vm Go.Lg
theorem plainTry_27 : plainFn Try.prog 27 = true := by kernel_rfl
theorem plainTry_78 : plainFn Try.prog 78 = true := by kernel_rfl
theorem plainTry_50 : plainFn Try.prog 50 = true := by kernel_rfl
theorem plainTry_28 : plainFn Try.prog 28 = true := by kernel_rfl
theorem plainTry_9 : plainFn Try.prog 9 = true := by kernel_rfl
def spK : Nat → DV
  | 0 => .sl [.lit (.string ⟨#[116, 114, 117, 101]⟩)] 1 (some 1)
  | 1 => .sl [.lit (.string ⟨#[33]⟩), .lit (.string ⟨#[]⟩)] 2 (some 2)
  | 2 => .sl [.lit (.string ⟨#[40]⟩), .lit (.string ⟨#[32, 38, 32]⟩), .lit (.string ⟨#[41]⟩)] 3 (some 3)
  | 3 => .sl [.lit (.string ⟨#[40]⟩), .lit (.string ⟨#[32, 124, 32]⟩), .lit (.string ⟨#[41]⟩)] 3 (some 3)
  | 4 => .sl [.lit (.string ⟨#[69, 88, 32]⟩), .lit (.string ⟨#[]⟩)] 2 (some 2)
  | 5 => .sl [.lit (.string ⟨#[69, 70, 32]⟩), .lit (.string ⟨#[]⟩)] 2 (some 2)
  | 6 => .sl [.lit (.string ⟨#[69, 71, 32]⟩), .lit (.string ⟨#[]⟩)] 2 (some 2)
  | 7 => .sl [.lit (.string ⟨#[69, 91]⟩), .lit (.string ⟨#[32, 85, 32]⟩), .lit (.string ⟨#[93]⟩)] 3 (some 3)
  | 8 => .sl [.lit (.string ⟨#[65, 88, 32]⟩), .lit (.string ⟨#[]⟩)] 2 (some 2)
  | 9 => .sl [.lit (.string ⟨#[65, 70, 32]⟩), .lit (.string ⟨#[]⟩)] 2 (some 2)
  | 10 => .sl [.lit (.string ⟨#[65, 71, 32]⟩), .lit (.string ⟨#[]⟩)] 2 (some 2)
  | 11 => .sl [.lit (.string ⟨#[65, 91]⟩), .lit (.string ⟨#[32, 85, 32]⟩), .lit (.string ⟨#[93]⟩)] 3 (some 3)
  | 12 => .sl [.lit (.string ⟨#[97]⟩)] 1 (some 1)
  | 13 => .sl [.lit (.string ⟨#[98]⟩)] 1 (some 1)
  | 14 => .sl [.lit (.string ⟨#[99]⟩)] 1 (some 1)
  | 15 => .sl [.lit (.string ⟨#[100]⟩)] 1 (some 1)
  | 16 => .sl [.lit (.string ⟨#[101]⟩)] 1 (some 1)
  | 17 => .sl [.lit (.string ⟨#[102]⟩)] 1 (some 1)
  | _ => Dnil
def spD (op : ByteArray) : DV := spK (opc op)
theorem spell78_0 : DeepCall Try.prog 78 [.lit (.string ⟨#[116, 114, 117, 101]⟩)] (spK 0) := runFn_sound (inl := fun f => f == 9999) (len := 400) (k := 8) (f := 78) Try.mixed (by kernel_rfl)
theorem spell78_1 : DeepCall Try.prog 78 [.lit (.string ⟨#[33]⟩)] (spK 1) := runFn_sound (inl := fun f => f == 9999) (len := 400) (k := 8) (f := 78) Try.mixed (by kernel_rfl)
theorem spell78_2 : DeepCall Try.prog 78 [.lit (.string ⟨#[38]⟩)] (spK 2) := runFn_sound (inl := fun f => f == 9999) (len := 400) (k := 8) (f := 78) Try.mixed (by kernel_rfl)
theorem spell78_3 : DeepCall Try.prog 78 [.lit (.string ⟨#[124]⟩)] (spK 3) := runFn_sound (inl := fun f => f == 9999) (len := 400) (k := 8) (f := 78) Try.mixed (by kernel_rfl)
theorem spell78_4 : DeepCall Try.prog 78 [.lit (.string ⟨#[69, 88]⟩)] (spK 4) := runFn_sound (inl := fun f => f == 9999) (len := 400) (k := 8) (f := 78) Try.mixed (by kernel_rfl)
theorem spell78_5 : DeepCall Try.prog 78 [.lit (.string ⟨#[69, 70]⟩)] (spK 5) := runFn_sound (inl := fun f => f == 9999) (len := 400) (k := 8) (f := 78) Try.mixed (by kernel_rfl)
theorem spell78_6 : DeepCall Try.prog 78 [.lit (.string ⟨#[69, 71]⟩)] (spK 6) := runFn_sound (inl := fun f => f == 9999) (len := 400) (k := 8) (f := 78) Try.mixed (by kernel_rfl)
theorem spell78_7 : DeepCall Try.prog 78 [.lit (.string ⟨#[69, 85]⟩)] (spK 7) := runFn_sound (inl := fun f => f == 9999) (len := 400) (k := 8) (f := 78) Try.mixed (by kernel_rfl)
theorem spell78_8 : DeepCall Try.prog 78 [.lit (.string ⟨#[65, 88]⟩)] (spK 8) := runFn_sound (inl := fun f => f == 9999) (len := 400) (k := 8) (f := 78) Try.mixed (by kernel_rfl)
theorem spell78_9 : DeepCall Try.prog 78 [.lit (.string ⟨#[65, 70]⟩)] (spK 9) := runFn_sound (inl := fun f => f == 9999) (len := 400) (k := 8) (f := 78) Try.mixed (by kernel_rfl)
theorem spell78_10 : DeepCall Try.prog 78 [.lit (.string ⟨#[65, 71]⟩)] (spK 10) := runFn_sound (inl := fun f => f == 9999) (len := 400) (k := 8) (f := 78) Try.mixed (by kernel_rfl)
theorem spell78_11 : DeepCall Try.prog 78 [.lit (.string ⟨#[65, 85]⟩)] (spK 11) := runFn_sound (inl := fun f => f == 9999) (len := 400) (k := 8) (f := 78) Try.mixed (by kernel_rfl)
theorem spell78_12 : DeepCall Try.prog 78 [.lit (.string ⟨#[97]⟩)] (spK 12) := runFn_sound (inl := fun f => f == 9999) (len := 400) (k := 8) (f := 78) Try.mixed (by kernel_rfl)
theorem spell78_13 : DeepCall Try.prog 78 [.lit (.string ⟨#[98]⟩)] (spK 13) := runFn_sound (inl := fun f => f == 9999) (len := 400) (k := 8) (f := 78) Try.mixed (by kernel_rfl)
theorem spell78_14 : DeepCall Try.prog 78 [.lit (.string ⟨#[99]⟩)] (spK 14) := runFn_sound (inl := fun f => f == 9999) (len := 400) (k := 8) (f := 78) Try.mixed (by kernel_rfl)
theorem spell78_15 : DeepCall Try.prog 78 [.lit (.string ⟨#[100]⟩)] (spK 15) := runFn_sound (inl := fun f => f == 9999) (len := 400) (k := 8) (f := 78) Try.mixed (by kernel_rfl)
theorem spell78_16 : DeepCall Try.prog 78 [.lit (.string ⟨#[101]⟩)] (spK 16) := runFn_sound (inl := fun f => f == 9999) (len := 400) (k := 8) (f := 78) Try.mixed (by kernel_rfl)
theorem spell78_17 : DeepCall Try.prog 78 [.lit (.string ⟨#[102]⟩)] (spK 17) := runFn_sound (inl := fun f => f == 9999) (len := 400) (k := 8) (f := 78) Try.mixed (by kernel_rfl)
theorem spK_len : ∀ c, c < 18 → ∃ cs len cap, spK c = .sl cs len cap ∧ (len : Int) = arC c + 1
  | 0, _ => ⟨_, _, _, rfl, rfl⟩
  | 1, _ => ⟨_, _, _, rfl, rfl⟩
  | 2, _ => ⟨_, _, _, rfl, rfl⟩
  | 3, _ => ⟨_, _, _, rfl, rfl⟩
  | 4, _ => ⟨_, _, _, rfl, rfl⟩
  | 5, _ => ⟨_, _, _, rfl, rfl⟩
  | 6, _ => ⟨_, _, _, rfl, rfl⟩
  | 7, _ => ⟨_, _, _, rfl, rfl⟩
  | 8, _ => ⟨_, _, _, rfl, rfl⟩
  | 9, _ => ⟨_, _, _, rfl, rfl⟩
  | 10, _ => ⟨_, _, _, rfl, rfl⟩
  | 11, _ => ⟨_, _, _, rfl, rfl⟩
  | 12, _ => ⟨_, _, _, rfl, rfl⟩
  | 13, _ => ⟨_, _, _, rfl, rfl⟩
  | 14, _ => ⟨_, _, _, rfl, rfl⟩
  | 15, _ => ⟨_, _, _, rfl, rfl⟩
  | 16, _ => ⟨_, _, _, rfl, rfl⟩
  | 17, _ => ⟨_, _, _, rfl, rfl⟩
  | c + 18, h => by omega
theorem spellK (op : ByteArray) (h : opc op < 18) : DeepCall Try.prog 78 [.lit (.string op)] (spD op) := by
  have hg := opc_get h
  unfold spD
  revert hg
  generalize opc op = c at h
  intro hg
  match c, h with
  | 0, _ => cases hg; exact spell78_0
  | 1, _ => cases hg; exact spell78_1
  | 2, _ => cases hg; exact spell78_2
  | 3, _ => cases hg; exact spell78_3
  | 4, _ => cases hg; exact spell78_4
  | 5, _ => cases hg; exact spell78_5
  | 6, _ => cases hg; exact spell78_6
  | 7, _ => cases hg; exact spell78_7
  | 8, _ => cases hg; exact spell78_8
  | 9, _ => cases hg; exact spell78_9
  | 10, _ => cases hg; exact spell78_10
  | 11, _ => cases hg; exact spell78_11
  | 12, _ => cases hg; exact spell78_12
  | 13, _ => cases hg; exact spell78_13
  | 14, _ => cases hg; exact spell78_14
  | 15, _ => cases hg; exact spell78_15
  | 16, _ => cases hg; exact spell78_16
  | 17, _ => cases hg; exact spell78_17
  | c + 18, h => omega
set_option maxRecDepth 10000 in
theorem spellN {op : ByteArray} (hn : ∀ x ∈ NM, op ≠ x) : DeepCall Try.prog 78 [.lit (.string op)] Dnil := by
  refine deepCall_K 5 Try.func78 rfl (Nat.le_of_ble_eq_true rfl) fun M W0 => ?_
  refine KC.seq ?_
  refine KC.region ?_
  refine KT.step rfl rfl (K.assign rfl) ?_
  refine KT.nil ?_
  refine thenK_n ?_
  refine KC.seq ?_
  refine KC.seq ?_
  refine KC.region ?_
  refine KT.step rfl rfl (K.move rfl) ?_
  refine KT.nil ?_
  refine thenK_n ?_
  refine KC.block ?_
  refine KC.seq ?_
  refine KC.seq ?_
  refine KC.region ?_
  refine KT.step rfl rfl (K.eqlS rfl rfl) ?_
  refine KT.step rfl rfl (K.assign rfl) ?_
  refine KT.nil ?_
  refine thenK_n ?_
  refine KC.cond rfl (fun hc4 => ?_) (fun hc4 => ?_)
  · skip
    exact absurd (of_decide_eq_true hc4) (hn _ (by repeat (first | exact List.Mem.head _ | apply List.Mem.tail)))
  · skip
    refine KC.seq ?_
    refine KC.region ?_
    refine KT.step rfl rfl (K.eqlS rfl rfl) ?_
    refine KT.step rfl rfl (K.assign rfl) ?_
    refine KT.nil ?_
    refine thenK_n ?_
    refine KC.cond rfl (fun hc4 => ?_) (fun hc4 => ?_)
    · skip
      exact absurd (of_decide_eq_true hc4) (hn _ (by repeat (first | exact List.Mem.head _ | apply List.Mem.tail)))
    · skip
      refine KC.seq ?_
      refine KC.region ?_
      refine KT.step rfl rfl (K.eqlS rfl rfl) ?_
      refine KT.step rfl rfl (K.assign rfl) ?_
      refine KT.nil ?_
      refine thenK_n ?_
      refine KC.cond rfl (fun hc4 => ?_) (fun hc4 => ?_)
      · skip
        exact absurd (of_decide_eq_true hc4) (hn _ (by repeat (first | exact List.Mem.head _ | apply List.Mem.tail)))
      · skip
        refine KC.seq ?_
        refine KC.region ?_
        refine KT.step rfl rfl (K.eqlS rfl rfl) ?_
        refine KT.step rfl rfl (K.assign rfl) ?_
        refine KT.nil ?_
        refine thenK_n ?_
        refine KC.cond rfl (fun hc4 => ?_) (fun hc4 => ?_)
        · skip
          exact absurd (of_decide_eq_true hc4) (hn _ (by repeat (first | exact List.Mem.head _ | apply List.Mem.tail)))
        · skip
          refine KC.seq ?_
          refine KC.region ?_
          refine KT.step rfl rfl (K.eqlS rfl rfl) ?_
          refine KT.step rfl rfl (K.assign rfl) ?_
          refine KT.nil ?_
          refine thenK_n ?_
          refine KC.cond rfl (fun hc4 => ?_) (fun hc4 => ?_)
          · skip
            exact absurd (of_decide_eq_true hc4) (hn _ (by repeat (first | exact List.Mem.head _ | apply List.Mem.tail)))
          · skip
            refine KC.seq ?_
            refine KC.region ?_
            refine KT.step rfl rfl (K.eqlS rfl rfl) ?_
            refine KT.step rfl rfl (K.assign rfl) ?_
            refine KT.nil ?_
            refine thenK_n ?_
            refine KC.cond rfl (fun hc4 => ?_) (fun hc4 => ?_)
            · skip
              exact absurd (of_decide_eq_true hc4) (hn _ (by repeat (first | exact List.Mem.head _ | apply List.Mem.tail)))
            · skip
              refine KC.region ?_
              refine KT.step rfl rfl (K.eqlS rfl rfl) ?_
              refine KT.step rfl rfl (K.assign rfl) ?_
              refine KT.nil ?_
              refine thenK_n ?_
              refine KC.cond rfl (fun hc4 => ?_) (fun hc4 => ?_)
              · skip
                exact absurd (of_decide_eq_true hc4) (hn _ (by repeat (first | exact List.Mem.head _ | apply List.Mem.tail)))
              · skip
                refine KC.seq ?_
                refine KC.region ?_
                refine KT.step rfl rfl (K.eqlS rfl rfl) ?_
                refine KT.step rfl rfl (K.assign rfl) ?_
                refine KT.nil ?_
                refine thenK_n ?_
                refine KC.cond rfl (fun hc14 => ?_) (fun hc14 => ?_)
                · skip
                  exact absurd (of_decide_eq_true hc14) (hn _ (by repeat (first | exact List.Mem.head _ | apply List.Mem.tail)))
                · skip
                  refine KC.seq ?_
                  refine KC.seq ?_
                  refine KC.region ?_
                  refine KT.step rfl rfl (K.eqlS rfl rfl) ?_
                  refine KT.step rfl rfl (K.assign rfl) ?_
                  refine KT.nil ?_
                  refine thenK_n ?_
                  refine KC.cond rfl (fun hc17 => ?_) (fun hc17 => ?_)
                  · skip
                    exact absurd (of_decide_eq_true hc17) (hn _ (by repeat (first | exact List.Mem.head _ | apply List.Mem.tail)))
                  · skip
                    refine KC.seq ?_
                    refine KC.region ?_
                    refine KT.step rfl rfl (K.eqlS rfl rfl) ?_
                    refine KT.step rfl rfl (K.assign rfl) ?_
                    refine KT.nil ?_
                    refine thenK_n ?_
                    refine KC.cond rfl (fun hc17 => ?_) (fun hc17 => ?_)
                    · skip
                      exact absurd (of_decide_eq_true hc17) (hn _ (by repeat (first | exact List.Mem.head _ | apply List.Mem.tail)))
                    · skip
                      refine KC.seq ?_
                      refine KC.region ?_
                      refine KT.step rfl rfl (K.eqlS rfl rfl) ?_
                      refine KT.step rfl rfl (K.assign rfl) ?_
                      refine KT.nil ?_
                      refine thenK_n ?_
                      refine KC.cond rfl (fun hc17 => ?_) (fun hc17 => ?_)
                      · skip
                        exact absurd (of_decide_eq_true hc17) (hn _ (by repeat (first | exact List.Mem.head _ | apply List.Mem.tail)))
                      · skip
                        refine KC.seq ?_
                        refine KC.region ?_
                        refine KT.step rfl rfl (K.eqlS rfl rfl) ?_
                        refine KT.step rfl rfl (K.assign rfl) ?_
                        refine KT.nil ?_
                        refine thenK_n ?_
                        refine KC.cond rfl (fun hc17 => ?_) (fun hc17 => ?_)
                        · skip
                          exact absurd (of_decide_eq_true hc17) (hn _ (by repeat (first | exact List.Mem.head _ | apply List.Mem.tail)))
                        · skip
                          refine KC.seq ?_
                          refine KC.region ?_
                          refine KT.step rfl rfl (K.eqlS rfl rfl) ?_
                          refine KT.step rfl rfl (K.assign rfl) ?_
                          refine KT.nil ?_
                          refine thenK_n ?_
                          refine KC.cond rfl (fun hc17 => ?_) (fun hc17 => ?_)
                          · skip
                            exact absurd (of_decide_eq_true hc17) (hn _ (by repeat (first | exact List.Mem.head _ | apply List.Mem.tail)))
                          · skip
                            refine KC.region ?_
                            refine KT.step rfl rfl (K.eqlS rfl rfl) ?_
                            refine KT.step rfl rfl (K.assign rfl) ?_
                            refine KT.nil ?_
                            refine thenK_n ?_
                            refine KC.cond rfl (fun hc17 => ?_) (fun hc17 => ?_)
                            · skip
                              exact absurd (of_decide_eq_true hc17) (hn _ (by repeat (first | exact List.Mem.head _ | apply List.Mem.tail)))
                            · skip
                              refine KC.seq ?_
                              refine KC.seq ?_
                              refine KC.region ?_
                              refine KT.step rfl rfl (K.eqlS rfl rfl) ?_
                              refine KT.step rfl rfl (K.assign rfl) ?_
                              refine KT.nil ?_
                              refine thenK_n ?_
                              refine KC.cond rfl (fun hc27 => ?_) (fun hc27 => ?_)
                              · skip
                                exact absurd (of_decide_eq_true hc27) (hn _ (by repeat (first | exact List.Mem.head _ | apply List.Mem.tail)))
                              · skip
                                refine KC.region ?_
                                refine KT.step rfl rfl (K.eqlS rfl rfl) ?_
                                refine KT.step rfl rfl (K.assign rfl) ?_
                                refine KT.nil ?_
                                refine thenK_n ?_
                                refine KC.cond rfl (fun hc27 => ?_) (fun hc27 => ?_)
                                · skip
                                  exact absurd (of_decide_eq_true hc27) (hn _ (by repeat (first | exact List.Mem.head _ | apply List.Mem.tail)))
                                · skip
                                  refine KC.seq ?_
                                  refine KC.region ?_
                                  refine KT.step rfl rfl (K.eqlS rfl rfl) ?_
                                  refine KT.step rfl rfl (K.assign rfl) ?_
                                  refine KT.nil ?_
                                  refine thenK_n ?_
                                  refine KC.cond rfl (fun hc34 => ?_) (fun hc34 => ?_)
                                  · skip
                                    exact absurd (of_decide_eq_true hc34) (hn _ (by repeat (first | exact List.Mem.head _ | apply List.Mem.tail)))
                                  · skip
                                    refine KC.seq ?_
                                    refine KC.region ?_
                                    refine KT.step rfl rfl (K.eqlS rfl rfl) ?_
                                    refine KT.step rfl rfl (K.assign rfl) ?_
                                    refine KT.nil ?_
                                    refine thenK_n ?_
                                    refine KC.cond rfl (fun hc37 => ?_) (fun hc37 => ?_)
                                    · skip
                                      exact absurd (of_decide_eq_true hc37) (hn _ (by repeat (first | exact List.Mem.head _ | apply List.Mem.tail)))
                                    · skip
                                      refine KC.skip ?_
                                      refine blockK_n ?_
                                      refine thenK_n ?_
                                      refine KC.seq ?_
                                      refine KC.region ?_
                                      refine KT.step rfl rfl (K.assign rfl) ?_
                                      refine KT.nil ?_
                                      refine thenK_n ?_
                                      refine KC.ret ?_
                                      exact ⟨.inl rfl, _, rfl, rfl⟩
theorem spell78 (op : ByteArray) : DeepCall Try.prog 78 [.lit (.string op)] (spD op) := by
  by_cases h : opc op < 18
  · exact spellK op h
  · have e : spD op = Dnil := by
      unfold spD
      unfold spK
      split <;> first | rfl | omega
    rw [e]
    exact spellN (opc_none h)
theorem spD_len {P : Program} {σ : List VObj} {kn : Kn} {dst : Option Tmp} {ty : TypeId} {pos : String} {af : Array Edge} {g : Option (Nat × Bool)} {x : Operand} {t e : TypeId} {op : ByteArray} (hx : evK kn x = some (.d (spD op))) (ht : P.underlying t = some (.slice e)) :
    KEv P ⟨dst, .call ⟨.builtin .len, #[x], #[t]⟩, ty, pos, af, g⟩ σ kn (.d (DI (arI op + 1))) σ 0 := by
  by_cases h : opc op < 18
  · obtain ⟨cs, len, cap, e1, e2⟩ := spK_len _ h
    unfold arI
    rw [← e2]
    exact K.lenD (by rw [hx]; unfold spD; rw [e1]) ht
  · have e : spD op = Dnil := by
      unfold spD
      unfold spK
      split <;> first | rfl | omega
    rw [arI_none h]
    rw [e] at hx
    exact K.len (R := fun _ (_ : Nat) => True) (l := []) hx .nil ht
theorem arI_lo (op : ByteArray) : -1 ≤ arI op ∧ arI op ≤ 2 := by
  by_cases h : opc op < 18
  · have key : ∀ c : Nat, c < 18 → -1 ≤ arC c ∧ arC c ≤ 2 := by decide
    exact key _ h
  · rw [arI_none h]; omega
set_option maxRecDepth 10000 in
theorem fitsS50 {σ : List VObj} {id : Nat} {kd : DV} {op : ByteArray} {ks : List Fo} {deep left : Nat} (hk : KidsD kd ks) (ho : σ[id]? = some ⟨[.d (DI (left : Nat))], 0⟩) (hd : deep ≤ 1000) (hlf : left ≤ 1000)
    (hrec : ∀ op1 ks1 kd1 σ' deep' left', Fo.mk op1 ks1 ∈ ks → KidsD kd1 ks1 → σ'[id]? = some ⟨[.d (DI (left' : Nat))], 0⟩ → deep' ≤ 1000 → left' ≤ 1000 →
      OwnCall Try.prog 50 σ' [.d (.agg [.lit (.string op1), kd1]), .d (DI (deep' : Nat)), .optr id 0] (σ'.set id ⟨[.d (DI ((fitF (.mk op1 ks1) deep' left').2 : Nat))], 0⟩) (.d (DB (fitF (.mk op1 ks1) deep' left').1))) :
    OwnCall Try.prog 50 σ [.d (.agg [.lit (.string op), kd]), .d (DI (deep : Nat)), .optr id 0] (σ.set id ⟨[.d (DI ((fitF (.mk op ks) deep left).2 : Nat))], 0⟩) (.d (DB (fitF (.mk op ks) deep left).1)) := by
  have har := arI_lo op
  refine ownDrop_K 5 Try.func50 rfl (Nat.le_of_ble_eq_true rfl) (Same1.put1) fun M W0 => ?_
  refine KC.seq ?_
  refine KC.region ?_
  refine KT.step rfl rfl (K.box rfl) ?_
  refine KT.step rfl rfl (K.assign rfl) ?_
  refine KT.nil ?_
  refine thenK_n ?_
  refine KC.seq ?_
  refine KC.seq ?_
  refine KC.draw Try.mixed ?_
  refine KT.step rfl rfl (K.move rfl) ?_
  refine KT.step rfl rfl (K.eql rfl rfl) ?_
  refine KT.step rfl rfl (K.move rfl) ?_
  refine KT.bcase (fun hb11 => ?_) (fun hb11 => ?_)
  · skip
    replace hb11 := of_decide_eq_true hb11
    refine KT.skip rfl rfl ?_
    refine KT.skip rfl rfl ?_
    refine KT.skip rfl rfl ?_
    refine KT.skip rfl rfl ?_
    refine KT.step rfl rfl (K.pick rfl (fun _ => rfl) (fun h => by cases h)) ?_
    refine KT.step rfl rfl (K.move rfl) ?_
    refine KT.skip rfl rfl ?_
    refine KT.skip rfl rfl ?_
    refine KT.skip rfl rfl ?_
    refine KT.skip rfl rfl ?_
    refine KT.skip rfl rfl ?_
    refine KT.skip rfl rfl ?_
    refine KT.skip rfl rfl ?_
    refine KT.skip rfl rfl ?_
    refine KT.skip rfl rfl ?_
    refine KT.step rfl rfl (K.pick rfl (fun _ => rfl) (fun h => by cases h)) ?_
    refine KT.nil ?_
    refine ⟨by kernel_rfl, ?_⟩
    refine thenK_n ?_
    refine KC.cond rfl (fun hc27 => ?_) (fun hc27 => ?_)
    · skip
      refine KC.seq ?_
      refine KC.region ?_
      refine KT.step rfl rfl (K.assign rfl) ?_
      refine KT.nil ?_
      refine thenK_n ?_
      refine KC.ret ?_
      refine thenK_r ?_
      have e : fitF (.mk op ks) deep left = (false, left) := by
        rw [fitF]
        exact if_pos (by first | exact .inl (by omega) | exact .inr (.inl (by omega)) | exact .inr (.inr (by omega)))
      obtain ⟨τ, hτ⟩ := ((Ext1.start ho).app [⟨[.d (.lit (.string op)), .d kd], 0⟩]).fin [] (by simp)
      rw [e]
      exact ⟨.inl rfl, _, rfl, [], τ, hτ, rfl⟩
    · cases hc27
  · skip
    replace hb11 := of_decide_eq_false hb11
    refine KT.step rfl rfl (K.move rfl) ?_
    refine KT.step rfl rfl (K.nilCheckO rfl) ?_
    refine KT.step rfl rfl (K.loadO rfl (get_left ho) (by simp) rfl Try.agg3) ?_
    refine KT.step rfl rfl (K.eql rfl rfl) ?_
    refine KT.step rfl rfl (K.pick rfl (fun h => by cases h) (fun _ => rfl)) ?_
    refine KT.step rfl rfl (K.move rfl) ?_
    refine KT.bcase (fun hb17 => ?_) (fun hb17 => ?_)
    · skip
      replace hb17 := of_decide_eq_true hb17
      refine KT.skip rfl rfl ?_
      refine KT.skip rfl rfl ?_
      refine KT.skip rfl rfl ?_
      refine KT.skip rfl rfl ?_
      refine KT.skip rfl rfl ?_
      refine KT.skip rfl rfl ?_
      refine KT.skip rfl rfl ?_
      refine KT.skip rfl rfl ?_
      refine KT.skip rfl rfl ?_
      refine KT.step rfl rfl (K.pick rfl (fun _ => rfl) (fun h => by cases h)) ?_
      refine KT.nil ?_
      refine ⟨by kernel_rfl, ?_⟩
      refine thenK_n ?_
      refine KC.cond rfl (fun hc27 => ?_) (fun hc27 => ?_)
      · skip
        refine KC.seq ?_
        refine KC.region ?_
        refine KT.step rfl rfl (K.assign rfl) ?_
        refine KT.nil ?_
        refine thenK_n ?_
        refine KC.ret ?_
        refine thenK_r ?_
        have e : fitF (.mk op ks) deep left = (false, left) := by
          rw [fitF]
          exact if_pos (by first | exact .inl (by omega) | exact .inr (.inl (by omega)) | exact .inr (.inr (by omega)))
        obtain ⟨τ, hτ⟩ := ((Ext1.start ho).app [⟨[.d (.lit (.string op)), .d kd], 0⟩]).fin [] (by simp)
        rw [e]
        exact ⟨.inl rfl, _, rfl, [], τ, hτ, rfl⟩
      · cases hc27
    · skip
      replace hb17 := of_decide_eq_false hb17
      refine KT.step rfl rfl (K.fieldAddrO rfl Try.fld35_1 Try.size33) ?_
      refine KT.step rfl rfl (K.loadO rfl (List.getElem?_concat_length ..) (by simp) rfl Try.agg33) ?_
      refine KT.step rfl rfl (K.lenKids rfl hk Try.underlying33) ?_
      refine KT.step rfl rfl (K.fieldAddrO rfl Try.fld35_0 Try.size9) ?_
      refine KT.step rfl rfl (K.loadO rfl (List.getElem?_concat_length ..) (by simp) rfl Try.agg9) ?_
      refine KT.step rfl rfl (K.call1 rfl plainTry_78 (spell78 op)) ?_
      refine KT.step rfl rfl (spD_len rfl Try.underlying100) ?_
      refine KT.step rfl rfl (K.sub rfl rfl (wrap_id (by omega))) ?_
      refine KT.step rfl rfl (K.neq rfl rfl) ?_
      refine KT.step rfl rfl (K.pick rfl (fun h => by cases h) (fun _ => rfl)) ?_
      refine KT.nil ?_
      refine ⟨by kernel_rfl, ?_⟩
      refine thenK_n ?_
      refine KC.cond rfl (fun hc27 => ?_) (fun hc27 => ?_)
      · skip
        replace hc27 := of_decide_eq_true hc27
        refine KC.seq ?_
        refine KC.region ?_
        refine KT.step rfl rfl (K.assign rfl) ?_
        refine KT.nil ?_
        refine thenK_n ?_
        refine KC.ret ?_
        refine thenK_r ?_
        have e : fitF (.mk op ks) deep left = (false, left) := by
          rw [fitF]
          exact if_pos (by first | exact .inl (by omega) | exact .inr (.inl (by omega)) | exact .inr (.inr (by omega)))
        obtain ⟨τ, hτ⟩ := ((Ext1.start ho).app [⟨[.d (.lit (.string op)), .d kd], 0⟩]).fin [] (by simp)
        rw [e]
        exact ⟨.inl rfl, _, rfl, [], τ, hτ, rfl⟩
      · skip
        replace hc27 := of_decide_eq_false hc27
        refine KC.skip ?_
        refine thenK_n ?_
        refine KC.seq ?_
        refine KC.region ?_
        refine KT.step rfl rfl (K.move rfl) ?_
        refine KT.step rfl rfl (K.nilCheckO rfl) ?_
        refine KT.step rfl rfl (K.loadO rfl (get_left ho) (by simp) rfl Try.agg3) ?_
        refine KT.step rfl rfl (K.sub rfl rfl (wrap_id (by omega))) ?_
        refine KT.step rfl rfl (K.nilCheckO rfl) ?_
        refine KT.storeG rfl rfl rfl rfl (get_left ho) (by simp) rfl rfl Try.size3 fun σr lr ur vr => ?_
        refine KT.nil ?_
        refine thenK_n ?_
        refine KC.seq ?_
        refine KC.seq ?_
        refine KC.region ?_
        refine KT.step rfl rfl (K.fieldAddrO rfl Try.fld35_1 Try.size33) ?_
        have hbx : σr[σ.length]? = some ⟨[.d (.lit (.string op)), .d kd], 0⟩ := by rw [vr _ (by have := (List.getElem?_eq_some_iff.1 ho).1; omega)]; exact List.getElem?_concat_length ..
        refine KT.step rfl rfl (K.loadO rfl hbx (by simp) rfl Try.agg33) ?_
        refine KT.step rfl rfl (K.lenKids rfl hk Try.underlying33) ?_
        refine KT.step rfl rfl (K.move rfl) ?_
        refine KT.nil ?_
        refine thenK_n ?_
        refine KC.block ?_
        have hdm : ((deep : Nat) : Int) - 1 = ((deep - 1 : Nat) : Int) := by omega
        have hlm : ((left : Nat) : Int) - 1 = ((left - 1 : Nat) : Int) := by omega
        have hfit : fitF (.mk op ks) deep left = fitL ks (deep - 1) (left - 1) := by
          rw [fitF]
          exact if_neg (by rintro (h | h | h) <;> first | omega | exact hdead h)
        have hE0 : Ext1 σ id (DI ((left - 1 : Nat) : Nat)) σr := by
          refine ⟨(List.getElem?_eq_some_iff.1 ho).1, by rw [lr]; simp, ?_, fun j h1 h2 => ?_⟩
          · rw [ur, ← hlm]; rfl
          · rw [vr j h2, List.getElem?_append_left h1]
        refine KC.loop (fun p : List VObj × Nat × Nat => p.1) (fun p => [(1, .d (DI (deep : Nat))), (2, .optr id 0), (34, .d kd), (35, .d (DI (ks.length : Nat))), (36, .d (DI (p.2.1 : Nat)))]) (fun p => Ext1 σ id (DI (p.2.2 : Nat)) p.1 ∧ p.2.1 ≤ ks.length ∧ p.2.2 ≤ 1000 ∧ fitL (ks.drop p.2.1) (deep - 1) p.2.2 = fitF (.mk op ks) deep left) (fun p => ks.length - p.2.1) (σr, 0, left - 1) ⟨hE0, Nat.zero_le _, by simp only; omega, hfit.symm⟩ rfl (by simp [Go.Vm.look, extK, enterK]) ?_
        intro p hp
        obtain ⟨hE, hp2, hln, hfl⟩ := hp
        refine KC.seq ?_
        refine KC.region ?_
        refine KT.step rfl rfl (K.lss rfl rfl) ?_
        refine KT.nil ?_
        refine thenK_n ?_
        refine KC.seq ?_
        refine KC.cond rfl (fun hc37 => ?_) (fun hc37 => ?_)
        · skip
          replace hc37 := of_decide_eq_true hc37
          have hil : p.2.1 < ks.length := by omega
          refine KC.skip ?_
          refine thenK_n ?_
          refine KC.seq ?_
          refine KC.block ?_
          refine KC.seq ?_
          refine KC.region ?_
          refine KT.idxKid rfl rfl rfl hk rfl hil Try.underlying33 Try.size35 fun op1 ks1 kd1 rest hq1 hq2 => ?_
          refine KT.step rfl rfl (K.loadAgg (cs := .lit (.string op1) :: kd1 :: rest) (m := 2) rfl Try.agg35 Try.size35 (by simp)) ?_
          refine KT.step rfl rfl (K.alloc Try.zero35) ?_
          refine KT.storeL (cs := [.d (.lit (.string op1)), .d kd1]) rfl rfl rfl rfl rfl rfl (two_one rfl hq2) Try.size35 ?_
          refine KT.nil ?_
          refine thenK_n ?_
          refine KC.seq ?_
          refine KC.region ?_
          refine KT.step rfl rfl (K.loadOA [.lit (.string op1), kd1] rfl (List.getElem?_concat_length ..) (by decide) Try.agg35 Try.size35 rfl) ?_
          refine KT.step rfl rfl (K.move rfl) ?_
          refine KT.step rfl rfl (K.sub rfl rfl (wrap_id (by omega))) ?_
          refine KT.step rfl rfl (K.move rfl) ?_
          refine KT.step rfl rfl (K.callO (xs := [.d (.agg [.lit (.string op1), kd1]), .d (DI ((deep - 1 : Nat) : Nat)), .optr id 0]) (by simp [evK, Go.Vm.look, extK, hdm]) plainTry_50 (hrec op1 ks1 kd1 _ _ _ (List.mem_of_getElem? hq1) hq2 (get_left hE.here) (by omega) hln)) ?_
          refine KT.step rfl rfl (K.not rfl) ?_
          refine KT.nil ?_
          refine thenK_n ?_
          refine KC.cond rfl (fun hc45 => ?_) (fun hc45 => ?_)
          · skip
            refine KC.seq ?_
            refine KC.region ?_
            refine KT.step rfl rfl (K.assign rfl) ?_
            refine KT.nil ?_
            refine thenK_n ?_
            refine KC.ret ?_
            refine blockK_r ?_
            refine thenK_r ?_
            refine thenK_r ?_
            refine blockK_r ?_
            refine thenK_r ?_
            have hdrop : ks.drop p.2.1 = Fo.mk op1 ks1 :: ks.drop (p.2.1 + 1) := by
              obtain ⟨q1, q2⟩ := List.getElem?_eq_some_iff.1 hq1
              rw [List.drop_eq_getElem_cons q1, q2]
            have hok : ¬ (fitF (.mk op1 ks1) (deep - 1) p.2.2).1 = true := by simpa using hc45
            have e : fitF (.mk op ks) deep left = (false, (fitF (.mk op1 ks1) (deep - 1) p.2.2).2) := by
              rw [← hfl, hdrop]
              rw [fitL_cons, if_neg hok]
            obtain ⟨τ, hτ⟩ := ((hE.app [⟨[.d (.lit (.string op1)), .d kd1], 0⟩]).put (DI ((fitF (.mk op1 ks1) (deep - 1) p.2.2).2 : Nat))).fin [] (by simp)
            rw [e]
            exact ⟨.inl rfl, _, rfl, [], τ, hτ, rfl⟩
          · skip
            refine KC.skip ?_
            refine blockK_n ?_
            refine thenK_n ?_
            refine KC.region ?_
            refine KT.step rfl rfl (K.add rfl rfl (wrap_id (by omega))) ?_
            refine KT.step rfl rfl (K.move rfl) ?_
            refine KT.nil ?_
            refine thenK_n ?_
            have hdrop : ks.drop p.2.1 = Fo.mk op1 ks1 :: ks.drop (p.2.1 + 1) := by
              obtain ⟨q1, q2⟩ := List.getElem?_eq_some_iff.1 hq1
              rw [List.drop_eq_getElem_cons q1, q2]
            have hok : (fitF (.mk op1 ks1) (deep - 1) p.2.2).1 = true := by simpa using hc45
            refine ⟨(_, p.2.1 + 1, (fitF (.mk op1 ks1) (deep - 1) p.2.2).2), ⟨(hE.app _).put _, by simp only; omega, ?_, ?_⟩, by simp only; omega, rfl, by simp [Go.Vm.look, extK]⟩
            · simp only; exact Nat.le_trans (fitF_le _ _ _) hln
            · simp only
              rw [← hfl, hdrop]
              rw [fitL_cons, if_pos hok]
        · skip
          replace hc37 := of_decide_eq_false hc37
          refine KC.exit ?_
          refine thenK_x ?_
          refine thenK_x ?_
          refine blockK_e ?_
          refine thenK_n ?_
          refine KC.seq ?_
          refine KC.region ?_
          refine KT.step rfl rfl (K.assign rfl) ?_
          refine KT.nil ?_
          refine thenK_n ?_
          refine KC.ret ?_
          have e : fitF (.mk op ks) deep left = (true, p.2.2) := by
            rw [← hfl, List.drop_eq_nil_of_le (by omega)]
            rw [fitL_nil]
          obtain ⟨τ, hτ⟩ := hE.fin [] (by simp)
          rw [e]
          exact ⟨.inl rfl, _, rfl, [], τ, hτ, rfl⟩

theorem fits50 : ∀ (op : ByteArray) (ks : List Fo) (kd : DV) (σ : List VObj) (id deep left : Nat), KidsD kd ks → σ[id]? = some ⟨[.d (DI (left : Nat))], 0⟩ → deep ≤ 1000 → left ≤ 1000 →
    OwnCall Try.prog 50 σ [.d (.agg [.lit (.string op), kd]), .d (DI (deep : Nat)), .optr id 0] (σ.set id ⟨[.d (DI ((fitF (.mk op ks) deep left).2 : Nat))], 0⟩) (.d (DB (fitF (.mk op ks) deep left).1))
  | op, ks, kd, σ, id, deep, left, hk, ho, hd, hl => by
    refine fitsS50 hk ho hd hl fun op1 ks1 kd1 σ' deep' left' hm hk1 ho1 hd1 hl1 => ?_
    have : SizeOf.sizeOf ks1 < SizeOf.sizeOf ks := by
      have := List.sizeOf_lt_of_mem hm
      simp at this; omega
    exact fits50 op1 ks1 kd1 σ' id deep' left' hk1 ho1 hd1 hl1
  termination_by _ ks => SizeOf.sizeOf ks
set_option maxRecDepth 10000 in
theorem isFormula28 {kd : DV} {op : ByteArray} {ks : List Fo} (hk : KidsD kd ks) : DeepCall Try.prog 28 [.agg [.lit (.string op), kd]] (DB (fitF (.mk op ks) 60 200).1) := by
  refine deepCall_K 5 Try.func28 rfl (Nat.le_of_ble_eq_true rfl) fun M W0 => ?_
  refine KC.seq ?_
  refine KC.region ?_
  refine KT.step rfl rfl (K.box rfl) ?_
  refine KT.step rfl rfl (K.assign rfl) ?_
  refine KT.nil ?_
  refine thenK_n ?_
  refine KC.seq ?_
  refine KC.region ?_
  refine KT.step rfl rfl (K.alloc Try.zero3) ?_
  refine KT.step rfl rfl (K.storeO rfl rfl rfl (by decide) rfl rfl Try.size3) ?_
  refine KT.nil ?_
  refine thenK_n ?_
  refine KC.seq ?_
  refine KC.region ?_
  refine KT.step rfl rfl (K.loadOA ([.lit (.string op), kd]) rfl rfl (by decide) Try.agg35 Try.size35 rfl) ?_
  refine KT.step rfl rfl (K.callO (xs := [.d (.agg [.lit (.string op), kd]), .d (DI ((60 : Nat) : Nat)), .optr 1 0]) rfl plainTry_50 (fits50 op ks kd _ 1 60 200 hk rfl (by decide) (by decide))) ?_
  refine KT.step rfl rfl (K.assign rfl) ?_
  refine KT.nil ?_
  refine thenK_n ?_
  refine KC.ret ?_
  exact ⟨.inl rfl, _, rfl, fin_b rfl⟩

/-- Whether a structure is valid. -/
def okS (n : Nat) (x l : Int) : Bool := (decide (1 ≤ x) && decide (x ≤ ((2 ^ n : Nat) : Int) - 1)) && (decide (0 ≤ l) && decide (l ≤ 63))
def validS (N L : List Int) : Bool := (decide (1 ≤ N.length) && decide (N.length ≤ 16)) && decide (L.length = N.length) && (List.range N.length).all fun i => okS N.length (N.getD i 0) (L.getD i 0)
theorem range_all_take {p : Nat → Bool} (i : Nat) : (List.range (i + 1)).all p = ((List.range i).all p && p i) := by rw [List.range_succ, List.all_append]; simp
theorem range_all_false {p : Nat → Bool} {n i : Nat} (hi : i < n) (h : p i = false) : (List.range n).all p = false := by
  cases hb : (List.range n).all p with
  | false => rfl
  | true =>
    have := List.all_eq_true.1 hb i (List.mem_range.2 hi)
    rw [h] at this; cases this
theorem getD_int {N : List Int} {i : Nat} (h : i < N.length) : N.getD i 0 = N[i] := by rw [List.getD_eq_getElem?_getD, List.getElem?_eq_getElem h]; rfl
set_option maxRecDepth 10000 in
theorem valid27 {dn dl : DV} {N L : List Int} (hN : Ints dn N) (hL : Ints dl L) (hl : N.length ≤ 9223372036854775807 ∧ L.length ≤ 9223372036854775807) : DeepCall Try.prog 27 [.agg [dn, dl]] (DB (validS N L)) := by
  refine deepCall_K 5 Try.func27 rfl (Nat.le_of_ble_eq_true rfl) fun M W0 => ?_
  refine KC.seq ?_
  refine KC.region ?_
  refine KT.step rfl rfl (K.box rfl) ?_
  refine KT.step rfl rfl (K.assign rfl) ?_
  refine KT.nil ?_
  refine thenK_n ?_
  refine KC.seq ?_
  refine KC.region ?_
  refine KT.step rfl rfl (K.fieldAddrO rfl Try.fld31_0 Try.size22) ?_
  refine KT.step rfl rfl (K.loadO rfl rfl (by simp) rfl Try.agg22) ?_
  refine KT.step rfl rfl (K.len rfl hN Try.underlying22) ?_
  refine KT.step rfl rfl (K.assign rfl) ?_
  refine KT.nil ?_
  refine thenK_n ?_
  refine KC.seq ?_
  refine KC.seq ?_
  refine KC.region ?_
  refine KT.step rfl rfl (K.move rfl) ?_
  refine KT.step rfl rfl (K.call3 rfl rfl rfl plainTry_49 (in49 _ _ _)) ?_
  refine KT.step rfl rfl (K.not rfl) ?_
  refine KT.step rfl rfl (K.move rfl) ?_
  refine KT.bcase (fun hb11 => ?_) (fun hb11 => ?_)
  · skip
    refine KT.skip rfl rfl ?_
    refine KT.skip rfl rfl ?_
    refine KT.skip rfl rfl ?_
    refine KT.skip rfl rfl ?_
    refine KT.skip rfl rfl ?_
    refine KT.step rfl rfl (K.pick rfl (fun _ => rfl) (fun h => by cases h)) ?_
    refine KT.nil ?_
    refine thenK_n ?_
    refine KC.cond rfl (fun hc17 => ?_) (fun hc17 => ?_)
    · skip
      refine KC.seq ?_
      refine KC.region ?_
      refine KT.step rfl rfl (K.assign rfl) ?_
      refine KT.nil ?_
      refine thenK_n ?_
      refine KC.ret ?_
      refine thenK_r ?_
      refine ⟨.inl rfl, _, rfl, fin_b ?_⟩
      have h : (decide ((1 : Int) ≤ (N.length : Nat)) && decide (((N.length : Nat) : Int) ≤ 16)) = false := by rw [Bool.not_eq_true'] at hb11; exact hb11
      unfold validS
      rw [show (decide (1 ≤ N.length) && decide (N.length ≤ 16)) = false from by
        rw [← h]; congr 1 <;> exact decide_eq_decide.2 (by omega)]
      rfl
    · cases hc17
  · skip
    refine KT.step rfl rfl (K.fieldAddrO rfl Try.fld31_1 Try.size22) ?_
    refine KT.step rfl rfl (K.loadO rfl rfl (by simp) rfl Try.agg22) ?_
    refine KT.step rfl rfl (K.len rfl hL Try.underlying22) ?_
    refine KT.step rfl rfl (K.move rfl) ?_
    refine KT.step rfl rfl (K.neq rfl rfl) ?_
    refine KT.step rfl rfl (K.pick rfl (fun h => by cases h) (fun _ => rfl)) ?_
    refine KT.nil ?_
    refine thenK_n ?_
    refine KC.cond rfl (fun hc17 => ?_) (fun hc17 => ?_)
    · skip
      replace hc17 := of_decide_eq_true hc17
      refine KC.seq ?_
      refine KC.region ?_
      refine KT.step rfl rfl (K.assign rfl) ?_
      refine KT.nil ?_
      refine thenK_n ?_
      refine KC.ret ?_
      refine thenK_r ?_
      refine ⟨.inl rfl, _, rfl, fin_b ?_⟩
      unfold validS
      rw [decide_eq_false (show ¬ L.length = N.length by omega), Bool.and_false]; rfl
    · skip
      replace hc17 := of_decide_eq_false hc17
      refine KC.skip ?_
      refine thenK_n ?_
      refine KC.seq ?_
      refine KC.seq ?_
      refine KC.region ?_
      refine KT.step rfl rfl (K.move rfl) ?_
      refine KT.step rfl rfl (K.move rfl) ?_
      refine KT.nil ?_
      refine thenK_n ?_
      refine KC.block ?_
      have hb0 : (decide ((1 : Int) ≤ (N.length : Nat)) && decide (((N.length : Nat) : Int) ≤ 16)) = true := by simpa using hb11
      have hb0' := hb0
      simp only [Bool.and_eq_true, decide_eq_true_iff] at hb0'
      refine KC.loop (fun _ : Nat => [⟨[.d dn, .d dl], 0⟩]) (fun i => [(1, .optr 0 0), (3, .d (DI (N.length : Nat))), (18, .d (DI (N.length : Nat))), (19, .d (DI (i : Nat)))]) (fun i => i ≤ N.length ∧ (List.range i).all (fun i => okS N.length (N.getD i 0) (L.getD i 0)) = true) (fun i => N.length - i) 0 ⟨Nat.zero_le _, rfl⟩ rfl (by simp [Go.Vm.look, extK, enterK]) ?_
      intro i hi
      obtain ⟨hi, hall⟩ := hi
      refine KC.seq ?_
      refine KC.region ?_
      refine KT.step rfl rfl (K.lss rfl rfl) ?_
      refine KT.nil ?_
      refine thenK_n ?_
      refine KC.seq ?_
      refine KC.cond rfl (fun hc20 => ?_) (fun hc20 => ?_)
      · skip
        replace hc20 := of_decide_eq_true hc20
        refine KC.skip ?_
        refine thenK_n ?_
        refine KC.seq ?_
        refine KC.block ?_
        refine KC.seq ?_
        refine KC.region ?_
        refine KT.step rfl rfl (K.move rfl) ?_
        refine KT.step rfl rfl (K.assign rfl) ?_
        refine KT.nil ?_
        refine thenK_n ?_
        refine KC.seq ?_
        refine KC.draw Try.mixed ?_
        refine KT.step rfl rfl (K.fieldAddrO rfl Try.fld31_0 Try.size22) ?_
        refine KT.step rfl rfl (K.loadO rfl rfl (by simp) rfl Try.agg22) ?_
        refine KT.step rfl rfl (K.move rfl) ?_
        refine KT.idxI rfl rfl rfl hN rfl (by omega) Try.underlying22 Try.size3 fun cs25 => ?_
        refine KT.step rfl rfl (K.load rfl Try.agg3) ?_
        refine KT.step rfl rfl (K.move rfl) ?_
        have hp16 := pow_le16 (n := N.length) (by omega)
        refine KT.step rfl rfl (K.shl rfl rfl (by omega) (shlI (i := N.length) (by omega))) ?_
        refine KT.step rfl rfl (K.sub rfl rfl (wrap_id (by have := Nat.two_pow_pos N.length; omega))) ?_
        refine KT.step rfl rfl (K.call3 rfl rfl rfl plainTry_49 (in49 _ _ _)) ?_
        refine KT.step rfl rfl (K.not rfl) ?_
        refine KT.step rfl rfl (K.move rfl) ?_
        refine KT.bcase (fun hb32 => ?_) (fun hb32 => ?_)
        · skip
          refine KT.skip rfl rfl ?_
          refine KT.skip rfl rfl ?_
          refine KT.skip rfl rfl ?_
          refine KT.skip rfl rfl ?_
          refine KT.skip rfl rfl ?_
          refine KT.skip rfl rfl ?_
          refine KT.skip rfl rfl ?_
          refine KT.step rfl rfl (K.pick rfl (fun _ => rfl) (fun h => by cases h)) ?_
          refine KT.nil ?_
          refine ⟨by kernel_rfl, ?_⟩
          refine thenK_n ?_
          refine KC.cond rfl (fun hc40 => ?_) (fun hc40 => ?_)
          · skip
            refine KC.seq ?_
            refine KC.region ?_
            refine KT.step rfl rfl (K.assign rfl) ?_
            refine KT.nil ?_
            refine thenK_n ?_
            refine KC.ret ?_
            refine blockK_r ?_
            refine thenK_r ?_
            refine thenK_r ?_
            refine blockK_r ?_
            refine thenK_r ?_
            refine ⟨.inl rfl, _, rfl, fin_b ?_⟩
            unfold validS
            have h31 : (decide ((1 : Int) ≤ N[i]) && decide (N[i] ≤ ((2 ^ N.length : Nat) : Int) - 1)) = false := by rw [Bool.not_eq_true'] at hb32; exact hb32
            rw [range_all_false (show i < N.length by omega) (show okS N.length (N.getD i 0) (L.getD i 0) = false from by unfold okS; rw [getD_int (show i < N.length by omega), getD_int (show i < L.length by omega)]; rw [h31]; rfl), Bool.and_false]
          · cases hc40
        · skip
          refine KT.step rfl rfl (K.fieldAddrO rfl Try.fld31_1 Try.size22) ?_
          refine KT.step rfl rfl (K.loadO rfl rfl (by simp) rfl Try.agg22) ?_
          refine KT.step rfl rfl (K.move rfl) ?_
          refine KT.idxI rfl rfl rfl hL rfl (by omega) Try.underlying22 Try.size3 fun cs36 => ?_
          refine KT.step rfl rfl (K.load rfl Try.agg3) ?_
          refine KT.step rfl rfl (K.call3 rfl rfl rfl plainTry_49 (in49 _ _ _)) ?_
          refine KT.step rfl rfl (K.not rfl) ?_
          refine KT.step rfl rfl (K.pick rfl (fun h => by cases h) (fun _ => rfl)) ?_
          refine KT.nil ?_
          refine ⟨by kernel_rfl, ?_⟩
          refine thenK_n ?_
          refine KC.cond rfl (fun hc40 => ?_) (fun hc40 => ?_)
          · skip
            refine KC.seq ?_
            refine KC.region ?_
            refine KT.step rfl rfl (K.assign rfl) ?_
            refine KT.nil ?_
            refine thenK_n ?_
            refine KC.ret ?_
            refine blockK_r ?_
            refine thenK_r ?_
            refine thenK_r ?_
            refine blockK_r ?_
            refine thenK_r ?_
            refine ⟨.inl rfl, _, rfl, fin_b ?_⟩
            unfold validS
            have h39 : (decide ((0 : Int) ≤ L[i]) && decide (L[i] ≤ 63)) = false := by rw [Bool.not_eq_true'] at hc40; exact hc40
            rw [range_all_false (show i < N.length by omega) (show okS N.length (N.getD i 0) (L.getD i 0) = false from by unfold okS; rw [getD_int (show i < N.length by omega), getD_int (show i < L.length by omega)]; rw [h39, Bool.and_false]), Bool.and_false]
          · skip
            refine KC.skip ?_
            refine blockK_n ?_
            refine thenK_n ?_
            refine KC.region ?_
            refine KT.step rfl rfl (K.add rfl rfl (wrap_id (by omega))) ?_
            refine KT.step rfl rfl (K.move rfl) ?_
            refine KT.nil ?_
            refine thenK_n ?_
            refine ⟨i + 1, ⟨by omega, ?_⟩, by omega, rfl, by simp [Go.Vm.look, extK]⟩
            rw [range_all_take, hall, Bool.true_and]
            have h31 : (decide ((1 : Int) ≤ N[i]) && decide (N[i] ≤ ((2 ^ N.length : Nat) : Int) - 1)) = true := by simpa using hb32
            have h39 : (decide ((0 : Int) ≤ L[i]) && decide (L[i] ≤ 63)) = true := by simpa using hc40
            exact (show okS N.length (N.getD i 0) (L.getD i 0) = true from by unfold okS; rw [getD_int (show i < N.length by omega), getD_int (show i < L.length by omega)]; rw [h31, h39]; rfl)
      · skip
        replace hc20 := of_decide_eq_false hc20
        refine KC.exit ?_
        refine thenK_x ?_
        refine thenK_x ?_
        refine blockK_e ?_
        refine thenK_n ?_
        refine KC.seq ?_
        refine KC.region ?_
        refine KT.step rfl rfl (K.assign rfl) ?_
        refine KT.nil ?_
        refine thenK_n ?_
        refine KC.ret ?_
        refine ⟨.inl rfl, _, rfl, fin_b ?_⟩
        have e : i = N.length := by omega
        subst e
        unfold validS
        rw [hall, decide_eq_true (show L.length = N.length by omega), Bool.and_true, Bool.and_true, ← hb0]
        congr 1 <;> exact decide_eq_decide.2 (by omega)
end Go.Proofs.Ytcjcchceeidgkaa

