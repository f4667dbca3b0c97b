import Derived.Test.YtnfnjnaheckdbaaFlH
/-
  Dataflow graphs: Peaks of the program.
-/
namespace Go.Proofs.Ytnfnjnaheckdbaa
open Go.Vm Go.Fl
theorem plainTry_50 : plainFn Try.prog 50 = true := by kernel_rfl
theorem plainTry_25 : plainFn Try.prog 25 = true := by kernel_rfl

/-- The loads on link k. -/
def ldAt (L : List LN) (X : Nat → Nat) (k : Nat) : Int := match L[k]? with | some l => loadZ l X | none => 0
theorem ldAt_get {L : List LN} {X : Nat → Nat} {k : Nat} (hk : k < L.length) : ldAt L X k = loadZ L[k] X := by unfold ldAt; rw [List.getElem?_eq_getElem hk]
theorem ldAt_stock {L : List LN} {k : Nat} (hk : k < L.length) : ldAt L (fun _ => 0) k = (L[k].s : Int) := by rw [ldAt_get hk]; simp [loadZ]
/-- What firings lead to, and the peaks on the way. -/
def pkL (L : List LN) (N : Nat) (q : Nat → Nat) : List Int → (Nat → Nat) → (Nat → Int) → Option ((Nat → Nat) × (Nat → Int))
  | [], X, p => some (X, p)
  | a :: s, X, p => if 0 ≤ a ∧ a < N ∧ fireB L q X a.toNat = true then pkL L N q s (bump X a.toNat) (fun k => max (p k) (ldAt L (bump X a.toNat) k)) else none
theorem pkL_run {L : List LN} {N : Nat} {q : Nat → Nat} : ∀ (s : List Int) (X : Nat → Nat) (p : Nat → Int), (pkL L N q s X p).map (·.1) = runL L N q s X
  | [], _, _ => rfl
  | a :: s, X, p => by
    simp only [pkL, runL]
    split
    · exact pkL_run s _ _
    · rfl
def iX (n : Nat) (f : Nat → Int) : List XV := ((List.range n).map fun k => DI (f k)).map .d
def iD (n : Nat) (f : Nat → Int) : DV := .sl ((List.range n).map fun k => DI (f k)) n (some n)
theorem iX_len (n : Nat) (f : Nat → Int) : (iX n f).length = n := by simp [iX]
theorem iX_get {n : Nat} (f : Nat → Int) {i : Nat} (hi : i < n) : (iX n f)[0 + i]? = some (.d (DI (f i))) := by rw [Nat.zero_add]; simp [iX, hi]
theorem iX_set {n : Nat} (f : Nat → Int) {i : Nat} (hi : i < n) (v : Int) : (iX n f).set (0 + i) (.d (DI v)) = iX n (fun k => if k = i then v else f k) := by
  rw [Nat.zero_add]
  refine List.ext_getElem? fun k => ?_
  rw [List.getElem?_set]
  by_cases hk : k < n
  · by_cases e : i = k
    · subst e; simp [iX, hk]
    · rw [if_neg e]
      simp only [iX, List.getElem?_map, List.getElem?_range hk, Option.map_some, Option.some.injEq, XV.d.injEq]
      rw [if_neg (fun h => e h.symm)]
  · rw [if_neg (by omega), List.getElem?_eq_none (by simp [iX]; omega), List.getElem?_eq_none (by simp [iX]; omega)]
theorem iX_zero (n : Nat) : List.replicate n (.d (.lit (.int .i64 0))) = iX n fun _ => 0 := by
  refine List.ext_getElem? fun k => ?_
  by_cases hk : k < n
  · simp [iX, hk]
  · rw [List.getElem?_eq_none (by simp; omega), List.getElem?_eq_none (by simp [iX]; omega)]
theorem iX_congr {n : Nat} {f g : Nat → Int} (h : ∀ k, k < n → f k = g k) : iX n f = iX n g := by
  unfold iX
  rw [List.map_map, List.map_map]
  exact List.map_congr_left fun k hk => by simp only [Function.comp]; rw [h k (by simpa using hk)]
theorem iD_ints (n : Nat) (f : Nat → Int) : Ints (iD n f) ((List.range n).map f) := by
  have : Ints (.sl ((List.range n).map fun k => DI (f k)) ((List.range n).map f).length (some n)) ((List.range n).map f) := .sl (by simp) fun i c x hc hx => by
    by_cases hi : i < n
    · simp [hi] at hc hx; subst hc hx; rfl
    · simp [hi] at hc
  rw [List.length_map, List.length_range] at this
  exact this
theorem deepen_iX {σ : List VObj} {n k id : Nat} {f : Nat → Int} (h : σ[id]? = some ⟨iX n f, 0⟩) : deepen (freezeAll σ) (k + 2) (.osl id 0 n 1 n true) = some (iD n f) := by
  have := deepen_cells (σ := freezeAll σ) (id := id) (R := n) (ex := true) (k := k) (cells := iX n f) (ds := (List.range n).map fun k => DI (f k)) (by simp [freezeAll, h]) rfl (by simp)
  exact this
/-- What peaks returns. -/
def pkRes (q : Nat → Nat) (len : Nat) : Option ((Nat → Nat) × (Nat → Int)) → DV × Bool
  | some (X, p) => (iD len p, eqB X q)
  | none => (Dnil, false)
theorem pkL_drop {L : List LN} {N : Nat} {q : Nat → Nat} {s : List Int} {i : Nat} (hi : i < s.length) (X : Nat → Nat) (p : Nat → Int) : pkL L N q (s.drop i) X p = if 0 ≤ s[i] ∧ s[i] < N ∧ fireB L q X s[i].toNat = true then pkL L N q (s.drop (i + 1)) (bump X s[i].toNat) (fun k => max (p k) (ldAt L (bump X s[i].toNat) k)) else none := by
  rw [List.drop_eq_getElem_cons hi]; rfl
theorem loadZ_bd {l : LN} {N : Nat} {X : Nat → Nat} (hl : OkL N l) (hX : ∀ i, X i ≤ 60) : -360 ≤ loadZ l X ∧ loadZ l X ≤ 380 := by
  have a1 : l.g * X l.f ≤ 6 * 60 := Nat.mul_le_mul hl.g6 (hX _)
  have a2 : l.k * X l.t ≤ 6 * 60 := Nat.mul_le_mul hl.k6 (hX _)
  have a3 := hl.s
  unfold loadZ
  rw [← Int.natCast_mul, ← Int.natCast_mul]
  omega
set_option maxRecDepth 10000 in
theorem peaks50 {d e : DV} {N : Nat} {L : List LN} {q : Nat → Nat} {s : List Int} (hd : Lks d (L.map LN.z)) (hr : RepG N L q) (hs : Ints e s) (hsl : s.length ≤ 9223372036854775807) :
    DeepCall Try.prog 50 [.agg [DI (N : Nat), d], e, .agg (wN q)] (.tup [(pkRes q L.length (pkL L N q s (fun _ => 0) (ldAt L fun _ => 0))).1, DB (pkRes q L.length (pkL L N q s (fun _ => 0) (ldAt L fun _ => 0))).2]) := by
  have h6 := hr.n6
  have hlen := hr.len
  have hsum := hr.sum
  refine deepCall_K 5 Try.func50 rfl (Nat.le_of_ble_eq_true rfl) fun M W0 => ?_
  refine KC.seq ?_
  refine KC.region ?_
  refine KT.step rfl rfl (K.box rfl) ?_
  refine KT.step rfl rfl (K.box rfl) ?_
  refine KT.step rfl rfl (K.assign rfl) ?_
  refine KT.step rfl rfl (K.assign rfl) ?_
  refine KT.nil ?_
  refine thenK_n ?_
  refine KC.seq ?_
  refine KC.region ?_
  refine KT.step rfl rfl (K.alloc Try.zero75) ?_
  refine KT.nil ?_
  refine thenK_n ?_
  refine KC.seq ?_
  refine KC.region ?_
  refine KT.step rfl rfl (K.fieldAddrO rfl Try.fld31_1 Try.size29) ?_
  refine KT.step rfl rfl (K.loadO rfl rfl (by simp) rfl Try.agg29) ?_
  refine KT.step rfl rfl (K.lenN rfl hd Try.underlying29) ?_
  refine KT.step rfl rfl (K.make rfl rfl (Nat.le_refl _) (by omega) Try.underlying25 Try.one3) ?_
  refine KT.step rfl rfl (K.assign rfl) ?_
  refine KT.nil ?_
  refine thenK_n ?_
  refine KC.seq ?_
  refine KC.seq ?_
  refine KC.region ?_
  refine KT.step rfl rfl (K.fieldAddrO rfl Try.fld31_1 Try.size29) ?_
  refine KT.step rfl rfl (K.loadO rfl rfl (by simp) rfl Try.agg29) ?_
  refine KT.step rfl rfl (K.lenN rfl hd Try.underlying29) ?_
  refine KT.step rfl rfl (K.move rfl) ?_
  refine KT.nil ?_
  refine thenK_n ?_
  refine KC.block ?_
  rw [iX_zero]
  refine KC.loop (fun p : List VObj × Nat => p.1) (fun p => [(1, .d e), (3, .optr 0 0), (5, .optr 1 0), (8, .optr 2 0), (9, .osl 3 0 L.length 1 L.length true), (21, .d d), (22, .d (DI (L.length : Nat))), (23, .d (DI (p.2 : Nat)))]) (fun p => p.2 ≤ L.length ∧ p.1[0]? = some ⟨[.d (DI (N : Nat)), .d d], 0⟩ ∧ p.1[1]? = some ⟨wX q, 0⟩ ∧ p.1[2]? = some ⟨wX fun _ => 0, 0⟩ ∧ p.1[3]? = some ⟨iX L.length fun k => if k < p.2 then ldAt L (fun _ => 0) k else 0, 0⟩) (fun p => L.length - p.2) (_, 0) ⟨Nat.zero_le _, rfl, rfl, rfl, by simp⟩ rfl (by simp [Go.Vm.look, extK, enterK]) ?_
  intro p hp
  obtain ⟨σ0, i⟩ := p
  obtain ⟨hi, y0, y1, y2, y3⟩ := hp
  simp only at hi y0 y1 y2 y3 ⊢
  have g3 := (List.getElem?_eq_some_iff.1 y3).1
  refine KC.seq ?_
  refine KC.region ?_
  refine KT.step rfl rfl (K.lss rfl rfl) ?_
  refine KT.nil ?_
  refine thenK_n ?_
  refine KC.seq ?_
  refine KC.cond rfl (fun hc24 => ?_) (fun hc24 => ?_)
  · skip
    replace hc24 := of_decide_eq_true hc24
    have hil : i < L.length := by omega
    refine KC.skip ?_
    refine thenK_n ?_
    refine KC.seq ?_
    refine KC.block ?_
    refine KC.seq ?_
    refine KC.region ?_
    refine KT.step rfl rfl (K.move rfl) ?_
    refine KT.step rfl rfl (K.idxN rfl hd rfl hil Try.underlying29 Try.size62) ?_
    refine KT.step rfl rfl (K.loadN hil rfl Try.agg62 Try.size62) ?_
    refine KT.step rfl rfl (K.alloc Try.zero62) ?_
    refine KT.step rfl rfl (K.assign rfl) ?_
    refine KT.storeH (cs := (lk5 L[i].z).map XV.d) rfl rfl rfl rfl (List.getElem?_concat_length ..) rfl (Nat.le_refl _) rfl Try.size62 fun σ1 l1 u1 v1 => ?_
    try simp only [List.length_append, List.length_cons, List.length_nil] at l1
    replace u1 := u1.trans (congrArg (fun c => some (VObj.mk c 0)) (splice_all (by rfl)))
    have y0 := (v1 (0) (by omega)).trans ((List.getElem?_append_left (by omega)).trans y0)
    have y1 := (v1 (1) (by omega)).trans ((List.getElem?_append_left (by omega)).trans y1)
    have y2 := (v1 (2) (by omega)).trans ((List.getElem?_append_left (by omega)).trans y2)
    have y3 := (v1 (3) (by omega)).trans ((List.getElem?_append_left (by omega)).trans y3)
    have x1 := u1
    refine KT.nil ?_
    refine thenK_n ?_
    refine KC.region ?_
    refine KT.step rfl rfl (K.move rfl) ?_
    refine KT.step rfl rfl (K.move rfl) ?_
    refine KT.step rfl rfl (K.fieldAddrO rfl Try.fld62_4 Try.size3) ?_
    refine KT.step rfl rfl (K.loadO rfl x1 (by simp) rfl Try.agg3) ?_
    refine KT.step rfl rfl (K.idxO rfl rfl hil Try.underlying25 Try.size3) ?_
    refine KT.storeG rfl rfl rfl rfl y3 (by rw [iX_len]; omega) rfl rfl Try.size3 fun σ2 l2 u2 v2 => ?_
    replace y0 := (v2 0 (by omega)).trans y0
    replace y1 := (v2 1 (by omega)).trans y1
    replace y2 := (v2 2 (by omega)).trans y2
    refine KT.nil ?_
    refine blockK_n ?_
    refine thenK_n ?_
    refine KC.region ?_
    refine KT.step rfl rfl (K.add rfl rfl (wrap_id (by omega))) ?_
    refine KT.step rfl rfl (K.move rfl) ?_
    refine KT.nil ?_
    refine thenK_n ?_
    refine ⟨(σ2, i + 1), ⟨by simp only; omega, y0, y1, y2, ?_⟩, by simp only; omega, rfl, by simp [Go.Vm.look, extK]⟩
    refine u2.trans (congrArg (fun c => some (VObj.mk c 0)) ((iX_set _ hil _).trans (iX_congr fun k hk => ?_)))
    by_cases e : k = i
    · subst e; rw [if_pos rfl, if_pos (by omega), ldAt_stock hil]; rfl
    · rw [if_neg e]
      by_cases h2 : k < i
      · rw [if_pos h2, if_pos (by omega)]
      · rw [if_neg h2, if_neg (by omega)]
  · skip
    replace hc24 := of_decide_eq_false hc24
    obtain rfl : i = L.length := by omega
    refine KC.exit ?_
    refine thenK_x ?_
    refine thenK_x ?_
    refine blockK_e ?_
    refine thenK_n ?_
    refine KC.seq ?_
    refine KC.seq ?_
    refine KC.region ?_
    refine KT.step rfl rfl (K.move rfl) ?_
    refine KT.step rfl rfl (K.len rfl hs Try.underlying25) ?_
    refine KT.step rfl rfl (K.move rfl) ?_
    refine KT.nil ?_
    refine thenK_n ?_
    refine KC.block ?_
    have y3b : σ0[3]? = some ⟨iX L.length (ldAt L fun _ => 0), 0⟩ := y3.trans (congrArg (fun c => some (VObj.mk c 0)) (iX_congr fun k hk => if_pos (by omega)))
    refine KC.loop (fun p : List VObj × (Nat → Nat) × (Nat → Int) × Nat => p.1) (fun p => [(3, .optr 0 0), (5, .optr 1 0), (8, .optr 2 0), (9, .osl 3 0 L.length 1 L.length true), (34, .d e), (35, .d (DI (s.length : Nat))), (36, .d (DI (p.2.2.2 : Nat)))]) (fun p => p.2.2.2 ≤ s.length ∧ p.1[0]? = some ⟨[.d (DI (N : Nat)), .d d], 0⟩ ∧ p.1[1]? = some ⟨wX q, 0⟩ ∧ p.1[2]? = some ⟨wX p.2.1, 0⟩ ∧ p.1[3]? = some ⟨iX L.length p.2.2.1, 0⟩ ∧ (∀ i, p.2.1 i ≤ q i) ∧ pkL L N q s (fun _ => 0) (ldAt L fun _ => 0) = pkL L N q (s.drop p.2.2.2) p.2.1 p.2.2.1) (fun p => s.length - p.2.2.2) (σ0, (fun _ => 0), (ldAt L fun _ => 0), 0) ⟨Nat.zero_le _, y0, y1, y2, y3b, fun i => Nat.zero_le _, rfl⟩ rfl (by simp [Go.Vm.look, extK]) ?_
    clear y0 y1 y2 y3 y3b g3
    intro p hp
    obtain ⟨σ0, X0, pk0, i⟩ := p
    obtain ⟨hi, y0, y1, y2, y3, hXq0, hpk⟩ := hp
    simp only at hi y0 y1 y2 y3 hXq0 hpk ⊢
    have g3 := (List.getElem?_eq_some_iff.1 y3).1
    refine KC.seq ?_
    refine KC.region ?_
    refine KT.step rfl rfl (K.lss rfl rfl) ?_
    refine KT.nil ?_
    refine thenK_n ?_
    refine KC.seq ?_
    refine KC.cond rfl (fun hc37 => ?_) (fun hc37 => ?_)
    · skip
      replace hc37 := of_decide_eq_true hc37
      have hil : i < s.length := by omega
      refine KC.skip ?_
      refine thenK_n ?_
      refine KC.seq ?_
      refine KC.block ?_
      refine KC.seq ?_
      refine KC.region ?_
      refine KT.idxI rfl rfl rfl (by assumption) rfl (by omega) Try.underlying25 Try.size3 fun cs38 => ?_
      refine KT.step rfl rfl (K.load rfl Try.agg3) ?_
      refine KT.step rfl rfl (K.assign rfl) ?_
      refine KT.nil ?_
      refine thenK_n ?_
      refine KC.seq ?_
      refine KC.seq ?_
      refine KC.region ?_
      refine KT.step rfl rfl (K.move rfl) ?_
      refine KT.step rfl rfl (K.lss rfl rfl) ?_
      refine KT.step rfl rfl (K.move rfl) ?_
      refine KT.bcase (fun hb42 => ?_) (fun hb42 => ?_)
      · skip
        replace hb42 := of_decide_eq_true hb42
        refine KT.skip rfl rfl ?_
        refine KT.skip rfl rfl ?_
        refine KT.skip rfl rfl ?_
        refine KT.skip rfl rfl ?_
        refine KT.step rfl rfl (K.pick rfl (fun _ => rfl) (fun h => by cases h)) ?_
        refine KT.step rfl rfl (K.move rfl) ?_
        refine KT.skip rfl rfl ?_
        refine KT.skip rfl rfl ?_
        refine KT.skip rfl rfl ?_
        refine KT.skip rfl rfl ?_
        refine KT.skip rfl rfl ?_
        refine KT.skip rfl rfl ?_
        refine KT.step rfl rfl (K.pick rfl (fun _ => rfl) (fun h => by cases h)) ?_
        refine KT.nil ?_
        refine thenK_n ?_
        refine KC.cond rfl (fun hc55 => ?_) (fun hc55 => ?_)
        · skip
          refine KC.seq ?_
          refine KC.region ?_
          refine KT.step rfl rfl (K.assign rfl) ?_
          refine KT.step rfl rfl (K.assign rfl) ?_
          refine KT.nil ?_
          refine thenK_n ?_
          refine KC.ret ?_
          refine thenK_r ?_
          refine blockK_r ?_
          refine thenK_r ?_
          refine thenK_r ?_
          refine blockK_r ?_
          refine thenK_r ?_
          rw [pkL_drop hil, if_neg (fun h => by omega)] at hpk
          rw [hpk]
          exact ⟨.inl rfl, _, rfl, rfl⟩
        · cases hc55
      · skip
        replace hb42 := of_decide_eq_false hb42
        refine KT.step rfl rfl (K.move rfl) ?_
        refine KT.step rfl rfl (K.fieldAddrO rfl Try.fld31_0 Try.size3) ?_
        refine KT.step rfl rfl (K.loadO rfl y0 (by simp) rfl Try.agg3) ?_
        refine KT.step rfl rfl (K.geq rfl rfl) ?_
        refine KT.step rfl rfl (K.pick rfl (fun h => by cases h) (fun _ => rfl)) ?_
        refine KT.step rfl rfl (K.move rfl) ?_
        refine KT.bcase (fun hb48 => ?_) (fun hb48 => ?_)
        · skip
          replace hb48 := of_decide_eq_true hb48
          refine KT.skip rfl rfl ?_
          refine KT.skip rfl rfl ?_
          refine KT.skip rfl rfl ?_
          refine KT.skip rfl rfl ?_
          refine KT.skip rfl rfl ?_
          refine KT.skip rfl rfl ?_
          refine KT.step rfl rfl (K.pick rfl (fun _ => rfl) (fun h => by cases h)) ?_
          refine KT.nil ?_
          refine thenK_n ?_
          refine KC.cond rfl (fun hc55 => ?_) (fun hc55 => ?_)
          · skip
            refine KC.seq ?_
            refine KC.region ?_
            refine KT.step rfl rfl (K.assign rfl) ?_
            refine KT.step rfl rfl (K.assign rfl) ?_
            refine KT.nil ?_
            refine thenK_n ?_
            refine KC.ret ?_
            refine thenK_r ?_
            refine blockK_r ?_
            refine thenK_r ?_
            refine thenK_r ?_
            refine blockK_r ?_
            refine thenK_r ?_
            rw [pkL_drop hil, if_neg (fun h => by omega)] at hpk
            rw [hpk]
            exact ⟨.inl rfl, _, rfl, rfl⟩
          · cases hc55
        · skip
          replace hb48 := of_decide_eq_false hb48
          obtain ⟨m, hm⟩ := Int.eq_ofNat_of_zero_le (show 0 ≤ s[i] by omega)
          rw [hm]
          rw [hm] at hb48
          refine KT.step rfl rfl (K.loadOA ([DI (N : Nat), d]) rfl y0 (by decide) Try.agg31 Try.size31 rfl) ?_
          refine KT.step rfl rfl (K.move rfl) ?_
          refine KT.step rfl rfl (K.loadOA (wN X0) rfl y2 (by decide) Try.agg75 Try.size75 rfl) ?_
          refine KT.step rfl rfl (K.loadOA (wN q) rfl y1 (by decide) Try.agg75 Try.size75 rfl) ?_
          refine KT.step rfl rfl (K.call4 rfl rfl rfl rfl plainTry_78 (fires78 hd hr (fun i => Nat.le_trans (hXq0 i) (hr.le i)) (by omega))) ?_
          refine KT.step rfl rfl (K.not rfl) ?_
          refine KT.step rfl rfl (K.pick rfl (fun h => by cases h) (fun _ => rfl)) ?_
          refine KT.nil ?_
          refine thenK_n ?_
          refine KC.cond rfl (fun hc55 => ?_) (fun hc55 => ?_)
          · skip
            refine KC.seq ?_
            refine KC.region ?_
            refine KT.step rfl rfl (K.assign rfl) ?_
            refine KT.step rfl rfl (K.assign rfl) ?_
            refine KT.nil ?_
            refine thenK_n ?_
            refine KC.ret ?_
            refine thenK_r ?_
            refine blockK_r ?_
            refine thenK_r ?_
            refine thenK_r ?_
            refine blockK_r ?_
            refine thenK_r ?_
            rw [pkL_drop hil, if_neg (fun h => by rw [hm, Int.toNat_natCast] at h; rw [h.2.2] at hc55; cases hc55)] at hpk
            rw [hpk]
            exact ⟨.inl rfl, _, rfl, rfl⟩
          · skip
            have hfire : fireB L q X0 m = true := by simpa using hc55
            have hmN : m < N := by omega
            refine KC.skip ?_
            refine thenK_n ?_
            refine KC.seq ?_
            refine KC.region ?_
            refine KT.step rfl rfl (K.move rfl) ?_
            refine KT.step rfl rfl (K.idxA rfl rfl (by omega) Try.underlying75 Try.size3) ?_
            refine KT.step rfl rfl (K.loadO rfl y2 (by simp) (wX_get X0 (by omega)) Try.agg3) ?_
            refine KT.step rfl rfl (K.add rfl rfl (oneN (by have := hXq0 m; have := hr.le m; omega))) ?_
            refine KT.step rfl rfl (K.idxA rfl rfl (by omega) Try.underlying75 Try.size3) ?_
            refine KT.storeG rfl rfl rfl rfl y2 (by rw [wX_len]; omega) rfl rfl Try.size3 fun σ1 l1 u1 v1 => ?_
            replace y0 := (v1 0 (by omega)).trans y0
            replace y1 := (v1 1 (by omega)).trans y1
            replace y3 := (v1 3 (by omega)).trans y3
            rw [wX_bumpN X0 (by omega)] at u1
            replace y2 := u1
            refine KT.nil ?_
            refine thenK_n ?_
            refine KC.seq ?_
            refine KC.region ?_
            refine KT.step rfl rfl (K.fieldAddrO rfl Try.fld31_1 Try.size29) ?_
            refine KT.step rfl rfl (K.loadO rfl y0 (by simp) rfl Try.agg29) ?_
            refine KT.step rfl rfl (K.lenN rfl hd Try.underlying29) ?_
            refine KT.step rfl rfl (K.move rfl) ?_
            refine KT.nil ?_
            refine thenK_n ?_
            refine KC.block ?_
            have hf2 := fireB_iff.1 hfire
            have hXb : ∀ i, bump X0 m i ≤ q i := fun i => by
              unfold bump; split
              · rename_i e; subst e; omega
              · exact hXq0 i
            refine KC.loop (fun p : List VObj × Nat => p.1) (fun p => [(3, .optr 0 0), (5, .optr 1 0), (8, .optr 2 0), (9, .osl 3 0 L.length 1 L.length true), (34, .d e), (35, .d (DI (s.length : Nat))), (36, .d (DI (i : Nat))), (62, .d d), (63, .d (DI (L.length : Nat))), (64, .d (DI (p.2 : Nat)))]) (fun p => p.2 ≤ L.length ∧ p.1[0]? = some ⟨[.d (DI (N : Nat)), .d d], 0⟩ ∧ p.1[1]? = some ⟨wX q, 0⟩ ∧ p.1[2]? = some ⟨wX (bump X0 m), 0⟩ ∧ p.1[3]? = some ⟨iX L.length fun k => if k < p.2 then max (pk0 k) (ldAt L (bump X0 m) k) else pk0 k, 0⟩) (fun p => L.length - p.2) (σ1, 0) ⟨Nat.zero_le _, y0, y1, y2, by simpa using y3⟩ rfl (by simp [Go.Vm.look, extK]) ?_
            clear y0 y1 y2 y3 g3 u1 v1 l1
            intro p hp
            obtain ⟨σ0, k⟩ := p
            obtain ⟨hk, y0, y1, y2, y3⟩ := hp
            simp only at hk y0 y1 y2 y3 ⊢
            have g3 := (List.getElem?_eq_some_iff.1 y3).1
            refine KC.seq ?_
            refine KC.region ?_
            refine KT.step rfl rfl (K.lss rfl rfl) ?_
            refine KT.nil ?_
            refine thenK_n ?_
            refine KC.seq ?_
            refine KC.cond rfl (fun hc65 => ?_) (fun hc65 => ?_)
            · skip
              replace hc65 := of_decide_eq_true hc65
              have hkl : k < L.length := by omega
              have ok := hr.ok _ (List.getElem_mem hkl)
              refine KC.skip ?_
              refine thenK_n ?_
              refine KC.seq ?_
              refine KC.block ?_
              refine KC.seq ?_
              refine KC.region ?_
              refine KT.step rfl rfl (K.move rfl) ?_
              refine KT.step rfl rfl (K.idxN rfl hd rfl hkl Try.underlying29 Try.size62) ?_
              refine KT.step rfl rfl (K.loadN hkl rfl Try.agg62 Try.size62) ?_
              refine KT.step rfl rfl (K.alloc Try.zero62) ?_
              refine KT.step rfl rfl (K.assign rfl) ?_
              refine KT.storeH (cs := (lk5 L[k].z).map XV.d) rfl rfl rfl rfl (List.getElem?_concat_length ..) rfl (Nat.le_refl _) rfl Try.size62 fun σ3 l3 u3 v3 => ?_
              try simp only [List.length_append, List.length_cons, List.length_nil] at l3
              replace u3 := u3.trans (congrArg (fun c => some (VObj.mk c 0)) (splice_all (by rfl)))
              have y0 := (v3 (0) (by omega)).trans ((List.getElem?_append_left (by omega)).trans y0)
              have y1 := (v3 (1) (by omega)).trans ((List.getElem?_append_left (by omega)).trans y1)
              have y2 := (v3 (2) (by omega)).trans ((List.getElem?_append_left (by omega)).trans y2)
              have y3 := (v3 (3) (by omega)).trans ((List.getElem?_append_left (by omega)).trans y3)
              have x3 := u3
              refine KT.nil ?_
              refine thenK_n ?_
              refine KC.draw Try.mixed ?_
              refine KT.step rfl rfl (K.move rfl) ?_
              refine KT.step rfl rfl (K.move rfl) ?_
              refine KT.step rfl rfl (K.move rfl) ?_
              refine KT.step rfl rfl (K.move rfl) ?_
              refine KT.step rfl rfl (K.idxO rfl rfl hkl Try.underlying25 Try.size3) ?_
              refine KT.step rfl rfl (K.loadO rfl y3 (by simp) (iX_get _ hkl) Try.agg3) ?_
              refine KT.step rfl rfl (K.loadOA (lk5 L[k].z) rfl x3 (by decide) Try.agg62 Try.size62 rfl) ?_
              refine KT.step rfl rfl (K.loadOA (wN (bump X0 m)) rfl y2 (by decide) Try.agg75 Try.size75 rfl) ?_
              refine KT.step rfl rfl (K.call2 rfl rfl plainTry_79 (loads79 h6 ok (fun i => Nat.le_trans (hXb i) (hr.le i)))) ?_
              refine KT.step rfl rfl (K.max2 rfl rfl) ?_
              refine KT.step rfl rfl (K.idxO rfl rfl hkl Try.underlying25 Try.size3) ?_
              refine KT.storeG rfl rfl rfl rfl y3 (by rw [iX_len]; omega) rfl rfl Try.size3 fun σ4 l4 u4 v4 => ?_
              replace y0 := (v4 0 (by omega)).trans y0
              replace y1 := (v4 1 (by omega)).trans y1
              replace y2 := (v4 2 (by omega)).trans y2
              refine KT.nil ?_
              refine ⟨by kernel_rfl, ?_⟩
              refine blockK_n ?_
              refine thenK_n ?_
              refine KC.region ?_
              refine KT.step rfl rfl (K.add rfl rfl (wrap_id (by omega))) ?_
              refine KT.step rfl rfl (K.move rfl) ?_
              refine KT.nil ?_
              refine thenK_n ?_
              refine ⟨(σ4, k + 1), ⟨by simp only; omega, y0, y1, y2, ?_⟩, by simp only; omega, rfl, by simp [Go.Vm.look, extK]⟩
              refine u4.trans (congrArg (fun c => some (VObj.mk c 0)) ((iX_set _ hkl _).trans (iX_congr fun j hj => ?_)))
              by_cases e : j = k
              · subst e; rw [if_pos rfl, if_neg (Nat.lt_irrefl _), if_pos (Nat.lt_succ_self _), ldAt_get hkl]
              · rw [if_neg e]
                by_cases h2 : j < k
                · rw [if_pos h2, if_pos (by omega)]
                · rw [if_neg h2, if_neg (by omega)]
            · skip
              replace hc65 := of_decide_eq_false hc65
              obtain rfl : k = L.length := by omega
              refine KC.exit ?_
              refine thenK_x ?_
              refine thenK_x ?_
              refine blockK_e ?_
              refine blockK_n ?_
              refine thenK_n ?_
              refine KC.region ?_
              refine KT.step rfl rfl (K.add rfl rfl (wrap_id (by omega))) ?_
              refine KT.step rfl rfl (K.move rfl) ?_
              refine KT.nil ?_
              refine thenK_n ?_
              rw [pkL_drop hil, if_pos (by rw [hm, Int.toNat_natCast]; exact ⟨by omega, by omega, hfire⟩), hm, Int.toNat_natCast] at hpk
              refine ⟨(σ0, bump X0 m, (fun k => max (pk0 k) (ldAt L (bump X0 m) k)), i + 1), ⟨by simp only; omega, y0, y1, y2, ?_, hXb, hpk⟩, by simp only; omega, rfl, by simp [Go.Vm.look, extK]⟩
              exact y3.trans (congrArg (fun c => some (VObj.mk c 0)) (iX_congr fun j hj => if_pos (by omega)))
    · skip
      replace hc37 := of_decide_eq_false hc37
      refine KC.exit ?_
      refine thenK_x ?_
      refine thenK_x ?_
      refine blockK_e ?_
      refine thenK_n ?_
      refine KC.seq ?_
      refine KC.draw Try.mixed ?_
      refine KT.step rfl rfl (K.move rfl) ?_
      refine KT.step rfl rfl (K.loadOA (wN X0) rfl y2 (by decide) Try.agg75 Try.size75 rfl) ?_
      refine KT.step rfl rfl (K.loadOA (wN q) rfl y1 (by decide) Try.agg75 Try.size75 rfl) ?_
      refine KT.step rfl rfl (K.cntEq rfl rfl) ?_
      refine KT.step rfl rfl (K.assign rfl) ?_
      refine KT.step rfl rfl (K.assign rfl) ?_
      refine KT.nil ?_
      refine ⟨by kernel_rfl, ?_⟩
      refine thenK_n ?_
      refine KC.ret ?_
      obtain rfl : i = s.length := by omega
      rw [List.drop_length] at hpk
      have e : pkL L N q s (fun _ => 0) (ldAt L fun _ => 0) = some (X0, pk0) := hpk
      rw [e]
      exact ⟨.inl rfl, _, rfl, deepen_tup2 (deepen_iX y3)⟩
end Go.Proofs.Ytnfnjnaheckdbaa

