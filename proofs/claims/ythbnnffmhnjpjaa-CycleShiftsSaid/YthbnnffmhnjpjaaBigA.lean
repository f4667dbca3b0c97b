import Derived.Test.YthbnnffmhnjpjaaVmX
/-
  Whole numbers as digits to the base 2^32: the values of sums, differences, products.
-/
namespace Go.Big

abbrev B : Nat := 4294967296
def val : List Nat → Nat
  | [] => 0
  | d :: ds => d + B * val ds
def Dig (l : List Nat) : Prop := ∀ d ∈ l, d < B
/-- No zero at the end. -/
def Can (l : List Nat) : Prop := ∀ h : 0 < l.length, l[l.length - 1] ≠ 0

theorem val_append : ∀ (l r : List Nat), val (l ++ r) = val l + B ^ l.length * val r
  | [], r => by simp [val]
  | d :: l, r => by
    have := val_append l r
    simp only [List.cons_append, val, this, List.length_cons, Nat.pow_succ]
    grind
theorem val_lt : ∀ {l : List Nat}, Dig l → val l < B ^ l.length
  | [], _ => by simp [val]
  | d :: l, h => by
    have ih := val_lt (l := l) fun x hx => h x (by simp [hx])
    have h0 := h d (by simp)
    simp only [val, List.length_cons, Nat.pow_succ]
    have : B * val l + B ≤ B ^ l.length * B := by
      have : (val l + 1) * B ≤ B ^ l.length * B := Nat.mul_le_mul_right _ ih
      grind
    omega
theorem Dig.take {l : List Nat} (h : Dig l) (k : Nat) : Dig (l.take k) := fun d hd => h d (List.mem_of_mem_take hd)
theorem Dig.drop {l : List Nat} (h : Dig l) (k : Nat) : Dig (l.drop k) := fun d hd => h d (List.mem_of_mem_drop hd)
theorem pow_pos' (k : Nat) : 0 < B ^ k := Nat.pow_pos (by decide)
theorem val_split (l : List Nat) (i : Nat) (h : i < l.length) : val l = val (l.take i) + B ^ i * (l[i] + B * val (l.drop (i + 1))) := by
  have e : l = l.take i ++ (l[i] :: l.drop (i + 1)) := by rw [← List.drop_eq_getElem_cons h, List.take_append_drop]
  conv => lhs; rw [e]
  rw [val_append, List.length_take, Nat.min_eq_left (by omega)]
  rfl
theorem val_ge {l : List Nat} (h : Can l) (h0 : 0 < l.length) : B ^ (l.length - 1) ≤ val l := by
  rw [val_split l (l.length - 1) (by omega)]
  have := h h0
  have h1 : 1 ≤ l[l.length - 1] := by omega
  have : B ^ (l.length - 1) * 1 ≤ B ^ (l.length - 1) * (l[l.length - 1] + B * val (l.drop (l.length - 1 + 1))) := Nat.mul_le_mul_left _ (by omega)
  omega
theorem len_le {l : List Nat} (h : Can l) {k : Nat} (hk : val l < B ^ k) : l.length ≤ k := by
  rcases Nat.lt_or_ge k l.length with h1 | h1
  · have h2 := val_ge h (by omega)
    have h3 : B ^ k ≤ B ^ (l.length - 1) := Nat.pow_le_pow_right (by decide) (by omega)
    omega
  · exact h1
theorem len_eq {l r : List Nat} (hl : Can l) (hr : Can r) (dl : Dig l) (dr : Dig r) (h : val l = val r) : l.length = r.length := by
  have h1 := len_le hl (k := r.length) (by rw [h]; exact val_lt dr)
  have h2 := len_le hr (k := l.length) (by rw [← h]; exact val_lt dl)
  omega
theorem val_inj : ∀ {l r : List Nat}, l.length = r.length → Dig l → Dig r → val l = val r → l = r
  | [], [], _, _, _, _ => rfl
  | [], _ :: _, h, _, _, _ => by simp at h
  | _ :: _, [], h, _, _, _ => by simp at h
  | a :: l, b :: r, h, hl, hr, he => by
    have h1 := hl a (by simp)
    have h2 := hr b (by simp)
    simp only [val] at he
    have : a = b ∧ val l = val r := by simp only [B] at h1 h2 he; omega
    rw [this.1, val_inj (by simpa using h) (fun x hx => hl x (by simp [hx])) (fun x hx => hr x (by simp [hx])) this.2]
/-- Where the first digits from the top differ. -/
theorem val_cmp {a b : List Nat} (da : Dig a) (db : Dig b) (hl : a.length = b.length) {i : Nat} (hi : i < a.length) (hs : a.drop (i + 1) = b.drop (i + 1)) (hne : a[i] ≠ b[i]'(by omega)) : (val b < val a) ↔ b[i]'(by omega) < a[i] := by
  rw [val_split a i hi, val_split b i (by omega), hs]
  have h1 := val_lt (da.take i)
  have h2 := val_lt (db.take i)
  rw [List.length_take, Nat.min_eq_left (by omega)] at h1 h2
  generalize val (b.drop (i + 1)) = s
  generalize val (a.take i) = p at h1 ⊢
  generalize val (b.take i) = q at h2 ⊢
  generalize a[i] = x at hne ⊢
  generalize b[i]'(by omega) = y at hne ⊢
  have e1 : B ^ i * (x + B * s) = B ^ i * x + B ^ i * (B * s) := Nat.mul_add _ _ _
  have e2 : B ^ i * (y + B * s) = B ^ i * y + B ^ i * (B * s) := Nat.mul_add _ _ _
  rw [e1, e2]
  generalize B ^ i * (B * s) = t
  constructor
  · intro h
    rcases Nat.lt_or_ge y x with h3 | h3
    · exact h3
    · exfalso
      have h4 : x + 1 ≤ y := by omega
      have h5 : B ^ i * (x + 1) ≤ B ^ i * y := Nat.mul_le_mul_left _ h4
      rw [Nat.mul_add] at h5
      omega
  · intro h
    have h5 : B ^ i * (y + 1) ≤ B ^ i * x := Nat.mul_le_mul_left _ h
    rw [Nat.mul_add] at h5
    omega
/-- Zeros at the end do not count. -/
theorem val_trim {l : List Nat} {k : Nat} (hk : k ≤ l.length) (h : ∀ i (hi : i < l.length), k ≤ i → l[i] = 0) : val (l.take k) = val l := by
  have e : l = l.take k ++ l.drop k := (List.take_append_drop k l).symm
  have z : ∀ (r : List Nat), (∀ x ∈ r, x = 0) → val r = 0 := by
    intro r
    induction r with
    | nil => intro _; rfl
    | cons a r ih => intro hr; simp only [val]; rw [hr a (by simp), ih fun x hx => hr x (by simp [hx])]; rfl
  conv => rhs; rw [e]
  rw [val_append, z (l.drop k) (fun x hx => by
    obtain ⟨i, hi, rfl⟩ := List.getElem_of_mem hx
    rw [List.getElem_drop]
    rw [List.length_drop] at hi
    exact h (k + i) (by omega) (by omega))]
  simp

/-- The sum of a digit function. -/
def valF (o : Nat → Nat) : Nat → Nat
  | 0 => 0
  | n + 1 => valF o n + o n * B ^ n
theorem valF_congr {o p : Nat → Nat} : ∀ n, (∀ i, i < n → o i = p i) → valF o n = valF p n
  | 0, _ => rfl
  | n + 1, h => by simp only [valF]; rw [valF_congr n (fun i hi => h i (by omega)), h n (by omega)]
theorem valF_list (o : Nat → Nat) : ∀ n, val ((List.range n).map o) = valF o n
  | 0 => rfl
  | n + 1 => by rw [List.range_succ, List.map_append, val_append, valF_list o n]; simp [valF, val, Nat.mul_comm]
theorem valF_zero : ∀ n, valF (fun _ => 0) n = 0
  | 0 => rfl
  | n + 1 => by simp [valF, valF_zero n]
def upd (o : Nat → Nat) (j v : Nat) : Nat → Nat := fun k => if k = j then v else o k
theorem valF_upd (o : Nat → Nat) (j v : Nat) : ∀ n, j < n → valF (upd o j v) n + o j * B ^ j = valF o n + v * B ^ j
  | 0, h => by omega
  | n + 1, h => by
    simp only [valF]
    by_cases e : j = n
    · subst e
      have : valF (upd o j v) j = valF o j := valF_congr j fun i hi => by simp [upd, show i ≠ j by omega]
      rw [this]; simp only [upd, if_pos]; omega
    · have ih := valF_upd o j v n (by omega)
      have : upd o j v n = o n := by simp [upd, show n ≠ j by omega]
      rw [this]; omega
theorem val_valF (l : List Nat) : valF (fun i => l.getD i 0) l.length = val l := by
  rw [← valF_list]
  congr 1
  refine List.ext_getElem? fun i => ?_
  by_cases hi : i < l.length
  · simp [hi]
  · rw [List.getElem?_eq_none (by simp; omega), List.getElem?_eq_none (by omega)]
theorem valF_more (l : List Nat) : ∀ n, l.length ≤ n → valF (fun i => l.getD i 0) n = val l
  | n, h => by
    obtain ⟨k, rfl⟩ := Nat.exists_eq_add_of_le h
    clear h
    induction k with
    | zero => exact val_valF l
    | succ k ih =>
      rw [← Nat.add_assoc]
      simp only [valF]
      rw [ih]; simp [show ¬ l.length + k < l.length by omega]

/-- The carry of a sum, and its digits. -/
def car (a b : List Nat) : Nat → Nat
  | 0 => 0
  | i + 1 => (car a b i + a.getD i 0 + b.getD i 0) / B
def sumDig (a b : List Nat) (i : Nat) : Nat := (car a b i + a.getD i 0 + b.getD i 0) % B
theorem getD_lt {l : List Nat} (h : Dig l) (i : Nat) : l.getD i 0 < B := by
  by_cases hi : i < l.length
  · rw [show l.getD i 0 = l[i] by simp [hi]]; exact h _ (List.getElem_mem hi)
  · simp [hi]
theorem car_le {a b : List Nat} (da : Dig a) (db : Dig b) : ∀ i, car a b i ≤ 1
  | 0 => by simp [car]
  | i + 1 => by
    have := car_le da db i
    have h1 := getD_lt da i
    have h2 := getD_lt db i
    simp only [car, B] at h1 h2 ⊢
    omega
theorem sum_val (a b : List Nat) : ∀ n, valF (sumDig a b) n + car a b n * B ^ n = valF (fun i => a.getD i 0) n + valF (fun i => b.getD i 0) n
  | 0 => by simp [valF, car]
  | n + 1 => by
    have ih := sum_val a b n
    simp only [valF, car]
    have e : sumDig a b n + B * ((car a b n + a.getD n 0 + b.getD n 0) / B) = car a b n + a.getD n 0 + b.getD n 0 := Nat.mod_add_div _ _
    generalize sumDig a b n = d at e ⊢
    generalize (car a b n + a.getD n 0 + b.getD n 0) / B = c at e ⊢
    have e2 : d * B ^ n + c * B ^ (n + 1) = (car a b n + a.getD n 0 + b.getD n 0) * B ^ n := by rw [← e, Nat.pow_succ]; grind
    have e3 : (car a b n + a.getD n 0 + b.getD n 0) * B ^ n = car a b n * B ^ n + a.getD n 0 * B ^ n + b.getD n 0 * B ^ n := by grind
    omega

/-- The borrow of a difference, and its digits. -/
def bor (a b : List Nat) : Nat → Nat
  | 0 => 0
  | i + 1 => ((a.getD i 0 + (2 ^ 64 - bor a b i) + (2 ^ 64 - b.getD i 0)) % 2 ^ 64) / 2 ^ 63
def minDig (a b : List Nat) (i : Nat) : Nat := ((a.getD i 0 + (2 ^ 64 - bor a b i) + (2 ^ 64 - b.getD i 0)) % 2 ^ 64) % B
theorem bor_le {a b : List Nat} (da : Dig a) (db : Dig b) : ∀ i, bor a b i ≤ 1
  | 0 => by simp [bor]
  | i + 1 => by simp only [bor]; omega
theorem minus_val {a b : List Nat} (da : Dig a) (db : Dig b) : ∀ n, valF (minDig a b) n + valF (fun i => b.getD i 0) n = valF (fun i => a.getD i 0) n + bor a b n * B ^ n
  | 0 => by simp [valF, bor]
  | n + 1 => by
    have ih := minus_val da db n
    have h1 := getD_lt da n
    have h2 := getD_lt db n
    have h3 := bor_le da db n
    simp only [valF]
    have e : minDig a b n + b.getD n 0 + bor a b n = a.getD n 0 + B * bor a b (n + 1) := by
      simp only [minDig, bor]
      generalize bor a b n = r at h3 ⊢
      generalize a.getD n 0 = x at h1 ⊢
      generalize b.getD n 0 = y at h2 ⊢
      simp only [B] at h1 h2 ⊢
      omega
    generalize minDig a b n = d at e ⊢
    generalize bor a b (n + 1) = c at e ⊢
    have e2 : (d + b.getD n 0 + bor a b n) * B ^ n = (a.getD n 0 + B * c) * B ^ n := by rw [e]
    have e3 : (d + b.getD n 0 + bor a b n) * B ^ n = d * B ^ n + b.getD n 0 * B ^ n + bor a b n * B ^ n := by grind
    have e4 : (a.getD n 0 + B * c) * B ^ n = a.getD n 0 * B ^ n + c * B ^ (n + 1) := by rw [Nat.pow_succ]; grind
    omega
theorem minus_full {a b : List Nat} (da : Dig a) (db : Dig b) (hl : b.length ≤ a.length) (hv : val b ≤ val a) : valF (minDig a b) a.length = val a - val b := by
  have h := minus_val da db a.length
  rw [val_valF, valF_more b a.length hl] at h
  have h1 := bor_le da db a.length
  have h2 : valF (minDig a b) a.length < B ^ a.length := by
    rw [← valF_list]
    have := val_lt (l := (List.range a.length).map (minDig a b)) fun d hd => by
      obtain ⟨i, _, rfl⟩ := List.mem_map.1 hd
      exact Nat.mod_lt _ (by decide)
    simpa using this
  rcases Nat.lt_or_ge 0 (bor a b a.length) with h3 | h3
  · have : bor a b a.length = 1 := by omega
    rw [this] at h; omega
  · have : bor a b a.length = 0 := by omega
    rw [this] at h; omega

/-- A row of a product. -/
def inn (x : Nat) (b : List Nat) (i : Nat) : Nat → Nat × (Nat → Nat) → Nat × (Nat → Nat)
  | 0, s => s
  | k + 1, s => let r := inn x b i k s; let t := r.1 + (r.2 (i + k) + x * b.getD k 0); (t / B, upd r.2 (i + k) (t % B))
def rowT (x : Nat) (b : List Nat) (i : Nat) (o : Nat → Nat) : Nat → Nat := upd (inn x b i b.length (0, o)).2 (i + b.length) (inn x b i b.length (0, o)).1
def outT (a b : List Nat) : Nat → (Nat → Nat)
  | 0 => fun _ => 0
  | i + 1 => rowT (a.getD i 0) b i (outT a b i)
theorem inn_facts {x : Nat} {b : List Nat} {i : Nat} {o : Nat → Nat} (hx : x < B) (db : Dig b) (ho : ∀ j, o j < B) : ∀ k, (inn x b i k (0, o)).1 < B ∧ (∀ j, (inn x b i k (0, o)).2 j < B) ∧ (∀ j, i + k ≤ j → (inn x b i k (0, o)).2 j = o j) ∧
    ∀ n, i + k ≤ n → valF (inn x b i k (0, o)).2 n + (inn x b i k (0, o)).1 * B ^ (i + k) = valF o n + x * valF (fun q => b.getD q 0) k * B ^ i
  | 0 => by simp [inn, valF, ho]
  | k + 1 => by
    obtain ⟨h1, h2, h3, h4⟩ := inn_facts hx db ho k
    simp only [inn]
    generalize hr : inn x b i k (0, o) = r at h1 h2 h3 h4
    have hb := getD_lt db k
    have ho' := h2 (i + k)
    have hxy : x * b.getD k 0 ≤ (B - 1) * (B - 1) := Nat.mul_le_mul (by omega) (by omega)
    generalize ht : r.1 + (r.2 (i + k) + x * b.getD k 0) = t
    have htB : t / B < B := by
      rw [Nat.div_lt_iff_lt_mul (by decide)]
      have : B * B = (B - 1) * (B - 1) + (B - 1) + (B - 1) + 1 := by decide
      omega
    refine ⟨htB, fun j => ?_, fun j hj => ?_, fun n hn => ?_⟩
    · simp only [upd]; split
      · exact Nat.mod_lt _ (by decide)
      · exact h2 j
    · simp only [upd]; rw [if_neg (by omega)]; exact h3 j (by omega)
    · have e1 := valF_upd r.2 (i + k) (t % B) n (by omega)
      have e2 := h4 n (by omega)
      have e3 : t % B + B * (t / B) = t := Nat.mod_add_div _ _
      simp only [valF]
      generalize t % B = d at e1 e3 ⊢
      generalize t / B = c at e3 ⊢
      have e4 : d * B ^ (i + k) + c * B ^ (i + (k + 1)) = r.1 * B ^ (i + k) + r.2 (i + k) * B ^ (i + k) + x * b.getD k 0 * B ^ (i + k) := by
        rw [← Nat.add_assoc i k 1, Nat.pow_succ]
        have : (d + B * c) * B ^ (i + k) = (r.1 + (r.2 (i + k) + x * b.getD k 0)) * B ^ (i + k) := by rw [e3, ht]
        grind
      have e5 : x * (valF (fun q => b.getD q 0) k + b.getD k 0 * B ^ k) * B ^ i = x * valF (fun q => b.getD q 0) k * B ^ i + x * b.getD k 0 * B ^ (i + k) := by
        rw [Nat.pow_add]; grind
      omega
theorem outT_facts {a b : List Nat} (da : Dig a) (db : Dig b) : ∀ i, (∀ j, outT a b i j < B) ∧ (∀ j, i + b.length ≤ j → outT a b i j = 0) ∧ ∀ n, i + b.length ≤ n → valF (outT a b i) n = valF (fun q => a.getD q 0) i * val b
  | 0 => by
    refine ⟨fun j => by simp [outT], fun j _ => rfl, fun n _ => ?_⟩
    simp only [outT, valF]
    rw [valF_zero]; simp
  | i + 1 => by
    obtain ⟨h1, h2, h3⟩ := outT_facts da db i
    obtain ⟨k1, k2, k3, k4⟩ := inn_facts (x := a.getD i 0) (i := i) (getD_lt da i) db h1 b.length
    simp only [outT, rowT]
    refine ⟨fun j => ?_, fun j hj => ?_, fun n hn => ?_⟩
    · simp only [upd]; split
      · exact k1
      · exact k2 j
    · simp only [upd]; rw [if_neg (by omega), k3 j (by omega)]; exact h2 j (by omega)
    · have e1 := valF_upd (inn (a.getD i 0) b i b.length (0, outT a b i)).2 (i + b.length) (inn (a.getD i 0) b i b.length (0, outT a b i)).1 n (by omega)
      have e2 := k4 n (by omega)
      rw [k3 _ (Nat.le_refl _), h2 _ (Nat.le_refl _)] at e1
      rw [val_valF, h3 n (by omega)] at e2
      simp only [valF]
      have e3 : (valF (fun q => a.getD q 0) i + a.getD i 0 * B ^ i) * val b = valF (fun q => a.getD q 0) i * val b + a.getD i 0 * val b * B ^ i := by grind
      omega
theorem times_full {a b : List Nat} (da : Dig a) (db : Dig b) : valF (outT a b a.length) (a.length + b.length) = val a * val b := by
  rw [(outT_facts da db a.length).2.2 _ (Nat.le_refl _), val_valF]

end Go.Big

