import Derived.Test.YthbnnffmhnjpjaaVmB
/-
  VALUES WITHOUT ADDRESSES, 3: the operations. 'evalOp' says what an operation makes of the values of a frame; 'evalOp_sound': the model's operation does so in every world in which the objects stand.
-/
namespace Go.Vm
open Go.RowKit

def upd (env : Nat → XV) (t : Nat) (x : XV) : Nat → XV := fun s => if s = t then x else env s

structure St where
  σ : List VObj
  env : Nat → XV

def evalX (env : Nat → XV) : Operand → XV
  | .tmp t => env t
  | .const v => .d (.lit v)
  | .global g => .d (.lit (.pointer (some ⟨g, 0, none⟩)))
  | .func f => .d (.fn (.func f) [] [])

def litOf : XV → Option Value
  | .d (.lit v) => some v
  | _ => none

/-- What a run that neither reads nor writes memory gives. -/
def pureRun {α : Type} (P : Program) : Sem α → Option α
  | .pure a => some a
  | .program k => pureRun P (k P)
  | .mark _ k => pureRun P k
  | _ => none

theorem pureRun_ok {α : Type} {P : Program} {s : Sem α} {a : α} (h : pureRun P s = some a) (w : World) : s.run P w = .ok a w := by
  induction s with
  | pure b => simp [pureRun] at h; subst h; rfl
  | program k ih => exact ih P h
  | mark m k ih => exact ih h
  | _ => simp [pureRun] at h

def isSelect : Op → Bool
  | .select _ _ => true
  | _ => false

/-- An operation on plain values alone. -/
def litOp (P : Program) (env : Nat → XV) (o : Oper) : Option Value :=
  if o.op.operands.all (fun x => (litOf (evalX env x)).isSome) && !isSelect o.op then
    match pureRun P (execOp (fun x => (litOf (evalX env x)).getD undef) o) with
    | some (.value v) => some v
    | _ => none
  else none

def fnLit (env : Nat → XV) : Operand → Option Value
  | .func f => some (.func (.func f) #[] #[])
  | x => litOf (evalX env x)

/-- A call of a function without a body, on plain values. -/
def opExt (P : Program) (env : Nat → XV) (o : Oper) : Option Value :=
  if o.op.operands.all (fun x => (fnLit env x).isSome) && !isSelect o.op then
    match pureRun P (execOp (fun x => (fnLit env x).getD undef) o) with
    | some (.value v) => some v
    | _ => none
  else none

/-- The cells of a value. -/
def cellsX : XV → List XV
  | .d (.lit v) => v.cells.toList.map fun v => .d (.lit v)
  | .d (.agg ds) => ds.map .d
  | .agg xs => xs
  | x => [x]

def oneX : XV → Bool
  | .d (.lit v) => v.oneCell'
  | .d (.agg _) | .d (.tup _) | .agg _ | .tup _ => false
  | _ => true

def isAggT (P : Program) (t : TypeId) : Option Bool :=
  match P.underlying t with
  | some (.struct _) | some (.array _ _) => some true
  | some _ => some false
  | none => none

def sizeT (P : Program) (t : TypeId) : Option Nat := (P.info? t).map (·.size)

def allD : List XV → Option (List DV)
  | [] => some []
  | .d x :: xs => (allD xs).map (x :: ·)
  | _ => none

/-- A struct or array: deep if its cells are. -/
def aggX (xs : List XV) : XV :=
  match allD xs with
  | some ds => .d (.agg ds)
  | none => .agg xs

/-- The value of a variable of type t at the head of some cells. -/
def takeVar (P : Program) (t : TypeId) (cs : List XV) : Option XV :=
  match isAggT P t, sizeT P t with
  | some true, some n => if n ≤ cs.length then some (aggX (cs.take n)) else none
  | some false, _ => cs.head?
  | _, _ => none

def opLoad (P : Program) (σ : List VObj) (t : TypeId) : XV → Option (XV × Nat)
  | .d (.ptr cs) => (takeVar P t (cs.map .d)).map (·, 0)
  | .optr id off => match σ[id]? with
    | some ob => if ob.mode = 2 then none else (takeVar P t (ob.cells.drop off)).map (·, 1)
    | none => none
  | _ => none

def opStore (P : Program) (σ : List VObj) (t : TypeId) (a x : XV) : Option (List VObj) :=
  match a with
  | .optr id off => match σ[id]? with
    | some ob => if ob.mode = 0 ∧ sizeT P t = some (cellsX x).length ∧ off + (cellsX x).length ≤ ob.cells.length ∧ (cellsX x).all oneX then some (σ.set id ⟨splice ob.cells off (cellsX x), 0⟩) else none
    | none => none
  | _ => none

def zeroT (P : Program) (t : TypeId) : Option Value := (P.info? t).bind (·.zero)

def opAlloc (P : Program) (σ : List VObj) (t : TypeId) : Option (XV × List VObj) :=
  (zeroT P t).map fun z => (.optr σ.length 0, σ ++ [⟨z.cells.toList.map (fun v => .d (.lit v)), 0⟩])

def opBox (σ : List VObj) (x : XV) : XV × List VObj := (.optr σ.length 0, σ ++ [⟨cellsX x, 0⟩])

def opIndexAddr (P : Program) (t : TypeId) (x i : XV) : Option XV :=
  match litOf i, P.underlying t with
  | some (.int _ n), some (.slice e) => match sizeT P e, x with
    | some k, .d (.sl cs len _) => if 0 ≤ n ∧ n < len then some (.d (.ptr (cs.drop (n.toNat * k)))) else none
    | some k, .osl id off len k' _ _ => if 0 ≤ n ∧ n < len ∧ k' = k then some (.optr id (off + n.toNat * k)) else none
    | _, _ => none
  | some (.int _ n), some (.array len e) => match sizeT P e, x with
    | some k, .d (.ptr cs) => if 0 ≤ n ∧ n < len then some (.d (.ptr (cs.drop (n.toNat * k)))) else none
    | some k, .optr id off => if 0 ≤ n ∧ n < len then some (.optr id (off + n.toNat * k)) else none
    | _, _ => none
  | _, _ => none

/-- The cells of a struct or array. -/
def aggCells : XV → Option (List XV)
  | .agg xs => some xs
  | .d (.agg ds) => some (ds.map .d)
  | .d (.lit (.agg vs)) => some (vs.toList.map fun v => .d (.lit v))
  | _ => none

def fieldT (P : Program) (t : TypeId) (f : Nat) : Option Field :=
  match P.underlying t with
  | some (.struct fs) => fs[f]?
  | _ => none

def opField (P : Program) (t : TypeId) (x : XV) (f : Nat) : Option XV :=
  match fieldT P t f, aggCells x with
  | some fd, some cs => takeVar P fd.type (cs.drop fd.offset)
  | _, _ => none

def opIndex (P : Program) (t : TypeId) (x i : XV) : Option XV :=
  match litOf i, P.underlying t, aggCells x with
  | some (.int _ n), some (.array len e), some cs => match sizeT P e with
    | some k => if 0 ≤ n ∧ n < len then takeVar P e (cs.drop (n.toNat * k)) else none
    | none => none
  | _, _, _ => none

def opFieldAddr (P : Program) (t : TypeId) (x : XV) (f : Nat) : Option XV :=
  match fieldT P t f with
  | some fd => match sizeT P fd.type with
    | some (_ + 1) => match x with
      | .d (.ptr cs) => some (.d (.ptr (cs.drop fd.offset)))
      | .optr id off => some (.optr id (off + fd.offset))
      | _ => none
    | _ => none
  | none => none

/-- Parts laid over cells. -/
def fillP (place : Nat → Option (Nat × Nat)) (cells : List XV) : List (Nat × XV) → Option (List XV)
  | [] => some cells
  | (i, x) :: rest => match place i with
    | some (off, k) => if (cellsX x).length = k ∧ off + k ≤ cells.length then fillP place (splice cells off (cellsX x)) rest else none
    | none => none

def placesT (P : Program) (fs : Array Field) : Option (Array (Nat × Nat)) := pureRun P (fs.mapM fun f => do pure (f.offset, ← sizeOf f.type) : Sem (Array (Nat × Nat)))

def opBuild (P : Program) (t : TypeId) (parts : List (Nat × XV)) : Option XV :=
  match zeroT P t with
  | some z => match P.underlying t with
    | some (.struct fs) => match placesT P fs with
      | some ps => (fillP (ps[·]?) (z.cells.toList.map fun v => .d (.lit v)) parts).map aggX
      | none => none
    | some (.array _ e) => match sizeT P e with
      | some k => (fillP (fun i => some (i * k, k)) (z.cells.toList.map fun v => .d (.lit v)) parts).map aggX
      | none => none
    | _ => none
  | none => none

def isSliceT (P : Program) (t : TypeId) : Bool := match P.underlying t with | some (.slice _) => true | _ => false

def isNilSl : XV → Bool
  | .d (.lit (.slice none _ _)) => true
  | _ => false

def isSl : XV → Bool
  | .d (.sl _ _ _) | .osl _ _ _ _ _ _ => true
  | _ => false

def opEqNil (P : Program) (op : BinOp) (t : TypeId) (x y : XV) : Option XV :=
  if isSliceT P t && isSl x && isNilSl y then
    match op with
    | .eql => some (.d (.lit (.bool false)))
    | .neq => some (.d (.lit (.bool true)))
    | _ => none
  else none

def litsOf : List DV → Option (List Value)
  | [] => some []
  | .lit v :: ds => (litsOf ds).map (v :: ·)
  | _ => none

/-- A plain value, or a struct of plain values. -/
def litOf2 : XV → Option Value
  | .d (.lit v) => some v
  | .d (.agg ds) => (litsOf ds).map fun vs => .agg vs.toArray
  | _ => none

/-- An operation on structs of plain values. -/
def opBin2 (P : Program) (op : BinOp) (t : TypeId) (ox oy : Operand) (x y : XV) : Option Value :=
  match litOf2 x, litOf2 y with
  | some a, some b => pureRun P (do eqGuard op t ox oy a b; binOp op t a b : Sem Value)
  | _, _ => none

def opExtract (x : XV) (i : Nat) : Option XV :=
  match x with
  | .tup xs => xs[i]?
  | .d (.tup ds) => (ds[i]?).map .d
  | _ => none

def opLen (P : Program) (ts : Array TypeId) (x : XV) : Option XV :=
  match ts[0]? with
  | some t => if isSliceT P t then match x with
    | .d (.sl _ len _) | .osl _ _ len _ _ _ => some (.d (.lit (.int .i64 len)))
    | _ => none else none
  | none => none

def opCap (P : Program) (ts : Array TypeId) (x : XV) : Option XV :=
  match ts[0]? with
  | some t => if isSliceT P t then match x with
    | .d (.sl _ _ (some c)) => some (.d (.lit (.int .i64 c)))
    | .osl _ _ _ _ lo true => some (.d (.lit (.int .i64 lo)))
    | _ => none else none
  | none => none

def boundOf (x : Option XV) (dflt : Nat) : Option Nat :=
  match x with
  | none => some dflt
  | some x => match litOf x with
    | some (.int _ n) => if 0 ≤ n then some n.toNat else none
    | _ => none

def opSlice (P : Program) (t : TypeId) (x : XV) (lo hi : Option XV) (mx : Option XV) : Option XV :=
  match P.underlying t, mx with
  | some (.slice e), none => match sizeT P e, x with
    | some k, .d (.sl cs len capo) => match boundOf lo 0, boundOf hi len with
      | some l, some h => if l ≤ h ∧ h ≤ len ∧ h * k ≤ cs.length then some (.d (.sl ((cs.drop (l * k)).take ((h - l) * k)) (h - l) (capo.map (· - l)))) else none
      | _, _ => none
    | some k, .osl id off len k' lo' ex => match boundOf lo 0, boundOf hi len with
      | some l, some h => if l ≤ h ∧ h ≤ lo' ∧ k' = k ∧ (l < lo' ∨ l = 0) then some (.osl id (off + l * k) (h - l) k (lo' - l) ex) else none
      | _, _ => none
    | _, _ => none
  | some (.slice e), some m => match sizeT P e, x with
    | some k, .d (.sl cs len capo) => match boundOf lo 0, boundOf hi 0, boundOf (some m) 0 with
      | some l, some h, some m => if hi.isSome ∧ l ≤ h ∧ h ≤ m ∧ m ≤ len ∧ h * k ≤ cs.length then some (.d (.sl ((cs.drop (l * k)).take ((h - l) * k)) (h - l) (some (m - l)))) else none
      | _, _, _ => none
    | _, _ => none
  | _, _ => none

/-- A slice of an array of the call's own. -/
def opSliceA (P : Program) (σ : List VObj) (t : TypeId) (x : XV) (lo hi : Option XV) (mx : Option XV) : Option XV :=
  match x with
  | .optr id off => match P.underlying t, mx with
    | some (.array n e), none => match σ[id]? with
      | some ob => match sizeT P e, boundOf lo 0, boundOf hi n with
        | some k, some l, some h => if ob.mode ≠ 2 ∧ l ≤ h ∧ h ≤ n ∧ l < n ∧ off + n * k ≤ ob.cells.length then some (.osl id (off + l * k) (h - l) k (n - l) true) else none
        | _, _, _ => none
      | none => none
    | _, _ => none
  | _ => none

/-- The cells that are appended: of a slice that is read. -/
def srcCells (σ : List VObj) (k : Nat) : XV → Option (List XV × Nat × Nat)
  | .d (.lit (.slice none 0 0)) => some ([], 0, 0)
  | .d (.sl cs len _) => if len * k ≤ cs.length then some ((cs.take (len * k)).map .d, len, 0) else none
  | .osl id off len k' _ _ => match σ[id]? with
    | some ob => if ob.mode ≠ 2 ∧ k' = k ∧ off + len * k ≤ ob.cells.length then some ((ob.cells.drop off).take (len * k), len, 1) else none
    | none => none
  | _ => none

/-- copy into a slice of the call's own. -/
def opCopy (P : Program) (σ : List VObj) (ts : Array TypeId) (d x : XV) : Option (XV × List VObj) :=
  match d with
  | .osl id off len k' _ _ => match (ts[0]?).bind P.underlying with
    | some (.slice e) => match sizeT P e, σ[id]?, srcCells σ k' x with
      | some k, some ob, some (news, m, _) => if k' = k ∧ ob.mode = 0 ∧ off + min m len * k ≤ ob.cells.length ∧ news.all oneX ∧ 0 < m then some (.d (.lit (.int .i64 (min m len : Nat))), σ.set id ⟨splice ob.cells off (news.take (min m len * k)), 0⟩) else none
      | _, _, _ => none
    | _ => none
  | _ => none

def bytesT (P : Program) (t : TypeId) : Nat := ((P.info? t).map (·.bytes)).getD 0

/-- An append that certainly makes a new row. -/
def growTo (P : Program) (σ : List VObj) (e : TypeId) (k need : Nat) (cells : List XV) : Option (XV × List VObj) :=
  if need ≤ 1073741824 ∧ bytesT P e ≤ 65536 ∧ (zeroT P e).map (·.cells.size) = some k then some (.osl σ.length 0 need k need false, σ ++ [⟨cells, 0⟩]) else none

def opAppend (P : Program) (σ : List VObj) (ts : Array TypeId) (s x : XV) : Option (XV × List VObj) :=
  match ts.toList with
  | [t, u] => if t = u then match P.underlying t with
    | some (.slice e) => match sizeT P e with
      | some k => match srcCells σ k x with
        | some (news, m, _) => if news.all oneX then
          (if m = 0 then (match s with
            | .d (.lit (.slice none 0 0)) => some (s, σ)
            | .d (.sl _ _ _) => some (s, σ)
            | .osl _ _ _ _ _ _ => some (s, σ)
            | _ => none)
          else match s with
          | .d (.lit (.slice none 0 0)) => growTo P σ e k m news
          | .d (.sl cs len (some c)) => if c < len + m ∧ len * k ≤ cs.length then growTo P σ e k (len + m) ((cs.take (len * k)).map .d ++ news) else none
          | .osl id off len k' lo ex => match σ[id]? with
            | some ob => if k' = k then
                (if len + m ≤ lo then
                  (if ob.mode = 0 ∧ off + (len + m) * k ≤ ob.cells.length then some (.osl id off (len + m) k lo ex, σ.set id ⟨splice ob.cells (off + len * k) news, 0⟩) else none)
                else if ex then
                  (if ob.mode ≠ 2 ∧ off + len * k ≤ ob.cells.length then growTo P σ e k (len + m) ((ob.cells.drop off).take (len * k) ++ news) else none)
                else if ob.mode = 0 ∧ off = 0 ∧ len * k = ob.cells.length ∧ len + m ≤ 1073741824 ∧ bytesT P e ≤ 65536 ∧ (zeroT P e).map (·.cells.size) = some k then
                  some (.osl σ.length 0 (len + m) k (len + m) false, (σ.set id ⟨ob.cells, 2⟩) ++ [⟨ob.cells ++ news, 0⟩])
                else none) else none
            | none => none
          | _ => none) else none
        | none => none
      | none => none
    | _ => none else none
  | _ => none


def zeroRow (z : Value) (n : Nat) : List XV := (List.range n).map fun i => .d (.lit (z.cells[i % z.cells.size]!))

/-- make's zeros onto nil: append(nil, make([]T, n)...). -/
def opAppendZ (P : Program) (σ : List VObj) (ts : Array TypeId) (s x : XV) : Option (XV × List VObj) :=
  match ts.toList, s, litOf x with
  | [t, u], .d (.lit (.slice none 0 0)), some (.int _ n) => match P.underlying t, P.underlying u with
    | some (.slice e), some (.int _) => match sizeT P e, zeroT P e with
      | some k, some z => if 0 < n ∧ 0 < k then growTo P σ e k n.toNat (zeroRow z (n.toNat * k)) else none
      | _, _ => none
    | _, _ => none
  | _, _, _ => none

def opMakeSlice (P : Program) (σ : List VObj) (t : TypeId) (l c : XV) : Option (XV × List VObj) :=
  match litOf l, litOf c, P.underlying t with
  | some (.int _ l), some (.int _ c), some (.slice e) => match sizeT P e, zeroT P e with
    | some k, some z => if 0 ≤ l ∧ l ≤ c ∧ c ≤ 1073741824 ∧ bytesT P e ≤ 65536 then some (.osl σ.length 0 l.toNat k c.toNat true, σ ++ [⟨zeroRow z (c.toNat * k), 0⟩]) else none
    | _, _ => none
  | _, _, _ => none

/-- The parts of a literal, laid over its zero cells. -/
def fillX (k : Nat) (cells : List XV) : List (Nat × XV) → Option (List XV)
  | [] => some cells
  | (i, x) :: rest => if (cellsX x).length = k ∧ i * k + k ≤ cells.length then fillX k (splice cells (i * k) (cellsX x)) rest else none

def opBuildSlice (P : Program) (σ : List VObj) (t : TypeId) (n : Nat) (parts : List (Nat × XV)) : Option (XV × List VObj) :=
  match P.underlying t with
  | some (.slice e) => match sizeT P e, zeroT P e with
    | some k, some z => if n * k ≤ 16777216 then (fillX k (zeroRow z (n * k)) parts).map fun cells => (.osl σ.length 0 n k n true, σ ++ [⟨cells, 0⟩]) else none
    | _, _ => none
  | _ => none

/-- An operation that calls no Go function: its value, the objects behind it, and what it did with them (0 nothing, 1 it read, 2 it wrote, 3 it made some). -/
def evalOp (P : Program) (o : Oper) (s : St) : Option (XV × List VObj × Nat) :=
  match litOp P s.env o with
  | some v => some (.d (.lit v), s.σ, 0)
  | none => match o.op with
    | .move x | .assign x => some (evalX s.env x, s.σ, 0)
    | .pick c a b => match litOf (evalX s.env c) with
      | some (.bool t) => some (if t then evalX s.env a else evalX s.env b, s.σ, 0)
      | _ => none
    | .alloc t => (opAlloc P s.σ t).map fun r => (r.1, r.2, 3)
    | .box _ x => some ((opBox s.σ (evalX s.env x)).1, (opBox s.σ (evalX s.env x)).2, 3)
    | .load t a => (opLoad P s.σ t (evalX s.env a)).map fun r => (r.1, s.σ, r.2)
    | .store t a x => (opStore P s.σ t (evalX s.env a) (evalX s.env x)).map fun σ' => (.d (.lit undef), σ', 2)
    | .binOp op t x y _ => match opEqNil P op t (evalX s.env x) (evalX s.env y) with
      | some r => some (r, s.σ, 0)
      | none => (opBin2 P op t x y (evalX s.env x) (evalX s.env y)).map fun v => (.d (.lit v), s.σ, 0)
    | .makeFunc f first caps => some (.fn f (first.toList.map (evalX s.env)) (caps.toList.map (evalX s.env)), s.σ, 0)
    | .makeSlice t l c => (opMakeSlice P s.σ t (evalX s.env l) (evalX s.env c)).map fun r => (r.1, r.2, 3)
    | .slice t x lo hi mx => match opSlice P t (evalX s.env x) (lo.map (evalX s.env)) (hi.map (evalX s.env)) (mx.map (evalX s.env)) with
      | some r => some (r, s.σ, 0)
      | none => (opSliceA P s.σ t (evalX s.env x) (lo.map (evalX s.env)) (hi.map (evalX s.env)) (mx.map (evalX s.env))).map fun r => (r, s.σ, 1)
    | .indexAddr t x i => (opIndexAddr P t (evalX s.env x) (evalX s.env i)).map fun r => (r, s.σ, 0)
    | .field t x f => (opField P t (evalX s.env x) f).map fun r => (r, s.σ, 0)
    | .index t x i => (opIndex P t (evalX s.env x) (evalX s.env i)).map fun r => (r, s.σ, 0)
    | .fieldAddr t x f => (opFieldAddr P t (evalX s.env x) f).map fun r => (r, s.σ, 0)
    | .build t parts => (opBuild P t (parts.toList.map fun p => (p.1, evalX s.env p.2))).map fun r => (r, s.σ, 0)
    | .extract x i => (opExtract (evalX s.env x) i).map fun r => (r, s.σ, 0)
    | .buildSlice t n parts => (opBuildSlice P s.σ t n (parts.toList.map fun p => (p.1, evalX s.env p.2))).map fun r => (r.1, r.2, 3)
    | .call { callee := .builtin .len, args, argTypes } => match args.toList with
      | [x] => (opLen P argTypes (evalX s.env x)).map fun r => (r, s.σ, 0)
      | _ => none
    | .call { callee := .builtin .cap, args, argTypes } => match args.toList with
      | [x] => (opCap P argTypes (evalX s.env x)).map fun r => (r, s.σ, 0)
      | _ => none
    | .call { callee := .builtin .append, args, argTypes } => match args.toList with
      | [a, x] => match opAppend P s.σ argTypes (evalX s.env a) (evalX s.env x) with
        | some r => some (r.1, r.2, 2)
        | none => (opAppendZ P s.σ argTypes (evalX s.env a) (evalX s.env x)).map fun r => (r.1, r.2, 2)
      | _ => none
    | .call { callee := .builtin .copy, args, argTypes } => match args.toList with
      | [a, x] => (opCopy P s.σ argTypes (evalX s.env a) (evalX s.env x)).map fun r => (r.1, r.2, 2)
      | _ => none
    | .call { callee := .value _, .. } => (opExt P s.env o).map fun v => (.d (.lit v), s.σ, 0)
    | _ => none

end Go.Vm

