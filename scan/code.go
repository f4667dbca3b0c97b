package scan

// The Ops.
const (
	opSet  = iota // the value Y
	opCopy        // that of slot Y
	opNot         // the other one than that of slot Y
	opAnd         // of slots Y and Z
	opOr
	opXor
)

// isSlot reports whether x is a slot.
func isSlot(x int) bool { return in(x, 0, maxSlots-1) }

// isCode reports whether code is code.
func isCode(code []Code) bool {
	if len(code) > maxCode {
		return false
	}
	for _, c := range code {
		if !c.valid() {
			return false
		}
	}
	return true
}

// valid reports whether c is an instruction, whatever is in the fields that its
// Op does not use.
func (c Code) valid() bool {
	switch c.Op {
	case opSet:
		return isSlot(c.X) && in(c.Y, 0, 1)
	case opCopy, opNot:
		return isSlot(c.X) && isSlot(c.Y)
	case opAnd, opOr, opXor:
		return isSlot(c.X) && isSlot(c.Y) && isSlot(c.Z)
	}
	return false
}

// isNext reports whether next can have the slots of the next values.
func (c *controller) isNext(next []int) bool {
	if len(next) != len(c.Lines) {
		return false
	}
	for j, line := range c.Lines {
		if line.isWire() && next[j] != -1 || !line.isWire() && !isSlot(next[j]) {
			return false
		}
	}
	return true
}

// values has the values of the slots in a scan.
type values [maxSlots]int

func (v *values) set(c Code)  { v[c.X] = c.Y }
func (v *values) copy(c Code) { v[c.X] = v[c.Y] }
func (v *values) not(c Code)  { v[c.X] = 1 - v[c.Y] }
func (v *values) and(c Code)  { v[c.X] = v[c.Y] & v[c.Z] }
func (v *values) or(c Code)   { v[c.X] = v[c.Y] | v[c.Z] }
func (v *values) xor(c Code)  { v[c.X] = v[c.Y] ^ v[c.Z] }

// gates returns what each Op does.
func gates() []func(*values, Code) {
	return []func(*values, Code){
		opSet:  (*values).set,
		opCopy: (*values).copy,
		opNot:  (*values).not,
		opAnd:  (*values).and,
		opOr:   (*values).or,
		opXor:  (*values).xor,
	}
}

// unit is a controller with code, and the slots of the next values.
type unit struct {
	*controller
	code []Code
	next []int
	used int // slots, when it is compiled
}

// scan returns the registers after a scan, and its output letter. Registers are
// the set of the Lines that are registers with the value 1.
func (u *unit) scan(registers, letter int) (after, out int) {
	var v values
	for i := range u.Inputs {
		v[i] = letter >> i & 1
	}
	for j := range u.Lines {
		v[len(u.Inputs)+j] = registers >> j & 1
	}
	does := gates()
	for _, c := range u.code {
		does[c.Op](&v, c)
	}
	for j, slot := range u.next {
		if slot >= 0 {
			after |= v[slot] << j
		}
	}
	for k, name := range u.Outputs {
		out |= v[u.slots[name]] << k
	}
	return after, out
}

// compiled returns the unit of c, if c is causal. An expression makes at most 48
// instructions, each with a slot of its own (it has room for 9 ifs, of 3 each),
// and a wire one more: together at most 588, and 591 slots.
func (c *controller) compiled() (*unit, bool) {
	order, ok := c.order()
	if !ok {
		return nil, false
	}
	u := &unit{controller: c, used: len(c.slots)}
	for _, j := range order {
		value, _ := u.expr(c.tokens[j])
		u.code = append(u.code, Code{Op: opCopy, X: len(c.Inputs) + j, Y: value})
	}
	for j, line := range c.Lines {
		value := -1
		if !line.isWire() {
			value, _ = u.expr(c.tokens[j])
		}
		u.next = append(u.next, value)
	}
	return u, true
}

// expr adds the code of the expression that tokens begin with, and returns the
// slot of its value and the tokens behind it.
func (u *unit) expr(tokens []string) (slot int, rest []string) {
	var x [3]int // slots of the operands
	rest = tokens[1:]
	for k := range operands(tokens[0]) {
		x[k], rest = u.expr(rest)
	}
	return u.gate(tokens[0], x), rest
}

// gate adds the code of a token whose operands are in slots x, and returns the
// slot of its value.
func (u *unit) gate(token string, x [3]int) int {
	switch token {
	case "false":
		return u.put(opSet, 0, 0)
	case "true":
		return u.put(opSet, 1, 0)
	case "not":
		return u.put(opNot, x[0], 0)
	case "and":
		return u.put(opAnd, x[0], x[1])
	case "or":
		return u.put(opOr, x[0], x[1])
	case "xor":
		return u.put(opXor, x[0], x[1])
	case "if":
		// No Op chooses: the one turns into the other where they differ.
		differ := u.put(opXor, x[1], x[2])
		turn := u.put(opAnd, x[0], differ)
		return u.put(opXor, turn, x[2])
	}
	return u.slots[token]
}

// put adds an instruction that gives a value to a slot of its own, and returns
// the slot.
func (u *unit) put(op, y, z int) int {
	slot := u.used
	u.used++
	u.code = append(u.code, Code{Op: op, X: slot, Y: y, Z: z})
	return slot
}
