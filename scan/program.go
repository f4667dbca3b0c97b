package scan

import (
	"slices"
	"strings"
)

// in reports whether x is from low to high.
func in(x, low, high int) bool { return low <= x && x <= high }

// controller is a program that is valid.
type controller struct {
	Program
	slots  map[string]int // of each name
	tokens [][]string     // of the Expr of each Line
}

// read returns the controller of p, unless p is no program.
func read(p Program) (*controller, bool) {
	c := &controller{Program: p, slots: map[string]int{}}
	ok := in(len(p.Inputs), 0, maxInputs) && in(len(p.Outputs), 1, maxOutputs) && in(len(p.Lines), 1, maxLines) &&
		c.readNames() && c.readExprs() && c.hasInits() && c.hasOutputs()
	return c, ok
}

// readNames gives a slot to each of the names, unless one of them is no name or
// occurs twice.
func (c *controller) readNames() bool {
	names := slices.Clone(c.Inputs)
	for _, line := range c.Lines {
		names = append(names, line.Name)
	}
	for slot, name := range names {
		if !isName(name) {
			return false
		}
		if _, twice := c.slots[name]; twice {
			return false
		}
		c.slots[name] = slot
	}
	return true
}

// readExprs reads the tokens of the expressions, unless one of them is none.
func (c *controller) readExprs() bool {
	for _, line := range c.Lines {
		// What is behind the greatest number of tokens is not read.
		tokens := strings.SplitN(line.Expr, " ", maxTokens+1)
		if len(tokens) > maxTokens || !c.isExpr(tokens) {
			return false
		}
		c.tokens = append(c.tokens, tokens)
	}
	return true
}

// hasInits reports whether all Inits are valid, and no more than may be are those
// of registers.
func (c *controller) hasInits() bool {
	registers := 0
	for _, line := range c.Lines {
		if !in(line.Init, -1, 1) {
			return false
		}
		if !line.isWire() {
			registers++
		}
	}
	return registers <= maxRegisters
}

// hasOutputs reports whether all Outputs are names of Inputs or Lines.
func (c *controller) hasOutputs() bool {
	for _, name := range c.Outputs {
		if _, ok := c.slots[name]; !ok {
			return false
		}
	}
	return true
}

// isWire reports whether a valid line is a wire.
func (l Line) isWire() bool { return l.Init == -1 }

// isName reports whether s is a name.
func isName(s string) bool {
	if !in(len(s), 1, maxName) || operands(s) >= 0 {
		return false
	}
	for k := range len(s) {
		if s[k] < 'a' || s[k] > 'z' {
			return false
		}
	}
	return true
}

// operands returns how many operands follow a token: -1 if it is none of the
// words that are no names.
func operands(token string) int {
	switch token {
	case "true", "false":
		return 0
	case "not":
		return 1
	case "and", "or", "xor":
		return 2
	case "if":
		return 3
	}
	return -1
}

// isExpr reports whether tokens are one expression.
func (c *controller) isExpr(tokens []string) bool {
	missing := 1 // operands
	for _, token := range tokens {
		n := operands(token)
		if n < 0 {
			n = 0
			if _, ok := c.slots[token]; !ok {
				return false
			}
		}
		if missing == 0 {
			return false
		}
		missing += n - 1
	}
	return missing == 0
}

// letters returns the number of input letters.
func (c *controller) letters() int { return 1 << len(c.Inputs) }

// start returns the set of the Lines that are registers with the value 1 at
// first.
func (c *controller) start() int {
	set := 0
	for j, line := range c.Lines {
		if line.Init == 1 {
			set |= 1 << j
		}
	}
	return set
}

// order returns the Lines of the wires in the order in which they can be
// evaluated, if there is one.
func (c *controller) order() ([]int, bool) {
	var out []int
	waiting := c.wires()
	for waiting != 0 {
		j := c.ready(waiting)
		if j < 0 {
			return nil, false
		}
		waiting &^= 1 << j
		out = append(out, j)
	}
	return out, true
}

// wires returns the set of the Lines that are wires.
func (c *controller) wires() int {
	set := 0
	for j, line := range c.Lines {
		if line.isWire() {
			set |= 1 << j
		}
	}
	return set
}

// ready returns the first Line of a set of wires that needs no wire of the set,
// -1 if there is none.
func (c *controller) ready(waiting int) int {
	for j := range c.Lines {
		if waiting>>j&1 == 1 && c.needs(j)&waiting == 0 {
			return j
		}
	}
	return -1
}

// needs returns the set of the Lines with names in the Expr of Line j.
func (c *controller) needs(j int) int {
	set := 0
	for _, token := range c.tokens[j] {
		if slot, ok := c.slots[token]; ok && slot >= len(c.Inputs) {
			set |= 1 << (slot - len(c.Inputs))
		}
	}
	return set
}
