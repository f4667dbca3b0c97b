package logic

// operatorTable has for each Op what it makes of the sets of the states that
// satisfy its Kids: the set of those that satisfy the formula. A Kid that an Op
// does not have does not matter.
type operatorTable map[string]func(x, y int) int

// operators returns the table for a structure.
func operators(s Structure) operatorTable {
	ops := operatorTable{
		"true": func(x, y int) int { return s.all() },
		"!":    func(x, y int) int { return s.not(x) },
		"&":    func(x, y int) int { return x & y },
		"|":    func(x, y int) int { return x | y },
		"EX":   func(x, y int) int { return s.before(x) },
		"EF":   func(x, y int) int { return s.until(s.all(), x) },
		"EG":   func(x, y int) int { return s.always(x) },
		"EU":   func(x, y int) int { return s.until(x, y) },
		"AX":   func(x, y int) int { return s.not(s.before(s.not(x))) },
		"AF":   func(x, y int) int { return s.not(s.always(s.not(x))) },
		"AG":   func(x, y int) int { return s.not(s.until(s.all(), s.not(x))) },
		"AU": func(x, y int) int {
			// A path is another one if it has no y, or neither x nor y before it.
			return s.not(s.always(s.not(y)) | s.until(s.not(y), s.not(x|y)))
		},
	}
	for k := range letters {
		ops[letters[k:k+1]] = func(x, y int) int { return s.with(k) }
	}
	return ops
}

// sat returns the states that satisfy a formula.
func (ops operatorTable) sat(f Formula) int {
	x, y := ops.kids(f)
	return ops[f.Op](x, y)
}

// kids returns the states that satisfy the first and the second Kid of a
// formula, none for one that it does not have.
func (ops operatorTable) kids(f Formula) (x, y int) {
	var sets [2]int
	for k, kid := range f.Kids {
		sets[k] = ops.sat(kid)
	}
	return sets[0], sets[1]
}

// last returns the states that satisfy the last one of clauses.
func (ops operatorTable) last(l []Clause) int {
	sets := make([]int, len(l))
	for i, c := range l {
		// The first clause has no Kids, and none is before it: what stands for
		// them does not matter.
		sets[i] = ops[c.Op](sets[c.X], sets[c.Y])
	}
	return sets[len(l)-1]
}
