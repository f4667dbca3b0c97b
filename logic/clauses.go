package logic

// areClauses reports whether l are clauses.
func areClauses(l []Clause) bool {
	if !in(len(l), 1, maxClauses) {
		return false
	}
	for i, c := range l {
		if !c.follows(i) {
			return false
		}
	}
	return true
}

// follows reports whether c can be a clause after n others.
func (c Clause) follows(n int) bool {
	switch c.Op {
	case "true", "a", "b", "c", "d", "e", "f":
		return c.X == 0 && c.Y == 0
	case "!", "EX":
		return in(c.X, 0, n-1) && c.Y == 0
	case "&", "|":
		return in(c.X, 0, n-1) && in(c.Y, 0, n-1)
	}
	return false
}

// deepest returns the depth of the last one of clauses.
func deepest(l []Clause) int {
	depths := make([]int, len(l))
	for i, c := range l {
		// The first clause has no Kids and the depth 0, so that it does for
		// those that an Op does not have.
		depths[i] = max(depths[c.X], depths[c.Y])
		if c.Op == "EX" {
			depths[i]++
		}
	}
	return depths[len(l)-1]
}

// parting makes clauses that part states which are not bisimilar. There are at
// most 16 for each two states, in their order: far less than maxClauses.
type parting struct {
	Structure
	levels [][]int        // for each depth, as far as it makes a difference, and each state: the set of those alike
	known  map[[2]int]int // by two states, in their order: the clause that parts them
	list   []Clause
}

// depth returns the least depth for which x and y are not alike; the number of
// the levels if there is none.
func (p *parting) depth(x, y int) int {
	for k, sets := range p.levels {
		if !has(sets[x], y) {
			return k
		}
	}
	return len(p.levels)
}

// part returns the clause that x satisfies and y does not, which is as deep as
// the two are not alike.
func (p *parting) part(x, y int) int {
	two := [2]int{x, y}
	i, ok := p.known[two]
	if !ok {
		i = p.made(x, y)
		p.known[two] = i
	}
	return i
}

// made adds this clause. What x has and y has not is said as it is; if there is
// nothing, y has something that x has not.
func (p *parting) made(x, y int) int {
	depth := p.depth(x, y)
	if depth == 0 {
		if more := p.Label[x] &^ p.Label[y]; more != 0 {
			k := least(more)
			return p.add(Clause{Op: letters[k : k+1]})
		}
		return p.add(Clause{Op: "!", X: p.part(y, x)})
	}
	for next := range elements(p.Next[x]) {
		if p.levels[depth-1][next]&p.Next[y] == 0 {
			return p.add(Clause{Op: "EX", X: p.partAll(next, p.Next[y])})
		}
	}
	return p.add(Clause{Op: "!", X: p.part(y, x)})
}

// partAll returns a clause that x satisfies and no state of a set does.
func (p *parting) partAll(x, set int) int {
	first := least(set)
	i := p.part(x, first)
	for y := range elements(set &^ (1 << first)) {
		j := p.part(x, y)
		i = p.add(Clause{Op: "&", X: i, Y: j})
	}
	return i
}

// add adds a clause.
func (p *parting) add(c Clause) int {
	p.list = append(p.list, c)
	return len(p.list) - 1
}
