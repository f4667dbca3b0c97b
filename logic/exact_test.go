package logic_test

import (
	"math/rand"
	"slices"
	"sync"

	"massecuite/logic"
)

// What the tests hold the results against: the terms of the chapter, written
// down as they are defined, and structures and formulas to try them on.

type (
	structure = logic.Structure
	formula   = logic.Formula
	path      = logic.Path
	clause    = logic.Clause
)

var (
	leaves = []string{"true", "a", "b", "c", "d", "e", "f"}
	unary  = []string{"!", "EX", "EF", "EG", "AX", "AF", "AG"}
	binary = []string{"&", "|", "EU", "AU"}
)

// node returns a formula.
func node(op string, kids ...formula) formula { return formula{Op: op, Kids: kids} }

// nodes returns the number of the nodes of f, and how deep it is.
func nodes(f formula) (n, deep int) {
	for _, kid := range f.Kids {
		m, d := nodes(kid)
		n += m
		deep = max(deep, d)
	}
	return n + 1, deep + 1
}

// printed returns f as a string.
func printed(f formula) string {
	var kids []string
	for _, kid := range f.Kids {
		kids = append(kids, printed(kid))
	}
	switch f.Op {
	case "!":
		return "!" + kids[0]
	case "&":
		return "(" + kids[0] + " & " + kids[1] + ")"
	case "|":
		return "(" + kids[0] + " | " + kids[1] + ")"
	case "EU":
		return "E[" + kids[0] + " U " + kids[1] + "]"
	case "AU":
		return "A[" + kids[0] + " U " + kids[1] + "]"
	}
	if len(kids) == 1 {
		return f.Op + " " + kids[0]
	}
	return f.Op
}

// meaning returns for each state whether it satisfies f. It asks for the paths
// themselves: a path that shows or refutes one Op can be made one that comes to
// its first state again after different ones, and all these are in paths.
func meaning(s structure, paths [][]path, f formula) []bool {
	x, y := make([]bool, len(s.Next)), make([]bool, len(s.Next))
	for k, kid := range f.Kids {
		if k == 0 {
			x = meaning(s, paths, kid)
		} else {
			y = meaning(s, paths, kid)
		}
	}
	out := make([]bool, len(s.Next))
	for state := range out {
		out[state] = satisfies(s, paths[state], f.Op, state, x, y)
	}
	return out
}

// satisfies reports whether a state satisfies an Op, from which these paths go
// out, where x and y say which states satisfy its Kids.
func satisfies(s structure, paths []path, op string, state int, x, y []bool) bool {
	some := func(shown string) bool {
		return slices.ContainsFunc(paths, func(p path) bool { return shows(p, shown, x, y) })
	}
	every := func(shown string) bool {
		return !slices.ContainsFunc(paths, func(p path) bool { return !shows(p, shown, x, y) })
	}
	switch op {
	case "true":
		return true
	case "!":
		return !x[state]
	case "&":
		return x[state] && y[state]
	case "|":
		return x[state] || y[state]
	case "EX", "EF", "EG", "EU":
		return some(op)
	case "AX", "AF", "AG", "AU":
		return every("E" + op[1:])
	}
	return s.Label[state]&(1<<(op[0]-'a')) != 0
}

// shows reports whether a path is one that EX, EF, EG or EU asks for.
func shows(p path, op string, x, y []bool) bool {
	sequence := unrolled(p)
	switch op {
	case "EX":
		return x[sequence[1]]
	case "EG":
		return !slices.ContainsFunc(sequence, func(state int) bool { return !x[state] })
	}
	for _, state := range sequence {
		if op == "EF" && x[state] || op == "EU" && y[state] {
			return true
		}
		if op == "EU" && !x[state] {
			return false
		}
	}
	return false
}

// unrolled returns the sequence of a path, so far that it has come twice to all
// its states that come again.
func unrolled(p path) []int {
	out := slices.Clone(p.States)
	for range 2 {
		out = append(out, p.States[p.Loop:]...)
	}
	return out
}

// fitting reports whether p is a fitting path of s.
func fitting(s structure, p path) bool {
	n := len(p.States)
	if n == 0 || n > 64 || p.Loop < 0 || p.Loop >= n {
		return false
	}
	for _, state := range p.States {
		if state < 0 || state >= len(s.Next) {
			return false
		}
	}
	for k, state := range unrolled(p) {
		if k > 0 && s.Next[unrolled(p)[k-1]]&(1<<state) == 0 {
			return false
		}
	}
	return true
}

// lassos returns for each state all paths from it that come to one of their
// states again after different ones.
func lassos(s structure) [][]path {
	out := make([][]path, len(s.Next))
	var walk func(states []int)
	walk = func(states []int) {
		for next := range s.Next {
			if s.Next[states[len(states)-1]]&(1<<next) == 0 {
				continue
			}
			if loop := slices.Index(states, next); loop >= 0 {
				out[states[0]] = append(out[states[0]], path{States: states, Loop: loop})
			} else {
				walk(append(slices.Clone(states), next))
			}
		}
	}
	for state := range s.Next {
		walk([]int{state})
	}
	return out
}

// far is the same as meaning for structures with too many paths: it asks for
// walks with as many states as there are and one more, which have come to one of
// them again.
func far(s structure, f formula) []bool {
	var kids [][]bool
	for _, kid := range f.Kids {
		kids = append(kids, far(s, kid))
	}
	kids = append(kids, make([]bool, len(s.Next)), make([]bool, len(s.Next)))
	x, y := kids[0], kids[1]
	always := slices.Repeat([]bool{true}, len(x))
	switch f.Op {
	case "EX":
		return stepped(s, x, true)
	case "AX":
		return stepped(s, x, false)
	case "EF":
		return walked(s, always, x, false, true)
	case "AF":
		return walked(s, always, x, false, false)
	case "EU":
		return walked(s, x, y, false, true)
	case "AU":
		return walked(s, x, y, false, false)
	case "EG":
		return walked(s, x, make([]bool, len(x)), true, true)
	case "AG":
		return walked(s, x, make([]bool, len(x)), true, false)
	}
	out := make([]bool, len(x))
	for state := range out {
		out[state] = satisfies(s, nil, f.Op, state, x, y)
	}
	return out
}

// stepped returns for each state whether some state of Next, or each one, is of
// x.
func stepped(s structure, x []bool, some bool) []bool {
	out := make([]bool, len(x))
	for state, set := range s.Next {
		out[state] = !some
		for next := range x {
			if set&(1<<next) != 0 && x[next] == some {
				out[state] = some
			}
		}
	}
	return out
}

// walked returns for each state whether some walk, or each one, comes to a state
// of y, with only states of x before; one that has not come there at its end
// counts as atEnd.
func walked(s structure, x, y []bool, atEnd, some bool) []bool {
	out := slices.Repeat([]bool{atEnd}, len(x))
	for range len(x) + 1 {
		rest := stepped(s, out, some)
		for state := range out {
			out[state] = y[state] || x[state] && rest[state]
		}
	}
	return out
}

// set returns the set of the states for which x is true.
func set(x []bool) int {
	out := 0
	for state, is := range x {
		if is {
			out |= 1 << state
		}
	}
	return out
}

// alike returns for each depth up to the number of states whether two states are
// alike.
func alike(s structure) [][][]bool {
	n := len(s.Next)
	var out [][][]bool
	for depth := range n + 1 {
		level := make([][]bool, n)
		for x := range n {
			for y := range n {
				same := s.Label[x] == s.Label[y]
				if depth > 0 {
					same = same && followed(s, out[depth-1], x, y) && followed(s, out[depth-1], y, x)
				}
				level[x] = append(level[x], same)
			}
		}
		out = append(out, level)
	}
	return out
}

// followed reports whether each state of the Next of x has one in that of y with
// which it is alike.
func followed(s structure, alike [][]bool, x, y int) bool {
	for t := range s.Next {
		if s.Next[x]&(1<<t) == 0 {
			continue
		}
		found := false
		for u := range s.Next {
			found = found || s.Next[y]&(1<<u) != 0 && alike[t][u]
		}
		if !found {
			return false
		}
	}
	return true
}

// parted returns the least depth for which x and y are not alike; -1 if they are
// bisimilar.
func parted(levels [][][]bool, x, y int) int {
	return slices.IndexFunc(levels, func(level [][]bool) bool { return !level[x][y] })
}

// expanded returns the formula of clause i, and its depth.
func expanded(l []clause, i int) (formula, int) {
	c := l[i]
	switch {
	case slices.Contains(leaves, c.Op):
		return node(c.Op), 0
	case c.Op == "!" || c.Op == "EX":
		f, depth := expanded(l, c.X)
		if c.Op == "EX" {
			depth++
		}
		return node(c.Op, f), depth
	}
	f, k := expanded(l, c.X)
	g, m := expanded(l, c.Y)
	return node(c.Op, f, g), max(k, m)
}

// small returns structures with up to 4 states: all with one or two, and some
// of the others.
var small = sync.OnceValue(func() []structure {
	var out []structure
	for label := range 64 {
		out = append(out, structure{Next: []int{1}, Label: []int{label}})
	}
	for next := range 9 {
		for label := range 16 {
			out = append(out, structure{Next: []int{1 + next%3, 1 + next/3}, Label: []int{label % 4, label / 4}})
		}
	}
	r := rand.New(rand.NewSource(1))
	for k := range 700 {
		out = append(out, drawn(r, 3+k%2, 1+r.Intn(3), 1+k%2))
	}
	return out
})

// large returns structures with 5 to 16 states.
var large = sync.OnceValue(func() []structure {
	r := rand.New(rand.NewSource(2))
	var out []structure
	for k := range 400 {
		out = append(out, drawn(r, 5+k%12, 1+r.Intn(4), 1+r.Intn(6)))
	}
	for range 40 {
		out = append(out, drawn(r, 16, 1+r.Intn(16), r.Intn(2)))
	}
	for n := 5; n <= 16; n++ {
		out = append(out, chain(n, 1), chain(n, 0), ring(n, 0), ring(n, 63))
	}
	return out
})

// drawn returns a structure of n states, with up to this many states in each
// Next, and labels of so many letters.
func drawn(r *rand.Rand, n, most, letters int) structure {
	var s structure
	for range n {
		next := 0
		for range 1 + r.Intn(most) {
			next |= 1 << r.Intn(n)
		}
		label := r.Intn(1 << letters)
		if r.Intn(3) > 0 {
			label = 0
		}
		s.Next = append(s.Next, next)
		s.Label = append(s.Label, label)
	}
	return s
}

// chain returns the structure in which each state leads to the next one, and the
// last one, with this label, to itself.
func chain(n, label int) structure {
	var s structure
	for x := range n {
		s.Next = append(s.Next, 1<<min(x+1, n-1))
	}
	s.Label = make([]int, n)
	s.Label[n-1] = label
	return s
}

// ring returns the structure in which each state leads to the next one, and the
// last one to the first one, which has this label.
func ring(n, label int) structure {
	s := chain(n, 0)
	s.Next[n-1] = 1
	s.Label[0] = label
	return s
}

// simple returns some leaves, all formulas with one Op over them, and a choice of
// larger ones.
var simple = sync.OnceValue(func() []formula {
	out := combined([]formula{node("true"), node("a"), node("b")})
	r := rand.New(rand.NewSource(3))
	for range 150 {
		out = append(out, chosen(r, 4+r.Intn(9), 6))
	}
	return out
})

// combined returns formulas, and all those that have one Op over them.
func combined(list []formula) []formula {
	out := slices.Clone(list)
	for _, f := range list {
		for _, op := range unary {
			out = append(out, node(op, f))
		}
		for _, g := range list {
			for _, op := range binary {
				out = append(out, node(op, f, g))
			}
		}
	}
	return out
}

// chosen returns a formula with this many nodes, or with less if it would be
// deeper than this.
func chosen(r *rand.Rand, size, deep int) formula {
	switch {
	case size == 1 || deep == 1:
		return node(leaves[r.Intn(len(leaves))])
	case size == 2 || r.Intn(2) == 0:
		return node(unary[r.Intn(len(unary))], chosen(r, size-1, deep-1))
	}
	first := 1 + r.Intn(size-2)
	return node(binary[r.Intn(len(binary))], chosen(r, first, deep-1), chosen(r, size-1-first, deep-1))
}

// tall returns a formula that is this deep.
func tall(deep int) formula {
	f := node("a")
	for k := 1; k < deep; k++ {
		f = node(unary[k%len(unary)], f)
	}
	return f
}

// wide returns a formula with this many nodes that is not deep.
func wide(size int) formula {
	switch size {
	case 1:
		return node("b")
	case 2:
		return node("!", node("a"))
	}
	half := (size - 1) / 2
	return node("|", wide(half), wide(size-1-half))
}
