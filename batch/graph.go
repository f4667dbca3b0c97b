package batch

import (
	"cmp"
	"slices"

	"massecuite/api"
)

// arc leads from an operation to one that is done after it.
type arc struct{ from, to int }

// back returns the arc in the other direction.
func (a arc) back() arc {
	return arc{a.to, a.from}
}

// graph is operations by their numbers, arcs between them, and the operations of
// each machine, rising.
type graph struct {
	ops      []Op
	arcs     []arc
	machines [][]int
}

// with returns g with one more arc.
func (g graph) with(a arc) graph {
	// Two graphs are made of one, and must not share what follows its arcs.
	g.arcs = append(slices.Clip(g.arcs), a)
	return g
}

// ordered returns g with the arcs of an order; false if it is none.
func (g graph) ordered(order [][]int) (graph, bool) {
	same := func(l, all []int) bool {
		return slices.Equal(slices.Sorted(slices.Values(l)), all)
	}
	if !slices.EqualFunc(order, g.machines, same) {
		return graph{}, false
	}
	for _, l := range order {
		for k := 1; k < len(l); k++ {
			g = g.with(arc{l[k-1], l[k]})
		}
	}
	return g, true
}

// orderBy returns the order in which the operations of each machine start.
func (g graph) orderBy(starts []int) [][]int {
	var order [][]int
	for _, all := range g.machines {
		order = append(order, slices.SortedFunc(slices.Values(all), func(x, y int) int {
			return cmp.Compare(starts[x], starts[y])
		}))
	}
	return order
}

// heads returns for each operation the greatest sum of Times on a way of arcs to
// it, which is when it starts if the arcs are those of an order; false if the
// arcs have a cycle.
func (g graph) heads() ([]int, bool) {
	heads := make([]int, len(g.ops))
	// Each round settles the operations that are one arc further away. Without a
	// cycle no way has as many arcs as there are operations, and so the last round
	// changes nothing; with one, every round does.
	for range g.ops {
		settled := true
		for _, a := range g.arcs {
			end := heads[a.from] + g.ops[a.from].Time
			if end > heads[a.to] {
				heads[a.to] = end
				settled = false
			}
		}
		if settled {
			return heads, true
		}
	}
	return nil, false
}

// mirrored returns g with all arcs in the other direction, so that its heads are
// the tails of g.
func (g graph) mirrored() graph {
	arcs := slices.Clone(g.arcs)
	for k, a := range arcs {
		arcs[k] = a.back()
	}
	g.arcs = arcs
	return g
}

// tasks returns the operations with their heads and tails; false if the arcs have
// a cycle.
func (g graph) tasks() ([]task, bool) {
	heads, ok := g.heads()
	if !ok {
		return nil, false
	}
	tails, _ := g.mirrored().heads()
	tasks := make([]task, len(g.ops))
	for k, op := range g.ops {
		tasks[k] = task{heads[k], op.Time, tails[k]}
	}
	return tasks, true
}

// span returns the greatest end of operations that start at these times.
func (g graph) span(starts []int) int {
	most := 0
	for k, op := range g.ops {
		most = max(most, starts[k]+op.Time)
	}
	return most
}

// rivals returns the pairs of operations of one machine, each pair once.
func (g graph) rivals() []arc {
	var pairs []arc
	for _, all := range g.machines {
		for k, y := range all {
			for _, x := range all[:k] {
				pairs = append(pairs, arc{x, y})
			}
		}
	}
	return pairs
}

// shortest returns when the operations start if each of the pairs is an arc or
// its back such that the makespan is the least; nil if there is always a cycle.
func (g graph) shortest(pairs []arc) []int {
	starts, ok := g.heads()
	if !ok || len(pairs) == 0 {
		return starts
	}
	x := g.with(pairs[0]).shortest(pairs[1:])
	y := g.with(pairs[0].back()).shortest(pairs[1:])
	if x == nil || y != nil && g.span(y) < g.span(x) {
		return y
	}
	return x
}

// delays returns the arcs as a delay graph: from, to, the Time of the first
// operation, and no delay.
func (g graph) delays() [][4]int {
	var out [][4]int
	for _, a := range g.arcs {
		out = append(out, [4]int{a.from, a.to, g.ops[a.from].Time, 0})
	}
	return out
}

// weights returns the matrix of the arcs, with the Time of its first operation
// for each; there are no more operations than a matrix has rows.
func (g graph) weights() [][]int {
	rows := make([][]int, api.MaxSide)
	for k := range rows {
		rows[k] = slices.Repeat([]int{api.Never}, api.MaxSide)
	}
	for _, a := range g.arcs {
		rows[a.from][a.to] = g.ops[a.from].Time
	}
	return rows
}
