package batch

import "slices"

// small reports whether a proof has no more nodes, and is no deeper, than it may.
func (p Proof) small() bool {
	nodes := maxNodes
	return p.fits(maxDeep, &nodes)
}

// fits reports whether p is at most so deep, and takes its nodes from those that
// are left. It stops where there are too many: a proof may contain itself.
func (p Proof) fits(deep int, nodes *int) bool {
	*nodes--
	if deep == 0 || *nodes < 0 {
		return false
	}
	for _, sub := range p.Sub {
		if !sub.fits(deep-1, nodes) {
			return false
		}
	}
	return true
}

// proven reports whether p proves that no order with the arcs of g has a makespan
// below v.
func (g graph) proven(p Proof, v int) bool {
	tasks, ok := g.tasks()
	if !ok {
		// No order has these arcs.
		return true
	}
	if len(p.Sub) == 0 {
		return p.A == 0 && p.B == 0 && g.together(p.Set) && bound(tasks, p.Set) >= v
	}
	if len(p.Sub) != 2 || len(p.Set) > 0 || !g.together([]int{p.A, p.B}) {
		return false
	}
	pair := arc{p.A, p.B}
	return g.with(pair).proven(p.Sub[0], v) && g.with(pair.back()).proven(p.Sub[1], v)
}

// together reports whether these are different operations, at least one, of one
// machine.
func (g graph) together(set []int) bool {
	return len(set) > 0 && slices.ContainsFunc(g.machines, func(all []int) bool {
		for k, x := range set {
			if !slices.Contains(all, x) || slices.Contains(set[:k], x) {
				return false
			}
		}
		return true
	})
}

// prove returns a proof that no order with the arcs of g has a makespan below v,
// which decides on the pairs in their order; false if there is none. With at most
// 9 pairs it has at most 2^10 - 1 nodes, and is at most 10 deep.
func (g graph) prove(pairs []arc, v int) (Proof, bool) {
	tasks, ok := g.tasks()
	if !ok {
		// Any proof will do, as no order has these arcs.
		return Proof{}, true
	}
	if set, b := g.hardest(tasks); b >= v {
		return Proof{Set: set}, true
	}
	if len(pairs) == 0 {
		// The arcs are those of an order, and the bound of each operation on its
		// longest way is its makespan, which is below v.
		return Proof{}, false
	}
	first, ok := g.with(pairs[0]).prove(pairs[1:], v)
	if !ok {
		return Proof{}, false
	}
	second, ok := g.with(pairs[0].back()).prove(pairs[1:], v)
	if !ok {
		return Proof{}, false
	}
	return Proof{A: pairs[0].from, B: pairs[0].to, Sub: []Proof{first, second}}, true
}

// hardest returns the operations of one machine that have the greatest bound, and
// the bound.
func (g graph) hardest(tasks []task) ([]int, int) {
	var best []int
	most := 0
	for _, all := range g.machines {
		var mine []task
		for _, x := range all {
			mine = append(mine, tasks[x])
		}
		set, b := group(mine)
		if b <= most {
			continue
		}
		most = b
		best = nil
		for _, k := range set {
			best = append(best, all[k])
		}
	}
	return best, most
}
