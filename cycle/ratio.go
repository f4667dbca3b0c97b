package cycle

import "massecuite/api"

// validArcs reports whether the arcs are a delay graph.
func validArcs(arcs [][4]int) bool {
	if len(arcs) > maxArcs {
		return false
	}
	for _, arc := range arcs {
		if !within(arc[0], 0, maxNodes-1) || !within(arc[1], 0, maxNodes-1) ||
			!within(arc[2], -maxSmall, maxSmall) || !within(arc[3], 0, maxDelay) {
			return false
		}
	}
	return true
}

// joined returns the matrix with the greatest value of an arc between each two
// nodes; an arc with the value Never does not count.
func joined(arcs [][4]int, value func(arc [4]int) int) [][]int {
	a := build(maxNodes, func(i, j int) int { return api.Never })
	for _, arc := range arcs {
		i, j := arc[0], arc[1]
		a[i][j] = greatest(a[i][j], value(arc))
	}
	return a
}

// cyclic reports whether there is a cycle of the arcs for which keep is true.
func cyclic(arcs [][4]int, keep func(arc [4]int) bool) bool {
	_, ok := mean(joined(arcs, func(arc [4]int) int {
		if keep(arc) {
			return 0
		}
		return api.Never
	}))
	return ok
}

// greatestRatio returns the greatest ratio of a cycle; there is one, and none has
// the delay 0. It goes from a ratio to that of the cycle that is most above it,
// in the mean of its arcs, until none is above: Newton's way, which takes few
// steps.
func greatestRatio(arcs [][4]int) fraction {
	r := fraction{-maxNodes*maxSmall - 1, 1} // below all
	for {
		next := steepest(arcs, r)
		if !r.below(next) {
			return r
		}
		r = next
	}
}

// steepest returns the ratio of a cycle that is most above r, or least below.
func steepest(arcs [][4]int, r fraction) fraction {
	above := func(arc [4]int) int { return r.den*arc[2] - r.num*arc[3] }
	a := joined(arcs, above)
	m, _ := mean(a)
	nodes := firstCritical(gainsOver(a, m))
	weight, delay := 0, 0
	for k, from := range nodes {
		to := nodes[(k+1)%len(nodes)]
		for _, arc := range arcs {
			if arc[0] == from && arc[1] == to && above(arc) == a[from][to] {
				weight += arc[2]
				delay += arc[3]
				break
			}
		}
	}
	return fraction{weight, delay}.lowest()
}
