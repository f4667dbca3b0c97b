package cycle

import "massecuite/api"

// fraction is num/den, den above 0.
type fraction struct{ num, den int }

func (f fraction) below(g fraction) bool { return f.num*g.den < g.num*f.den }

// wide reports whether f is a fraction of numbers that Check can compute with.
func (f fraction) wide() bool {
	return within(f.num, -maxWide, maxWide) && within(f.den, 1, maxWide)
}

func (f fraction) lowest() fraction {
	d := divisor(max(f.num, -f.num), f.den)
	return fraction{f.num / d, f.den / d}
}

// divisor returns the greatest common divisor of two numbers that are at least
// 0; that of 0 and a number is the number.
func divisor(a, b int) int {
	for b != 0 {
		a, b = b, a%b
	}
	return a
}

// mean returns the mean of a, if it has a cycle, by Karp's theorem: it is the
// greatest, over all nodes, of the least rate at which the best ways to a node
// grow up to n arcs. The ways may begin anywhere, so that a need not be
// connected.
func mean(a [][]int) (fraction, bool) {
	n := len(a)
	best := [][]int{make([]int, n)} // by numbers of arcs
	for k := range n {
		best = append(best, extended(best[k], a))
	}
	var m fraction
	found := false
	for j, last := range best[n] {
		if last == api.Never {
			continue
		}
		var rate fraction
		for k := range n {
			if r := (fraction{last - best[k][j], n - k}); k == 0 || r.below(rate) {
				rate = r
			}
		}
		if !found || m.below(rate) {
			m, found = rate, true
		}
	}
	if !found {
		return fraction{}, false
	}
	return m.lowest(), true
}

// extended returns the best weights of ways to each node that have one arc more
// than those of best.
func extended(best []int, a [][]int) []int {
	next := make([]int, len(a))
	for j := range next {
		next[j] = api.Never
		for i, x := range best {
			next[j] = greatest(next[j], after(x, a[i][j]))
		}
	}
	return next
}

// measured returns the gains of a and its mean: ErrArg if a is not small,
// ErrNone if it has no cycle.
func measured(a [][]int) ([][]int, fraction, api.Errno) {
	if !valid(a, maxSmall) {
		return nil, fraction{}, api.ErrArg
	}
	m, ok := mean(a)
	if !ok {
		return nil, fraction{}, api.ErrNone
	}
	return gainsOver(a, m), m, api.OK
}

// gainsOver returns how far each arc is above a mean, den-fold. If it is the mean
// of a, no cycle of the gains has a weight above 0, and the critical ones have 0.
func gainsOver(a [][]int, m fraction) [][]int {
	return build(len(a), func(i, j int) int {
		if a[i][j] == api.Never {
			return api.Never
		}
		return m.den*a[i][j] - m.num
	})
}

// firstCritical returns the first cycle with the weight 0, of which there is one,
// as no cycle has more.
func firstCritical(gains [][]int) []int {
	powers := [][][]int{build(len(gains), one)}
	for k := range gains {
		next := product(powers[k], gains)
		powers = append(powers, next)
		for i := range next {
			if next[i][i] == 0 {
				return traced(powers, i)
			}
		}
	}
	return nil
}

// traced returns the first of the best ways from a node back to itself that have
// as many arcs as the last of the powers. If no way with fewer arcs is critical,
// such a way meets no node twice.
func traced(powers [][][]int, first int) []int {
	cycle := []int{first}
	at := first
	for left := len(powers) - 2; left > 0; left-- {
		weight := powers[left+1][at][first]
		for next, x := range powers[1][at] {
			if after(x, powers[left][next][first]) == weight {
				at = next
				break
			}
		}
		cycle = append(cycle, at)
	}
	return cycle
}
