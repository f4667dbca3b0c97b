package cycle

import (
	"slices"

	"massecuite/api"
)

// connected returns the gains of a: ErrArg if a is not small, ErrState if it is
// not connected.
func connected(a [][]int) ([][]int, api.Errno) {
	gains, _, e := measured(a)
	if e == api.ErrNone {
		return nil, api.ErrState
	}
	if e != api.OK {
		return nil, e
	}
	for _, row := range ways(gains) {
		if slices.Contains(row, api.Never) {
			return nil, api.ErrState
		}
	}
	return gains, api.OK
}

// leastCritical returns the least node on a cycle with the weight 0; best are
// the ways of the gains.
func leastCritical(gains, best [][]int) int {
	for i, row := range product(gains, best) {
		if row[i] == 0 {
			return i
		}
	}
	return 0
}

// cyclicity returns the least common multiple, over the critical nodes, of the
// greatest common divisor of the numbers of arcs of the critical ways from the
// node back to itself. These ways are made of critical cycles, so that the
// divisor is that of the cycles of the node's class, if the ways are long enough
// to reach each one, to go around it or not, and to return: 3n arcs.
func cyclicity(gains [][]int) int {
	n := len(gains)
	lengths := make([]int, n)
	p := build(n, one)
	for k := 1; k <= 3*n; k++ {
		p = product(p, gains)
		for i := range n {
			if p[i][i] == 0 {
				lengths[i] = divisor(lengths[i], k)
			}
		}
	}
	common := 1
	for _, d := range lengths {
		if d > 0 {
			common *= d / divisor(common, d)
		}
	}
	return common
}

// repetition returns the index and the period of the powers, unless they are too
// large. No period but the multiples of the cyclicity repeats for ever, and where
// a multiple of it begins to repeat, it does so itself; and a power of the gains
// is den times that of the matrix, less the mean of its arcs.
func repetition(gains [][]int) (index, period int, ok bool) {
	period = cyclicity(gains)
	powers := [][][]int{build(len(gains), one)}
	for k := 1; k <= maxRepeat; k++ {
		next := product(powers[k-1], gains)
		powers = append(powers, next)
		index = k - period
		if index >= 1 && slices.EqualFunc(next, powers[index], slices.Equal[[]int]) {
			return index, period, true
		}
	}
	return 0, 0, false
}
