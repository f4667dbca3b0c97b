package zone

import (
	"slices"

	"massecuite/api"
)

// A bound is twice a number, and one of these more.
const (
	below  = iota // only values below the number are within
	atMost        // so is the number
)

// atMostZero is the bound 0 of differences that are at most 0.
const atMostZero = 2*0 + atMost

// isBound reports whether b is None or a bound with a number from -most to most.
func isBound(b, most int) bool {
	return b == None || in(b, 2*-most+below, 2*most+atMost)
}

func in(x, low, high int) bool { return low <= x && x <= high }

// sum returns the sum of two bounds.
func sum(a, b int) int {
	if a == None || b == None {
		return None
	}
	return 2*(a>>1+b>>1) + a&b&atMost
}

// greatest returns how many parts of 1/den are within b at most. For None this
// is more than any number of parts that can come up.
func greatest(b, den int) int {
	return b>>1*den - 1 + b&atMost
}

const maxSide = api.MaxClocks + 1

// matrix is the bounds of a zone in its first side rows and columns. The
// operations delay and reset take tight ones that are not empty, and return
// tight ones.
type matrix struct {
	side int
	at   [maxSide][maxSide]int
}

// read returns the matrix of z, unless z is no valid zone.
func read(z [][]int) (matrix, bool) {
	if !in(len(z), 2, maxSide) {
		return matrix{}, false
	}
	m := matrix{side: len(z)}
	for i, row := range z {
		if len(row) != len(z) {
			return matrix{}, false
		}
		for j, b := range row {
			if !isBound(b, maxBound) {
				return matrix{}, false
			}
			m.at[i][j] = b
		}
	}
	return m, true
}

// rows returns the zone of m.
func (m matrix) rows() [][]int {
	out := make([][]int, m.side)
	for i := range out {
		out[i] = slices.Clone(m.at[i][:m.side])
	}
	return out
}

// operated returns what operations make of z, one after the other, unless one of
// them leaves nothing.
func operated(z [][]int, operations ...func(matrix) matrix) ([][]int, api.Errno) {
	m, ok := read(z)
	if !ok {
		return nil, api.ErrArg
	}
	for _, f := range operations {
		m = f(m)
		if m.empty() {
			return nil, api.ErrNone
		}
	}
	return m.rows(), api.OK
}

// with returns an operation with its argument.
func with[T any](f func(matrix, T) matrix, x T) func(matrix) matrix {
	return func(m matrix) matrix { return f(m, x) }
}

// floored returns m with the bounds that all clocks are within because they are
// at least 0, and less than themselves by 0.
func (m matrix) floored() matrix {
	for i := range m.side {
		m.at[0][i] = min(m.at[0][i], atMostZero)
		m.at[i][i] = min(m.at[i][i], atMostZero)
	}
	return m
}

// tight returns the tight matrix with the same points, if there are some: each
// bound is that of the strictest way from its row to its column.
func (m matrix) tight() matrix {
	m = m.floored()
	for k := range m.side {
		for i := range m.side {
			for j := range m.side {
				m.at[i][j] = min(m.at[i][j], sum(m.at[i][k], m.at[k][j]))
			}
		}
	}
	return m
}

// empty reports whether m, which is tight, has no points: then a clock would
// have to be less than itself.
func (m matrix) empty() bool {
	for i := range m.side {
		if m.at[i][i] < atMostZero {
			return true
		}
	}
	return false
}

// includes reports whether m has all points of n, which is tight and not empty.
func (m matrix) includes(n matrix) bool {
	for i := range m.side {
		for j := range m.side {
			if n.at[i][j] > m.at[i][j] {
				return false
			}
		}
	}
	return true
}

// and returns the tight matrix of the points at which g holds.
func (m matrix) and(g Guard) matrix {
	m.at[g.I][g.J] = min(m.at[g.I][g.J], g.Bound)
	return m.tight()
}

// delay frees the clocks from above. Their differences stay as they are, also
// that to clock 0, from which they only grow.
func (m matrix) delay() matrix {
	for i := 1; i < m.side; i++ {
		m.at[i][0] = None
	}
	return m
}

// reset makes the clocks of a set the same as clock 0.
func (m matrix) reset(set int) matrix {
	for c := 1; c < m.side; c++ {
		if set>>c&1 == 0 {
			continue
		}
		m.at[c] = m.at[0]
		for i := range m.side {
			m.at[i][c] = m.at[i][0]
		}
	}
	return m
}

// guards returns all bounds of m as guards.
func (m matrix) guards() []Guard {
	var out []Guard
	for i := range m.side {
		for j := range m.side {
			out = append(out, Guard{i, j, m.at[i][j]})
		}
	}
	return out
}

// refutedBy reports whether l is a proof that m is empty.
func (m matrix) refutedBy(l []int) bool {
	if !different(l, m.side) {
		return false
	}
	m = m.floored()
	total := atMostZero
	for k, c := range l {
		total = sum(total, m.at[c][l[(k+1)%len(l)]])
	}
	return total < atMostZero
}

// different reports whether l are different clocks of a matrix with this side.
func different(l []int, side int) bool {
	met := 0
	for _, c := range l {
		if !in(c, 0, side-1) || met>>c&1 == 1 {
			return false
		}
		met |= 1 << c
	}
	return true
}

// refutation returns a proof that m is empty whose first clocks are l; nil if
// there is none.
func (m matrix) refutation(l []int) []int {
	if m.refutedBy(l) {
		return l
	}
	for c := range m.side {
		if slices.Contains(l, c) {
			continue
		}
		if found := m.refutation(append(slices.Clone(l), c)); found != nil {
			return found
		}
	}
	return nil
}
