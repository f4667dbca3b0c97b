package lattice_test

import (
	"math/big"
	"math/rand"
	"slices"
)

// What the tests hold the results against: the terms of the chapter, written
// down as they are defined, with numbers of any size.

const wide = 1 << 40

// matrix returns rows of the given numbers.
func matrix(n int, numbers ...int) [][]int {
	var out [][]int
	for i := 0; i < len(numbers); i += n {
		out = append(out, slices.Clone(numbers[i:i+n]))
	}
	return out
}

// unit returns the unit matrix.
func unit(n int) [][]int {
	out := zeros(n, n)
	for i := range n {
		out[i][i] = 1
	}
	return out
}

func zeros(m, n int) [][]int {
	out := make([][]int, m)
	for i := range m {
		out[i] = make([]int, n)
	}
	return out
}

func copied(a [][]int) [][]int {
	out := make([][]int, len(a))
	for i := range a {
		out[i] = slices.Clone(a[i])
	}
	return out
}

func flipped(a [][]int) [][]int {
	out := zeros(len(a[0]), len(a))
	for i, row := range a {
		for j, x := range row {
			out[j][i] = x
		}
	}
	return out
}

func sameRows(a, b [][]int) bool { return slices.EqualFunc(a, b, slices.Equal) }

// isWide reports whether a is m rows of n elements from -2^40 to 2^40.
func isWide(a [][]int, m, n int) bool {
	if len(a) != m {
		return false
	}
	for _, row := range a {
		if len(row) != n {
			return false
		}
		for _, x := range row {
			if x < -wide || x > wide {
				return false
			}
		}
	}
	return true
}

// det returns the determinant.
func det(a [][]int) *big.Int {
	if len(a) == 0 {
		return big.NewInt(1)
	}
	sum := new(big.Int)
	for j, x := range a[0] {
		if x == 0 {
			continue
		}
		var rest [][]int
		for _, row := range a[1:] {
			rest = append(rest, slices.Concat(row[:j], row[j+1:]))
		}
		part := det(rest)
		part.Mul(part, big.NewInt(int64(x)))
		if j%2 == 1 {
			part.Neg(part)
		}
		sum.Add(sum, part)
	}
	return sum
}

func isUnimodular(a [][]int, n int) bool {
	return isWide(a, n, n) && det(a).CmpAbs(big.NewInt(1)) == 0
}

func bigRows(a [][]int) [][]*big.Int {
	out := make([][]*big.Int, len(a))
	for i, row := range a {
		for _, x := range row {
			out[i] = append(out[i], big.NewInt(int64(x)))
		}
	}
	return out
}

func bigTimes(a, b [][]*big.Int) [][]*big.Int {
	out := make([][]*big.Int, len(a))
	for i := range a {
		for j := range b[0] {
			sum := new(big.Int)
			for k := range b {
				sum.Add(sum, new(big.Int).Mul(a[i][k], b[k][j]))
			}
			out[i] = append(out[i], sum)
		}
	}
	return out
}

func sameBig(a [][]*big.Int, b [][]int) bool {
	for i := range a {
		for j := range a[i] {
			if !a[i][j].IsInt64() || a[i][j].Int64() != int64(b[i][j]) {
				return false
			}
		}
	}
	return true
}

// times returns a·x.
func times(a [][]int, x []int) []int {
	out := make([]int, len(a))
	for i, row := range a {
		for j := range row {
			out[i] += row[j] * x[j]
		}
	}
	return out
}

func pivot(row []int) int {
	return slices.IndexFunc(row, func(x int) bool { return x != 0 })
}

// isHermiteForm reports whether h is one, by the five conditions of the terms.
func isHermiteForm(h [][]int) bool {
	last, ended := -1, false
	for i, row := range h {
		c := pivot(row)
		if c < 0 {
			ended = true
			continue
		}
		if ended || row[c] < 0 || c <= last {
			return false
		}
		last = c
		for k := range h {
			if k > i && h[k][c] != 0 || k < i && (h[k][c] < 0 || h[k][c] >= row[c]) {
				return false
			}
		}
	}
	return true
}

// isReduced reports whether x is reduced by a lattice basis.
func isReduced(x []int, rows [][]int) bool {
	for _, row := range rows {
		c := pivot(row)
		if x[c] < 0 || x[c] >= row[c] {
			return false
		}
	}
	return true
}

// spans reports whether x is a sum of whole multiples of a lattice basis.
func spans(rows [][]int, x []int) bool {
	x = slices.Clone(x)
	for _, row := range rows {
		c := pivot(row)
		q := x[c] / row[c]
		for j := range x {
			x[j] -= q * row[j]
		}
	}
	return pivot(x) < 0
}

// chosen calls f with all rising lists of k numbers below n.
func chosen(n, k int, f func([]int)) {
	var grow func(from int, list []int)
	grow = func(from int, list []int) {
		if len(list) == k {
			f(list)
			return
		}
		for i := from; i < n; i++ {
			grow(i+1, append(slices.Clone(list), i))
		}
	}
	grow(0, nil)
}

// divisor returns the greatest common divisor of the minors with k rows.
func divisor(a [][]int, k int) *big.Int {
	out := new(big.Int)
	chosen(len(a), k, func(rows []int) {
		chosen(len(a[0]), k, func(cols []int) {
			part := zeros(k, k)
			for i, r := range rows {
				for j, c := range cols {
					part[i][j] = a[r][c]
				}
			}
			out.GCD(nil, nil, out, new(big.Int).Abs(det(part)))
		})
	})
	return out
}

// rankOf returns the number of rows of the largest minor that is not zero.
func rankOf(a [][]int) int {
	k := 0
	for k < min(len(a), len(a[0])) && divisor(a, k+1).Sign() != 0 {
		k++
	}
	return k
}

// smithList returns the quotients of the divisors of the minors.
func smithList(a [][]int) []int {
	d := make([]int, min(len(a), len(a[0])))
	before := big.NewInt(1)
	for k := range d {
		next := divisor(a, k+1)
		if next.Sign() == 0 {
			break
		}
		d[k] = int(new(big.Int).Div(next, before).Int64())
		before = next
	}
	return d
}

// isSmithList reports whether d is one.
func isSmithList(d []int) bool {
	for i, x := range d {
		if x < 0 || i > 0 && d[i-1] == 0 && x != 0 || i > 0 && d[i-1] != 0 && x%d[i-1] != 0 {
			return false
		}
	}
	return true
}

// solvable reports whether a·x = b has a whole x: the divisors of the minors
// of the largest size are the same with and without b as a column.
func solvable(a [][]int, b []int) bool {
	more := copied(a)
	for i := range more {
		more[i] = append(more[i], b[i])
	}
	r := rankOf(a)
	if rankOf(more) != r {
		return false
	}
	return divisor(a, r).Cmp(divisor(more, r)) == 0
}

func provesHermite(a, h, u [][]int) bool {
	m, n := len(a), len(a[0])
	return isWide(h, m, n) && isHermiteForm(h) && isUnimodular(u, m) &&
		sameBig(bigTimes(bigRows(u), bigRows(a)), h)
}

func provesSmith(a [][]int, d []int, u, v [][]int) bool {
	m, n := len(a), len(a[0])
	if len(d) != min(m, n) || !isSmithList(d) || !isUnimodular(u, m) || !isUnimodular(v, n) {
		return false
	}
	want := zeros(m, n)
	for i, x := range d {
		want[i][i] = x
	}
	return sameBig(bigTimes(bigTimes(bigRows(u), bigRows(a)), bigRows(v)), want)
}

func provesRefuse(a [][]int, b, y []int, den int) bool {
	if len(y) != len(a) || !isWide([][]int{y}, 1, len(a)) || den < 1 || den > wide {
		return false
	}
	for _, x := range times(flipped(a), y) {
		if x%den != 0 {
			return false
		}
	}
	return times([][]int{b}, y)[0]%den != 0
}

// samples returns matrices of all shapes: all small ones with two rows, and
// others with elements of several kinds, many of them of lower rank.
func samples() [][][]int {
	var out [][][]int
	for code := range 625 {
		a := zeros(2, 2)
		for k := range 4 {
			a[k/2][k%2] = code%5 - 2
			code /= 5
		}
		out = append(out, a)
	}
	for x := -20; x <= 20; x++ {
		out = append(out, matrix(1, x), matrix(2, x, 12), matrix(1, x, 15, -9))
	}
	r := rand.New(rand.NewSource(1))
	for m := 1; m <= 4; m++ {
		for n := 1; n <= 5; n++ {
			for k := range 40 {
				out = append(out, sample(r, m, n, k%5))
			}
		}
	}
	return append(out, extremes()...)
}

func sample(r *rand.Rand, m, n, kind int) [][]int {
	a := zeros(m, n)
	for i := range a {
		for j := range a[i] {
			switch kind {
			case 0:
				a[i][j] = r.Intn(41) - 20
			case 1:
				a[i][j] = r.Intn(5) - 2
			case 2:
				a[i][j] = (r.Intn(7) - 3) * []int{2, 3, 4, 5, 6}[r.Intn(5)]
			case 3:
				a[i][j] = (20 - r.Intn(3)) * (2*r.Intn(2) - 1)
			}
		}
	}
	if kind == 4 {
		x, y := sample(r, m, 2, 1), sample(r, 2, n, 1)
		for i := range a {
			for j := range a[i] {
				a[i][j] = x[i][0]*y[0][j] + x[i][1]*y[1][j]
			}
		}
	}
	return a
}

// extremes returns matrices with very large minors, or with Smith lists whose
// elements are spread far.
func extremes() [][][]int {
	return [][][]int{
		matrix(5, 17, -19, -15, -20, 10, -20, -13, -20, 20, 20, -20, 17, -19, -19, 6, -20, -20, 20, -20, 19),
		matrix(5, -15, 19, -20, 20, 10, 20, -20, -20, 17, -7, 18, 19, 19, 18, 12, -19, -20, 20, 20, 20),
		matrix(5, 10, 19, -20, -20, 20, -12, 20, 20, -20, -19, -13, 20, 19, 20, 20, -17, 20, -20, 20, -20),
		matrix(5, 19, -20, 20, 10, -19, -20, 19, 20, -2, -9, 15, 17, -19, 19, -2, -20, -20, -20, 13, -19),
		matrix(5, 10, -18, -9, -2, 8, 17, -1, -20, 12, 4, 6, -12, 18, -20, -14, 9, 10, -16, 13, 14),
		matrix(4, 14, -15, -13, 20, -14, -17, 19, 14, -16, -14, -16, -15, 9, -17, -2, -18),
		matrix(4, 20, 20, 20, 20, 20, -20, 20, -20, 20, 20, -20, -20, 20, -20, -20, 20),
		matrix(4, 20, 0, 0, 0, 0, 19, 0, 0, 0, 0, 17, 0, 0, 0, 0, 13),
		matrix(3, 19, 19, -20, -20, 20, 20, 20, -19, 19, -19, -20, -20),
		matrix(4, 12, 0, 0, 0, 0, 18, 0, 0, 0, 0, 20, 0, 0, 0, 0, 15),
		zeros(4, 5), zeros(1, 1), zeros(4, 1), zeros(1, 5),
		unit(4), matrix(2, 2, 4, 3, 5), matrix(2, 0, 0, 0, -3),
	}
}
