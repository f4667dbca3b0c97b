package lattice

import (
	"slices"

	"massecuite/api"
)

const (
	maxWide = 1 << 40 // absolute value of an element of a wide matrix
	maxSide = 1000    // absolute value of an element of the right side of a system
)

// valid reports whether a is a matrix whose elements are within MaxEntry.
func valid(a [][]int) bool {
	if len(a) < 1 || len(a) > api.MaxRows || len(a[0]) < 1 || len(a[0]) > api.MaxCols {
		return false
	}
	return fits(a, len(a), len(a[0]), api.MaxEntry)
}

// validSystem reports whether a·x = b is a system that can be asked.
func validSystem(a [][]int, b []int) bool {
	return valid(a) && len(b) == len(a) && within(b, maxSide)
}

// fits reports whether rows are m rows of n elements from -most to most.
func fits(rows [][]int, m, n, most int) bool {
	if len(rows) != m {
		return false
	}
	for _, row := range rows {
		if len(row) != n || !within(row, most) {
			return false
		}
	}
	return true
}

// within reports whether all elements of row are from -most to most.
func within(row []int, most int) bool {
	for _, x := range row {
		if x < -most || x > most {
			return false
		}
	}
	return true
}

// identity returns the unit matrix with n rows.
func identity(n int) [][]int {
	out := make([][]int, n)
	for i := range n {
		out[i] = make([]int, n)
		out[i][i] = 1
	}
	return out
}

// transposed returns the first n columns of rows as rows. They are counted by
// an argument because there may be no rows to count them in.
func transposed[T any](rows [][]T, n int) [][]T {
	out := make([][]T, n)
	for j := range n {
		out[j] = make([]T, len(rows))
		for i := range rows {
			out[j][i] = rows[i][j]
		}
	}
	return out
}

// joined returns the rows of left with those of right to the right of them.
func joined[T any](left, right [][]T) [][]T {
	out := make([][]T, len(left))
	for i := range left {
		out[i] = slices.Concat(left[i], right[i])
	}
	return out
}

// columns returns copies of the elements from..to-1 of each row: rows that
// shared memory could not be given out as separate results.
func columns[T any](rows [][]T, from, to int) [][]T {
	out := make([][]T, len(rows))
	for i, row := range rows {
		out[i] = slices.Clone(row[from:to])
	}
	return out
}

// dot returns the product of two vectors.
func dot(x, y []int) int {
	sum := 0
	for i := range x {
		sum += x[i] * y[i]
	}
	return sum
}

// product returns a·b.
func product(a, b [][]int) [][]int {
	turned := transposed(b, len(b[0]))
	out := make([][]int, len(a))
	for i, row := range a {
		out[i] = make([]int, len(turned))
		for j, column := range turned {
			out[i][j] = dot(row, column)
		}
	}
	return out
}

// combined returns s·x + t·y.
func combined(s int, x []int, t int, y []int) []int {
	out := make([]int, len(x))
	for i := range x {
		out[i] = s*x[i] + t*y[i]
	}
	return out
}

// lead returns the index of the first element that is not zero, or the length
// of the row if there is none.
func lead(row []int) int {
	for i, x := range row {
		if x != 0 {
			return i
		}
	}
	return len(row)
}

// floor returns x divided by n, which is above 0, rounded down.
func floor(x, n int) int {
	q := x / n
	if x%n < 0 {
		q--
	}
	return q
}

// remainders returns the elements of row modulo n.
func remainders(row []int, n int) []int {
	out := make([]int, len(row))
	for i, x := range row {
		out[i] = x - n*floor(x, n)
	}
	return out
}

// bezout returns the greatest common divisor g of x and y, which are above 0,
// and s and t with s·x + t·y = g.
func bezout(x, y int) (g, s, t int) {
	nextS, nextT := 0, 1
	s, t = 1, 0
	for y != 0 {
		q := x / y
		x, y = y, x-q*y
		s, nextS = nextS, s-q*nextS
		t, nextT = nextT, t-q*nextT
	}
	return x, s, t
}
