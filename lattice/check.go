package lattice

import "slices"

// makesHermite reports whether h is the Hermite form that u makes of a.
func makesHermite(a, h, u [][]int) bool {
	m, n := len(a), len(a[0])
	if !fits(h, m, n, maxWide) || !fits(u, m, m, maxWide) {
		return false
	}
	return isHermite(h) && unimodular(u) && slices.EqualFunc(product(u, a), h, slices.Equal)
}

// makesSmith reports whether d is the Smith list that u and v make of a.
func makesSmith(a [][]int, d []int, u, v [][]int) bool {
	m, n := len(a), len(a[0])
	if len(d) != min(m, n) || !fits(u, m, m, maxWide) || !fits(v, n, n, maxWide) {
		return false
	}
	return isSmith(d) && unimodular(u) && unimodular(v) && isDiagonal(product(u, a), v, d)
}

// isDiagonal reports whether w·v is the matrix with d in the diagonal.
func isDiagonal(w, v [][]int, d []int) bool {
	for i, row := range w {
		for j, column := range transposed(v, len(v)) {
			want := 0
			if i == j {
				want = d[i]
			}
			if longDot(row, column) != longOf(want) {
				return false
			}
		}
	}
	return true
}

// unimodular reports whether the determinant of a square matrix is 1 or -1.
func unimodular(u [][]int) bool {
	det := determinant(u)
	return det == longOf(1) || det == longOf(-1)
}

// refutes reports whether den divides all elements of y·a, but not y·b.
func refutes(a [][]int, b, y []int, den int) bool {
	if len(y) != len(a) || !within(y, maxWide) || den < 1 || den > maxWide {
		return false
	}
	for _, column := range transposed(a, len(a[0])) {
		if dot(y, column)%den != 0 {
			return false
		}
	}
	return dot(y, b)%den != 0
}
