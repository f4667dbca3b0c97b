// Package lattice is linear algebra over the whole numbers: Hermite's and
// Smith's forms, all whole solutions of linear systems, and proofs that there
// are none. See shared/doc/01-lattice.md.
package lattice

import (
	"slices"

	"massecuite/api"
)

// Hermite returns the Hermite form h of a, and a unimodular u with u·a = h.
func Hermite(a [][]int) (h, u [][]int, e api.Errno) {
	if !valid(a) {
		return nil, nil, api.ErrArg
	}
	h, u = hermite(a)
	return h, u, api.OK
}

// Smith returns the Smith list d of a, and unimodular u and v that make u·a·v
// the matrix with d in the diagonal.
func Smith(a [][]int) (d []int, u, v [][]int, e api.Errno) {
	if !valid(a) {
		return nil, nil, nil, api.ErrArg
	}
	d, u, v = smith(a)
	return d, u, v, api.OK
}

// CheckHermite reports whether h is a Hermite form and u a unimodular matrix
// with u·a = h.
func CheckHermite(a, h, u [][]int) (bool, api.Errno) {
	if !valid(a) {
		return false, api.ErrArg
	}
	return makesHermite(a, h, u), api.OK
}

// CheckSmith reports whether d is a Smith list, and u and v are unimodular
// matrices that make u·a·v the matrix with d in the diagonal.
func CheckSmith(a [][]int, d []int, u, v [][]int) (bool, api.Errno) {
	if !valid(a) {
		return false, api.ErrArg
	}
	return makesSmith(a, d, u, v), api.OK
}

// Rank returns the number of rows of the Hermite form that are not zero.
func Rank(a [][]int) (int, api.Errno) {
	if !valid(a) {
		return 0, api.ErrArg
	}
	return len(basis(a)), api.OK
}

// Kernel returns the lattice basis of all whole x with a·x = 0.
func Kernel(a [][]int) ([][]int, api.Errno) {
	if !valid(a) {
		return nil, api.ErrArg
	}
	images := columnForm(a, len(a[0]))
	first := slices.IndexFunc(images, func(row []int) bool { return lead(row) >= len(a) })
	if first < 0 {
		return nil, api.OK
	}
	return columns(images[first:], len(a), len(images[0])), api.OK
}

// Solve returns the whole x with a·x = b that is reduced by Kernel(a).
func Solve(a [][]int, b []int) ([]int, api.Errno) {
	if !validSystem(a, b) {
		return nil, api.ErrArg
	}
	// The form's rows are a·x beside x: what they bring from -b to zero is
	// a solution, and the rows of the kernel reduce it on the way.
	start := make([]int, len(a)+len(a[0]))
	for i, x := range b {
		start[i] = -x
	}
	rest := reduced(start, columnForm(a, len(a[0])))
	if lead(rest) < len(a) {
		return nil, api.ErrNone
	}
	return slices.Clone(rest[len(a):]), api.OK
}

// Refuse returns y and den, which divides all elements of y·a but not y·b.
func Refuse(a [][]int, b []int) (y []int, den int, e api.Errno) {
	if !validSystem(a, b) {
		return nil, 0, api.ErrArg
	}
	d, u, _ := smith(a)
	for i, row := range u {
		side := dot(row, b)
		if i >= len(d) || d[i] == 0 {
			// Here y·a is zero, so that any den serves that is too
			// great to divide y·b.
			if side != 0 {
				return row, max(side, -side) + 1, api.OK
			}
			continue
		}
		if side%d[i] != 0 {
			return remainders(row, d[i]), d[i], api.OK
		}
	}
	return nil, 0, api.ErrNone
}

// CheckRefuse reports whether y and den prove that a·x = b has no whole x.
func CheckRefuse(a [][]int, b, y []int, den int) (bool, api.Errno) {
	if !validSystem(a, b) {
		return false, api.ErrArg
	}
	return refutes(a, b, y, den), api.OK
}

// Group returns the divisors of the group of the whole vectors modulo a·x.
func Group(a [][]int) ([]int, api.Errno) {
	if !valid(a) {
		return nil, api.ErrArg
	}
	d, _, _ := smith(a)
	for range len(a) - len(d) {
		d = append(d, 0)
	}
	return slices.DeleteFunc(d, func(x int) bool { return x == 1 }), api.OK
}
