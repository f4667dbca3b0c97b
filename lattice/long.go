package lattice

import (
	"math/bits"
	"slices"
)

// long is a whole number modulo 2^256, in the two's complement with the least
// word first. The determinants and products of wide elements, which an int
// cannot hold, are below 2^208 in absolute value, and so it has them exactly.
type long [4]uint64

// longOf returns x as a long.
func longOf(x int) long {
	sign := uint64(0)
	if x < 0 {
		sign--
	}
	return long{uint64(x), sign, sign, sign}
}

// plus returns x + y.
func (x long) plus(y long) long {
	var out long
	carry := uint64(0)
	for i := range out {
		out[i], carry = bits.Add64(x[i], y[i], carry)
	}
	return out
}

// negative returns -x.
func (x long) negative() long {
	var out long
	borrow := uint64(0)
	for i := range out {
		out[i], borrow = bits.Sub64(0, x[i], borrow)
	}
	return out
}

// times returns x·y.
func (x long) times(y int) long {
	if y < 0 {
		x = x.negative()
		y = -y
	}
	var out long
	over := uint64(0)
	for i := range out {
		high, low := bits.Mul64(x[i], uint64(y))
		sum, carry := bits.Add64(low, over, 0)
		out[i] = sum
		over = high + carry
	}
	return out
}

// longDot returns the product of two vectors.
func longDot(x, y []int) long {
	var sum long
	for i := range x {
		sum = sum.plus(longOf(x[i]).times(y[i]))
	}
	return sum
}

// determinant returns the determinant of a square matrix.
func determinant(rows [][]int) long {
	if len(rows) == 0 {
		return longOf(1)
	}
	var sum long
	for j, x := range rows[0] {
		part := determinant(without(rows[1:], j)).times(x)
		if j%2 == 1 {
			part = part.negative()
		}
		sum = sum.plus(part)
	}
	return sum
}

// without returns rows without the column at index j.
func without(rows [][]int, j int) [][]int {
	out := make([][]int, len(rows))
	for i, row := range rows {
		out[i] = slices.Concat(row[:j], row[j+1:])
	}
	return out
}
