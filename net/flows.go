package net

import "slices"

// candidate is a vector of numbers at least 0, and the sums that have to be
// zero if it is a flow: they are the same combination of rows as numbers is of
// unit vectors.
type candidate struct{ numbers, sums []int }

// effects returns the effect of each transition.
func effects(n Net) [][]int {
	out := make([][]int, len(n.Pre))
	for t := range out {
		out[t] = make([]int, len(n.Start))
		for p := range out[t] {
			out[t][p] = n.Post[t][p] - n.Pre[t][p]
		}
	}
	return out
}

// placeEffects returns for each place what each transition adds to it.
func placeEffects(n Net) [][]int {
	out := make([][]int, len(n.Start))
	for _, row := range effects(n) {
		for p, x := range row {
			out[p] = append(out[p], x)
		}
	}
	return out
}

// minimalFlows returns the minimal combinations of rows, with numbers at least
// 0, that are zero: rising.
//
// The columns are balanced one after another. In between, the candidates are
// all minimal combinations that are zero in the columns done so far. Their
// numbers are minors of the rows, divided by a common divisor: with at most 6
// rows, of elements from -3 to 3, these are below 2^14.
func minimalFlows(rows [][]int) [][]int {
	list := make([]candidate, len(rows))
	for i, row := range rows {
		list[i] = candidate{make([]int, len(rows)), row}
		list[i].numbers[i] = 1
	}
	for column := range rows[0] {
		list = minimal(balanced(list, column))
	}
	out := make([][]int, len(list))
	for i, c := range list {
		out[i] = c.numbers
	}
	slices.SortFunc(out, slices.Compare)
	return out
}

// balanced returns the candidates whose sum in a column is zero, and those that
// two others whose sums have different signs make together.
func balanced(list []candidate, column int) []candidate {
	var out []candidate
	for i, c := range list {
		x := c.sums[column]
		if x == 0 {
			out = append(out, c)
			continue
		}
		for _, other := range list[i+1:] {
			y := other.sums[column]
			if x < 0 && y > 0 || x > 0 && y < 0 {
				out = append(out, merged(c, max(y, -y), other, max(x, -x)))
			}
		}
	}
	return out
}

// merged returns i times c and k times other, divided by the greatest common
// divisor of the numbers.
func merged(c candidate, i int, other candidate, k int) candidate {
	numbers := combined(c.numbers, i, other.numbers, k)
	sums := combined(c.sums, i, other.sums, k)
	g := 0
	for _, x := range numbers {
		g = divisor(g, x)
	}
	for _, row := range [][]int{numbers, sums} {
		for at := range row {
			row[at] /= g
		}
	}
	return candidate{numbers, sums}
}

// combined returns i·x + k·y.
func combined(x []int, i int, y []int, k int) []int {
	out := make([]int, len(x))
	for at := range out {
		out[at] = i*x[at] + k*y[at]
	}
	return out
}

// minimal returns the candidates that are minimal: no other one is zero at more
// indices. None of them occurs twice, since it lies between just two minimal
// ones of the column before.
func minimal(list []candidate) []candidate {
	var out []candidate
	for _, c := range list {
		set := support(c.numbers)
		less := func(other candidate) bool {
			part := support(other.numbers)
			return part != set && part&^set == 0
		}
		if !slices.ContainsFunc(list, less) {
			out = append(out, c)
		}
	}
	return out
}

// divisor returns the greatest common divisor of x and y, which are at least 0.
func divisor(x, y int) int {
	for y != 0 {
		x, y = y, x%y
	}
	return x
}
