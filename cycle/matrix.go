package cycle

import "massecuite/api"

// valid reports whether a is a matrix with numbers from -limit to limit.
func valid(a [][]int, limit int) bool {
	if !within(len(a), 1, api.MaxSide) {
		return false
	}
	for _, row := range a {
		if len(row) != len(a) {
			return false
		}
		for _, x := range row {
			if x != api.Never && !within(x, -limit, limit) {
				return false
			}
		}
	}
	return true
}

func within(x, low, high int) bool { return low <= x && x <= high }

// build returns the matrix with n rows whose elements a function gives.
func build(n int, at func(i, j int) int) [][]int {
	a := make([][]int, n)
	for i := range a {
		a[i] = make([]int, n)
		for j := range a[i] {
			a[i][j] = at(i, j)
		}
	}
	return a
}

// greatest returns the sum of the algebra, which is Never for nothing.
func greatest(list ...int) int {
	best := api.Never
	for _, x := range list {
		best = max(best, x)
	}
	return best
}

// after returns the product of the algebra. No sum of numbers here comes near
// to Never.
func after(x, y int) int {
	if x == api.Never || y == api.Never {
		return api.Never
	}
	return x + y
}

// one returns the elements of the unit.
func one(i, j int) int {
	if i == j {
		return 0
	}
	return api.Never
}

func product(a, b [][]int) [][]int {
	sums := make([]int, len(a))
	return build(len(a), func(i, j int) int {
		for k := range sums {
			sums[k] = after(a[i][k], b[k][j])
		}
		return greatest(sums...)
	})
}

// power returns power k of a by squares, because k may be large.
func power(a [][]int, k int) [][]int {
	if k == 0 {
		return build(len(a), one)
	}
	half := power(a, k/2)
	whole := product(half, half)
	if k%2 == 1 {
		whole = product(whole, a)
	}
	return whole
}

// ways returns the greatest weights of the ways with fewer arcs than a has rows.
// If no cycle has a weight above 0, no other way has a greater weight, because
// it is no worse without its cycles.
func ways(a [][]int) [][]int {
	stay := build(len(a), func(i, j int) int { return greatest(one(i, j), a[i][j]) })
	return power(stay, len(a)-1)
}
