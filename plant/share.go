package plant

import (
	"cmp"
	"slices"
)

// areLoads reports whether Share can share by these loads.
func areLoads(loads []int) bool {
	return in(len(loads), 1, maxGrowers) && slices.Min(loads) >= 0 && in(slices.Max(loads), 1, maxLoads)
}

// sum returns the sum of numbers.
func sum(numbers []int) int {
	all := 0
	for _, n := range numbers {
		all += n
	}
	return all
}

// shares returns what each gets of c cents by loads that are not all 0. Fewer
// cents are left than there are loads with a rest above 0.
func shares(c int, loads []int) []int {
	all := sum(loads)
	var out, order []int
	for k, n := range loads {
		out = append(out, c*n/all)
		order = append(order, k)
	}
	slices.SortStableFunc(order, func(k, l int) int { return cmp.Compare(c*loads[l]%all, c*loads[k]%all) })
	for _, k := range order[:c-sum(out)] {
		out[k]++
	}
	return out
}
