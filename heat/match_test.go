package heat_test

import (
	"math"
	"math/rand"
	"slices"
	"testing"

	"massecuite/api"
	"massecuite/heat"
)

// checkMatches tests that Matches says n, and that Assign returns a matching plan
// with n elements.
func checkMatches(t *testing.T, hot, cold []int, n int) {
	t.Helper()
	if x, e := heat.Matches(hot, cold); x != n || e != api.OK {
		t.Error("Matches", hot, cold, x, e, "want", n)
	}
	if l, e := heat.Assign(hot, cold); !isMatching(hot, cold, l) || len(l) != n || e != api.OK {
		t.Error("Assign", hot, cold, l, e, "want", n)
	}
}

func checkNoMatches(t *testing.T, hot, cold []int) {
	t.Helper()
	if x, e := heat.Matches(hot, cold); x != 0 || e != api.ErrArg {
		t.Error("Matches", hot, cold, x, e)
	}
	if l, e := heat.Assign(hot, cold); len(l) > 0 || e != api.ErrArg {
		t.Error("Assign", hot, cold, l, e)
	}
}

// P7.5, with example 4: ordinary heat loads and the least and greatest ones.
func TestMatches(t *testing.T) {
	for _, c := range []struct {
		hot, cold []int
		n         int
	}{
		{[]int{3, 5}, []int{5, 3}, 2},
		{[]int{4, 4}, []int{3, 5}, 3},
		{[]int{1}, []int{1}, 1},
		{[]int{1000}, []int{1000}, 1},
		{[]int{6}, []int{1, 1, 1, 1, 1, 1}, 6},
		{[]int{1, 2, 3, 4, 5, 6}, []int{21}, 6},
		{[]int{1, 1, 1, 1, 1, 1}, []int{1, 1, 1, 1, 1, 1}, 6},
		{[]int{1000, 1000, 1000, 1000, 1000, 1000}, []int{1000, 1000, 1000, 1000, 1000, 1000}, 6},
		{[]int{1, 2, 4, 8, 16, 32}, []int{32, 16, 8, 4, 2, 1}, 6},
		{[]int{1, 2, 4, 8, 16, 32}, []int{3, 12, 48}, 6},
		{[]int{3, 3, 3, 3, 3, 3}, []int{9, 9}, 6},
		// No proper part has equal sums.
		{[]int{7, 7, 7, 7, 7, 7}, []int{6, 6, 6, 6, 6, 12}, 11},
		{[]int{6, 6, 6, 6, 6}, []int{5, 5, 5, 5, 5, 5}, 10},
		{[]int{1000, 1000, 1000, 1000, 1000, 1}, []int{999, 999, 999, 999, 999, 6}, 11},
		// The first part that is found is not one of the most.
		{[]int{5, 3, 2, 4, 6}, []int{8, 6, 6}, 5},
		{[]int{1, 2, 3, 4, 5, 6}, []int{6, 5, 4, 3, 2, 1}, 6},
		{[]int{2, 3, 5, 7}, []int{10, 7}, 4},
		{[]int{2, 2, 3, 3}, []int{4, 6}, 4},
		{[]int{10, 1}, []int{4, 7}, 3},
	} {
		checkMatches(t, c.hot, c.cold, c.n)
		checkMatches(t, c.cold, c.hot, c.n)
	}
}

// drawnLoads returns numbers from 1 to high with this sum, or nil if there are
// none.
func drawnLoads(r *rand.Rand, n, sum, high int) []int {
	out := make([]int, n)
	for k := range out {
		after := n - 1 - k
		low, top := max(1, sum-after*high), min(high, sum-after)
		if low > top {
			return nil
		}
		out[k] = low + r.Intn(top-low+1)
		sum -= out[k]
	}
	r.Shuffle(n, func(i, j int) { out[i], out[j] = out[j], out[i] })
	return out
}

// P7.5: no matching plan has fewer elements, by trying all of them. P7.10: with
// the most parts, too.
func TestFewest(t *testing.T) {
	for _, sides := range [][2]int{{1, 1}, {1, 2}, {1, 4}, {2, 2}, {2, 3}, {3, 2}, {3, 3}, {2, 4}} {
		tried := 0
		for hot := range splits(sides[0], 9) {
			for cold := range splits(sides[1], 9) {
				tried++
				if sum(hot) != sum(cold) {
					checkNoMatches(t, hot, cold)
				} else if n := fewest(hot, cold); tried%3 == 0 || n < sides[0]+sides[1]-1 {
					checkMatches(t, hot, cold, n)
					checkMatches(t, hot, cold, len(hot)+len(cold)-mostParts(hot, cold))
				}
			}
		}
	}
}

// splits goes through all slices of n numbers from 1 on whose sum is at most
// high.
func splits(n, high int) func(yield func(l []int) bool) {
	return func(yield func(l []int) bool) {
		var walk func(l []int, left int) bool
		walk = func(l []int, left int) bool {
			if len(l) == n {
				return yield(slices.Clone(l))
			}
			for x := 1; x <= left; x++ {
				if !walk(append(l, x), left-x) {
					return false
				}
			}
			return true
		}
		walk(nil, high)
	}
}

func sum(l []int) int {
	out := 0
	for _, x := range l {
		out += x
	}
	return out
}

// P7.10: Matches is the number of loads less the most parts with equal sums.
func TestParts(t *testing.T) {
	r := rand.New(rand.NewSource(10))
	found := map[int]int{}
	for k := range 1500 {
		n, m := 1+r.Intn(6), 1+r.Intn(6)
		high := []int{2, 5, 12, 60, 1000}[k%5]
		hot := drawnLoads(r, n, max(n, r.Intn(n*high)+1), high)
		cold := drawnLoads(r, m, sum(hot), high)
		if cold == nil || k%4 == 0 && n == m {
			cold = slices.Clone(hot)
			r.Shuffle(n, func(i, j int) { cold[i], cold[j] = cold[j], cold[i] })
		}
		parts := mostParts(hot, cold)
		found[parts]++
		checkMatches(t, hot, cold, len(hot)+len(cold)-parts)
	}
	for parts := 1; parts <= 6; parts++ {
		if found[parts] < 20 {
			t.Error("too few with", parts, "parts", found)
		}
	}
}

// P7.5: ErrArg for what are no heat loads.
func TestInvalidLoads(t *testing.T) {
	ones := func(n int) []int { return slices.Repeat([]int{1}, n) }
	for _, n := range []int{0, 7, 8, 12, 13, 64, 100_000} {
		checkNoMatches(t, ones(n), ones(n))
		checkNoMatches(t, ones(n), []int{n})
		checkNoMatches(t, []int{n}, ones(n))
		checkNoMatches(t, ones(n), ones(6))
		checkNoMatches(t, ones(6), ones(n))
		checkNoMatches(t, ones(n), []int{5, n - 5})
	}
	for n := 1; n <= 6; n++ {
		for k := range n {
			for _, x := range []int{0, 1001, -1, -1000, 1 << 32, math.MaxInt, math.MinInt} {
				l := slices.Repeat([]int{500}, n)
				l[k] = x
				checkNoMatches(t, l, l)
				checkNoMatches(t, l, []int{500})
				checkNoMatches(t, []int{500}, l)
				checkNoMatches(t, l, []int{sum(l)})
				checkNoMatches(t, slices.Repeat([]int{1000}, 6)[:n], l)
			}
		}
		checkNoMatches(t, ones(n), ones(n%6+1))
		checkNoMatches(t, ones(n), []int{n + 1})
		checkNoMatches(t, []int{1000}, slices.Repeat([]int{1000}, n+1)[:min(n+1, 6)])
	}
	// Sums that would be equal if loads of any size, or none, were valid.
	checkNoMatches(t, []int{0, 1}, []int{1})
	checkNoMatches(t, []int{1}, []int{1, 0})
	checkNoMatches(t, []int{-1, 3}, []int{2})
	checkNoMatches(t, []int{1001}, []int{1000, 1})
	checkNoMatches(t, []int{999, 2}, []int{1001})
	checkNoMatches(t, []int{math.MaxInt, math.MaxInt, 3}, []int{1})
	checkNoMatches(t, nil, nil)
	checkNoMatches(t, nil, []int{1})
	checkNoMatches(t, []int{1}, nil)
	checkNoMatches(t, []int{999}, []int{1000})
	checkNoMatches(t, []int{3, 5}, []int{5, 4})
}
