package batch_test

import (
	"math"
	"math/rand"
	"slices"
	"testing"

	"massecuite/api"
	"massecuite/batch"
)

// checkTasks tests that Jackson and Group say this.
func checkTasks(t *testing.T, heads, times, tails []int, bound int, set ...int) {
	t.Helper()
	if n, e := batch.Jackson(heads, times, tails); n != bound || e != api.OK {
		t.Error("Jackson", heads, times, tails, n, e, "want", bound)
	}
	if l, e := batch.Group(heads, times, tails); !slices.Equal(l, set) || e != api.OK {
		t.Error("Group", heads, times, tails, l, e, "want", set)
	}
}

func checkNoTasks(t *testing.T, heads, times, tails []int) {
	t.Helper()
	if n, e := batch.Jackson(heads, times, tails); n != 0 || e != api.ErrArg {
		t.Error("Jackson", heads, times, tails, n, e)
	}
	if l, e := batch.Group(heads, times, tails); len(l) > 0 || e != api.ErrArg {
		t.Error("Group", heads, times, tails, l, e)
	}
}

// P8.3, with example 2: tasks by hand.
func TestTasksByHand(t *testing.T) {
	checkTasks(t, []int{0, 1}, []int{4, 1}, []int{0, 5}, 7, 1)
	// One task, at the limits.
	checkTasks(t, []int{0}, []int{1}, []int{0}, 1, 0)
	checkTasks(t, []int{1000}, []int{100}, []int{1000}, 2100, 0)
	checkTasks(t, []int{0}, []int{100}, []int{1000}, 1100, 0)
	// Twelve of them.
	zeros, most := make([]int, 12), slices.Repeat([]int{1000}, 12)
	all := []int{0, 1, 2, 3, 4, 5, 6, 7, 8, 9, 10, 11}
	checkTasks(t, zeros, slices.Repeat([]int{1}, 12), zeros, 12, all...)
	checkTasks(t, most, slices.Repeat([]int{100}, 12), most, 3200, all...)
	// The machine is idle before heads come.
	checkTasks(t, []int{3, 20, 10}, []int{2, 3, 4}, []int{1, 0, 2}, 23, 1)
	checkTasks(t, []int{5, 5}, []int{1, 1}, []int{0, 0}, 7, 0, 1)
	// A task is interrupted twice, and finished last.
	checkTasks(t, []int{0, 2, 4}, []int{5, 1, 2}, []int{3, 4, 9}, 15, 2)
	checkTasks(t, []int{0, 2, 4}, []int{10, 1, 2}, []int{3, 4, 9}, 16, 0, 1, 2)
	// A task that is interrupted by one that is interrupted.
	checkTasks(t, []int{0, 1, 2}, []int{2, 2, 2}, []int{1, 2, 3}, 7, 2)
	// One with a lower or an equal tail does not interrupt.
	checkTasks(t, []int{0, 1}, []int{4, 1}, []int{5, 0}, 9, 0)
	checkTasks(t, []int{0, 1}, []int{4, 1}, []int{5, 5}, 10, 0, 1)
	// Several sets have the greatest bound: the fewest elements, then the first.
	checkTasks(t, []int{0, 0}, []int{3, 3}, []int{3, 0}, 6, 0)
	checkTasks(t, []int{0, 0}, []int{3, 3}, []int{0, 3}, 6, 1)
	checkTasks(t, []int{7, 0, 7}, []int{1, 8, 1}, []int{5, 5, 5}, 15, 0, 1, 2)
	checkTasks(t, []int{7, 0, 7}, []int{3, 1, 3}, []int{0, 14, 0}, 15, 1)
	checkTasks(t, []int{9, 1, 0, 9}, []int{1, 1, 1, 1}, []int{0, 8, 9, 0}, 11, 0, 3)
	checkTasks(t, []int{0, 4, 4}, []int{4, 2, 2}, []int{4, 2, 2}, 10, 1, 2)
	checkTasks(t, []int{0, 9, 0, 9}, []int{5, 1, 5, 1}, []int{0, 0, 0, 0}, 12, 0, 1, 2, 3)
	checkTasks(t, []int{4, 0, 1, 5, 0}, []int{6, 7, 8, 5, 9}, []int{0, 3, 1, 0, 1}, 35, 0, 1, 2, 3, 4)
	checkTasks(t, []int{2, 2, 2, 2}, []int{5, 5, 5, 5}, []int{5, 5, 0, 10}, 22, 0, 1, 3)
}

// P8.3, P8.7: Jackson as it is defined, with the bound of Group; and Group by
// trying all sets.
func TestTasks(t *testing.T) {
	r := rand.New(rand.NewSource(10))
	more, as := 0, 0
	for k := range 2000 {
		n := 1 + k%12
		wide, high := []int{2, 4, 8, 40, 1000}[r.Intn(5)], []int{1, 2, 3, 20, 100}[r.Intn(5)]
		var heads, times, tails []int
		for range n {
			heads = append(heads, r.Intn(wide+1))
			times = append(times, 1+r.Intn(high))
			tails = append(tails, r.Intn(wide+1))
		}
		set, bound := groupOf(heads, times, tails)
		checkTasks(t, heads, times, tails, bound, set...)
		checkTasks(t, heads, times, tails, jacksonOf(heads, times, tails), set...)
		if n > 8 {
			continue
		}
		for bits := 1; bits < 1<<n; bits++ {
			var other []int
			for x := range n {
				if bits>>x&1 == 1 {
					other = append(other, x)
				}
			}
			if boundOf(heads, times, tails, other) != bound || slices.Equal(set, other) {
				continue
			}
			if len(other) > len(set) {
				more++
			} else {
				as++
			}
		}
	}
	if more < 200 || as < 20 {
		t.Error("too few with several sets", more, as)
	}
}

// P8.3: ErrArg for what are no tasks, at each limit and one beyond it.
func TestNoTasks(t *testing.T) {
	ones := func(n int) []int { return slices.Repeat([]int{1}, n) }
	for _, n := range []int{0, 13, 14, 64, 100_000} {
		checkNoTasks(t, ones(n), ones(n), ones(n))
		for _, k := range []int{1, 12} {
			checkNoTasks(t, ones(n), ones(k), ones(k))
			checkNoTasks(t, ones(k), ones(n), ones(k))
			checkNoTasks(t, ones(k), ones(k), ones(n))
		}
	}
	checkNoTasks(t, nil, nil, nil)
	for n := 1; n <= 12; n++ {
		for _, k := range []int{n - 1, n + 1} {
			checkNoTasks(t, ones(k), ones(n), ones(n))
			checkNoTasks(t, ones(n), ones(k), ones(n))
			checkNoTasks(t, ones(n), ones(n), ones(k))
		}
		for k := range n {
			for _, x := range []int{-1, 1001, -1000, 1 << 32, -1 << 32, math.MaxInt, math.MinInt} {
				l := ones(n)
				l[k] = x
				checkNoTasks(t, l, ones(n), ones(n))
				checkNoTasks(t, ones(n), ones(n), l)
				checkNoTasks(t, l, l, l)
			}
			for _, x := range []int{0, 101, -1, -100, 1000, 1 << 32, 1 + 1<<32, math.MaxInt, math.MinInt} {
				l := ones(n)
				l[k] = x
				checkNoTasks(t, ones(n), l, ones(n))
			}
			heads, times, tails := ones(n), ones(n), ones(n)
			heads[k], times[k], tails[k] = 1000, 100, 1000
			checkTasks(t, heads, times, tails, 2100, k)
			heads[k], times[k], tails[k] = 0, 100, 0
			set, bound := groupOf(heads, times, tails)
			checkTasks(t, heads, times, tails, bound, set...)
		}
	}
}
