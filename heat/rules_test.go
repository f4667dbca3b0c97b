package heat_test

import (
	"math"
	"math/rand"
	"reflect"
	"slices"
	"testing"

	"massecuite/api"
	"massecuite/heat"
)

// results are those of all functions of streams.
type results struct {
	levels, cascade, pinches []int
	hot, cold, bound, cost   int
	plan                     []load
	serves                   bool
	errs                     [7]api.Errno
}

// called returns the results of all functions of streams.
func called(l []stream, gap, h, at int, p []load) results {
	var r results
	r.levels, r.errs[0] = heat.Levels(l, gap)
	r.cascade, r.errs[1] = heat.Cascade(l, gap, h)
	r.hot, r.cold, r.errs[2] = heat.Utilities(l, gap)
	r.pinches, r.errs[3] = heat.Pinches(l, gap)
	r.bound, r.errs[4] = heat.Bound(l, gap, at)
	r.plan, r.errs[5] = heat.Plan(l, gap)
	r.cost, r.serves, r.errs[6] = heat.Check(l, gap, p)
	return r
}

// isZero reports whether r has nothing but errors.
func (r results) isZero() bool {
	return len(r.levels)+len(r.cascade)+len(r.pinches)+len(r.plan) == 0 && r.hot == 0 && r.cold == 0 && r.bound == 0 && r.cost == 0 && !r.serves
}

// checkInvalid tests that all functions say ErrArg, whatever the other arguments
// are.
func checkInvalid(t *testing.T, l []stream, gap int) {
	t.Helper()
	want := [7]api.Errno(slices.Repeat([]api.Errno{api.ErrArg}, 7))
	for _, h := range []int{0, 20, -21, 1_000_001} {
		for _, p := range [][]load{nil, {{0, 1, 100, 100}}, {{-1, -1, -1, -1}}, make([]load, 201)} {
			if r := called(l, gap, h, h, p); !r.isZero() || r.errs != want {
				t.Error(l, gap, h, p, r)
			}
		}
	}
}

// checkValid tests that all functions say OK.
func checkValid(t *testing.T, l []stream, gap int) {
	t.Helper()
	for _, h := range []int{0, 200} {
		if r := called(l, gap, h, h, nil); r.errs != [7]api.Errno{} || len(r.levels) < 2 || len(r.plan) < 1 {
			t.Error(l, gap, r)
		}
	}
}

// P7.1 to P7.4: ErrArg for what are no streams or no gap, at each limit and one
// beyond it.
func TestInvalidStreams(t *testing.T) {
	for n := range 11 {
		l := slices.Repeat(even, 6)[:n]
		for _, gap := range []int{-1, 0, 20, 21, 200, 1 << 32, -1 << 32, math.MaxInt, math.MinInt} {
			if 1 <= n && n <= 8 && 0 <= gap && gap <= 20 {
				checkValid(t, l, gap)
			} else {
				checkInvalid(t, l, gap)
			}
		}
	}
	checkInvalid(t, nil, 0)
	checkInvalid(t, slices.Repeat(even, 50_000), 0)
	for _, s := range []stream{{200, 0, 1}, {0, 200, 1}, {200, 0, 20}, {0, 200, 20}, {1, 0, 1}, {0, 1, 20}, {199, 200, 1}, {200, 199, 20}} {
		checkValid(t, []stream{s}, 0)
		checkValid(t, []stream{s, {30, 40, 5}}, 20)
	}
	invalid := []stream{{}, {100, 100, 1}, {0, 0, 1}, {200, 200, 20}, {100, 100, 0}}
	for _, x := range []int{-1, 201, -200, 1 << 32, -1 << 32, math.MaxInt, math.MinInt} {
		invalid = append(invalid, stream{x, 100, 1}, stream{100, x, 1}, stream{x, x, 1}, stream{x, 0, 1}, stream{0, x, 1}, stream{x, 200, 1}, stream{200, x, 1})
	}
	for _, x := range []int{0, 21, -1, -20, 1 << 32, 1<<32 + 1, math.MaxInt, math.MinInt} {
		invalid = append(invalid, stream{100, 0, x}, stream{0, 100, x})
	}
	for _, s := range invalid {
		for n := 1; n <= 8; n++ {
			for k := range n {
				l := slices.Repeat(even, 4)[:n]
				l[k] = s
				checkInvalid(t, l, 0)
				checkInvalid(t, l, 20)
			}
		}
	}
}

// P7.1: h is from 0 to 1,000,000. P7.3: t is from -20 to 200, whatever the gap.
func TestOtherArguments(t *testing.T) {
	for _, s := range named() {
		for _, x := range []int{-1, 1_000_001, 1 << 32, -1 << 32, math.MaxInt, math.MinInt} {
			if c, e := heat.Cascade(s.l, s.gap, x); len(c) > 0 || e != api.ErrArg {
				t.Error("Cascade", s, x, c, e)
			}
		}
		for _, x := range []int{-21, 201, 1 << 32, -1 << 32, math.MaxInt, math.MinInt} {
			if b, e := heat.Bound(s.l, s.gap, x); b != 0 || e != api.ErrArg {
				t.Error("Bound", s, x, b, e)
			}
		}
		for _, x := range []int{0, 1, 999_999, 1_000_000} {
			checkCascade(t, s.l, s.gap, x, cascadeOf(s.l, s.gap, x)...)
		}
		for _, x := range []int{-20, -19, 199, 200} {
			checkBound(t, s.l, s.gap, x, boundOf(s.l, s.gap, x))
		}
	}
}

// Rules 2 and 4: the same results each time, no argument changed, and no memory
// shared by two of the arguments and results.
func TestRules(t *testing.T) {
	r := rand.New(rand.NewSource(11))
	for _, s := range systems() {
		l, p := slices.Clone(s.l), drawnPlan(r, s.l, s.gap)
		q := slices.Clone(p)
		first := called(l, s.gap, 50, 50, q)
		second := called(l, s.gap, 50, 50, q)
		if !slices.Equal(l, s.l) || !slices.Equal(p, q) {
			t.Fatal("changed", s, p, l, q)
		}
		if !reflect.DeepEqual(first, second) {
			t.Fatal("not the same", s, first, second)
		}
		checkNotShared(t, first.levels, first.cascade, first.pinches, second.levels, second.cascade, second.pinches)
		clear(first.plan[:cap(first.plan)])
		if slices.Contains(second.plan, load{}) || !slices.Equal(p, q) {
			t.Fatal("shared", s)
		}
		if third := called(s.l, s.gap, 50, 50, p); !slices.Equal(third.levels, levelsOf(s.l, s.gap)) || !slices.Equal(third.plan, second.plan) {
			t.Fatal("kept", s, third)
		}
	}
}

// checkNotShared tests that no two of the slices share memory.
func checkNotShared(t *testing.T, all ...[]int) {
	t.Helper()
	for k, x := range all {
		whole := x[:cap(x)]
		for i := range whole {
			whole[i] = 777 + k
		}
	}
	for k, x := range all {
		for _, y := range x[:cap(x)] {
			if y != 777+k {
				t.Fatal("shared", k)
			}
		}
	}
}

// The same for heat loads.
func TestRulesOfLoads(t *testing.T) {
	r := rand.New(rand.NewSource(12))
	for range 500 {
		hot := drawnLoads(r, 1+r.Intn(6), 6+r.Intn(20), 26)
		cold := drawnLoads(r, 1+r.Intn(6), sum(hot), 26)
		// What is behind the end of a slice is no part of it, and stays.
		wide := append(slices.Clone(hot), 5, 5, 5, 5, 5, 5, 5)
		wider := append(slices.Clone(cold), 5, 5, 5, 5, 5, 5, 5)
		x, y := wide[:len(hot)], wider[:len(cold)]
		n, e := heat.Matches(x, y)
		first, e2 := heat.Assign(x, y)
		m, e3 := heat.Matches(x, y)
		second, e4 := heat.Assign(x, y)
		if n != m || !slices.Equal(first, second) || max(e, e2, e3, e4) != api.OK {
			t.Fatal("not the same", hot, cold, n, m, first, second)
		}
		clear(first[:cap(first)])
		tail := []int{5, 5, 5, 5, 5, 5, 5}
		if !slices.Equal(wide, append(hot, tail...)) || !slices.Equal(wider, append(cold, tail...)) {
			t.Fatal("changed", hot, cold, wide, wider)
		}
		if slices.Contains(second, [3]int{}) {
			t.Fatal("shared", hot, cold)
		}
	}
}

// Rule 4: a nil slice and an empty one are the same.
func TestNil(t *testing.T) {
	checkInvalid(t, nil, 10)
	checkInvalid(t, []stream{}, 10)
	for _, p := range [][]load{nil, {}} {
		checkFails(t, even, 10, p...)
		if h, ok, e := heat.Check(nil, 10, p); h != 0 || ok || e != api.ErrArg {
			t.Error(h, ok, e)
		}
	}
	for _, none := range [][]int{nil, {}} {
		checkNoMatches(t, none, none)
		checkNoMatches(t, none, []int{1})
		checkNoMatches(t, []int{1}, none)
	}
}
