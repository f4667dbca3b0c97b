package batch_test

import (
	"math"
	"math/rand"
	"slices"
	"testing"

	"massecuite/api"
	"massecuite/batch"
	"massecuite/cycle"
)

// checkStarts tests that Starts and Makespan say this.
func checkStarts(t *testing.T, s shop, order [][]int, span int, starts ...int) {
	t.Helper()
	if l, e := batch.Starts(s, order); !slices.Equal(l, starts) || e != api.OK {
		t.Error("Starts", s, order, l, e, "want", starts)
	}
	if n, e := batch.Makespan(s, order); n != span || e != api.OK {
		t.Error("Makespan", s, order, n, e, "want", span)
	}
}

// checkNoStarts tests that Starts, Makespan and Weights say e.
func checkNoStarts(t *testing.T, s shop, order [][]int, e api.Errno) {
	t.Helper()
	if l, f := batch.Starts(s, order); len(l) > 0 || f != e {
		t.Error("Starts", s, order, l, f, "want", e)
	}
	if n, f := batch.Makespan(s, order); n != 0 || f != e {
		t.Error("Makespan", s, order, n, f, "want", e)
	}
	checkNoWeights(t, s, order, e)
}

// checkNoWeights tests that Weights says e.
func checkNoWeights(t *testing.T, s shop, order [][]int, e api.Errno) {
	t.Helper()
	if m, f := batch.Weights(s, order); len(m) > 0 || f != e {
		t.Error("Weights", s, order, m, f, "want", e)
	}
}

// Example 1.
func TestExampleOfOrders(t *testing.T) {
	checkStarts(t, two(), [][]int{{2, 0}, {3, 1}}, 8, 2, 6, 0, 2)
	checkStarts(t, two(), [][]int{{0, 2}, {1, 3}}, 9, 0, 3, 3, 5)
	if _, n, e := batch.Best(two()); n != 8 || e != api.OK {
		t.Error(n, e)
	}
}

// P8.1: all orders of shops, also those that are not feasible.
func TestStarts(t *testing.T) {
	loops := 0
	for _, s := range shops() {
		all := ordersOf(s)
		for k := 0; k < len(all); k += 1 + len(all)/40 {
			arcs := arcsOf(s, all[k])
			if hasCycle(arcs) {
				loops++
				checkNoStarts(t, s, all[k], api.ErrLoop)
				continue
			}
			starts := startsOf(s, arcs)
			checkStarts(t, s, all[k], spanOf(s, starts), starts...)
		}
	}
	if loops < 300 {
		t.Error("too few", loops)
	}
}

// P8.1: orders by hand. Without an operation of its own, a machine's slice is
// empty; a job of one operation follows only its machine's slice.
func TestStartsByHand(t *testing.T) {
	one := shop{1, [][]op{{{0, 20}}}}
	checkStarts(t, one, [][]int{{0}}, 20, 0)
	checkStarts(t, shop{4, [][]op{{{2, 1}}}}, [][]int{{}, {}, {0}, {}}, 1, 0)
	checkStarts(t, shop{4, [][]op{{{2, 1}}}}, [][]int{nil, nil, {0}, nil}, 1, 0)
	checkStarts(t, shop{1, [][]op{{{0, 3}}, {{0, 4}}, {{0, 5}}}}, [][]int{{2, 0, 1}}, 12, 5, 8, 0)
	checkStarts(t, shop{4, [][]op{{{3, 1}, {2, 2}, {1, 4}, {0, 8}}}}, [][]int{{3}, {2}, {1}, {0}}, 15, 0, 1, 3, 7)
	opposite := shop{2, [][]op{{{0, 3}, {1, 2}}, {{1, 2}, {0, 4}}}}
	checkStarts(t, opposite, [][]int{{0, 3}, {2, 1}}, 7, 0, 3, 0, 3)
	checkStarts(t, opposite, [][]int{{0, 3}, {1, 2}}, 11, 0, 3, 5, 7)
	checkStarts(t, opposite, [][]int{{3, 0}, {2, 1}}, 11, 6, 9, 0, 2)
	checkNoStarts(t, opposite, [][]int{{3, 0}, {1, 2}}, api.ErrLoop)
}

// P8.1: ErrForm for what is no order, also if its arcs would have a cycle.
func TestNoOrders(t *testing.T) {
	opposite := shop{2, [][]op{{{0, 3}, {1, 2}}, {{1, 2}, {0, 4}}}}
	for _, s := range []shop{two(), opposite} {
		x, y := onMachine(s, 0), onMachine(s, 1)
		a, b, c, d := x[0], x[1], y[0], y[1]
		wrong := [][][]int{
			nil, {}, {x}, {y}, {x, y, nil}, {x, y, {}}, {nil, x, y}, {x, y, x}, {x, y, {0}}, {x, y, nil, nil}, // other slices
			{y, x}, {nil, nil}, {x, nil}, {nil, y}, {{a}, y}, {{b}, y}, {x, {c}}, {x, {d}}, // other or fewer operations
			{{a, a}, y}, {{a, b, a}, y}, {{b, b, a}, y}, {x, {d, d}}, {x, {c, d, c}}, {{a, b, a, b}, y}, // one twice
			{{a, c}, {b, d}}, {{a, b, c}, {d}}, {{a, b, c}, {c, d}}, {{c, d}, {a, b}}, {{a, c}, y}, {{a, b, c, d}, nil}, // of another machine
			{{a, 4}, y}, {{a, b, 4}, y}, {x, {c, 4}}, {x, {9, d}}, {{a, -1}, y}, {{-1, b}, y}, {x, {c, d, -1}}, {x, {-1, -1}}, // no number
			slices.Repeat([][]int{{0}}, 100_000), {slices.Repeat([]int{a}, 100_000), y},
		}
		for _, z := range []int{math.MaxInt, math.MinInt, 1 << 32, -1 << 32, 64, 4 + 1<<32} {
			wrong = append(wrong, [][]int{{a, z}, y}, [][]int{{a, b, z}, y}, [][]int{x, {z, d}}, [][]int{{z}, {z}})
		}
		for _, order := range wrong {
			checkNoStarts(t, s, order, api.ErrForm)
		}
	}
	// ErrForm precedes ErrLoop.
	checkNoStarts(t, opposite, [][]int{{3, 0}, {1, 2}, nil}, api.ErrForm)
	empty := shop{3, opposite.Jobs}
	checkNoStarts(t, empty, [][]int{{3, 0}, {1, 2}}, api.ErrForm)
	checkNoStarts(t, empty, [][]int{{3, 0}, {1, 2}, {0}}, api.ErrForm)
	checkNoStarts(t, empty, [][]int{{3, 0}, {1, 2}, {}}, api.ErrLoop)
	checkStarts(t, empty, [][]int{{0, 3}, {2, 1}, {}}, 7, 0, 3, 0, 3)
}

// P8.2: Best is a feasible order with the least makespan of all.
func TestBest(t *testing.T) {
	several := 0
	for _, s := range shops() {
		least := leastOf(s)
		order, n, e := batch.Best(s)
		if n != least || e != api.OK {
			t.Error("Best", s, order, n, e, "want", least)
		}
		if k, e := batch.Makespan(s, order); k != least || e != api.OK {
			t.Error("Best", s, order, k, e, "want", least)
		}
		best := 0
		for _, other := range ordersOf(s) {
			if arcs := arcsOf(s, other); !hasCycle(arcs) && spanOf(s, startsOf(s, arcs)) == least {
				best++
			}
		}
		if best > 1 {
			several++
		}
	}
	if several < 50 {
		t.Error("too few with several best orders", several)
	}
}

// P8.5: the matrix of the arcs. P8.8: with the greatest elements of its Star the
// operations start.
func TestWeights(t *testing.T) {
	sizes := map[int]int{}
	for _, s := range shops() {
		ops, _ := opsOf(s)
		sizes[len(ops)]++
		all := ordersOf(s)
		for k := 0; k < len(all); k += 1 + len(all)/20 {
			arcs := arcsOf(s, all[k])
			if hasCycle(arcs) {
				checkNoWeights(t, s, all[k], api.ErrLoop)
				continue
			}
			if len(ops) > 6 {
				checkNoWeights(t, s, all[k], api.ErrArg)
				continue
			}
			m, e := batch.Weights(s, all[k])
			if e != api.OK || len(m) != 6 {
				t.Fatal("Weights", s, all[k], m, e)
			}
			star, e := cycle.Star(m)
			if e != api.OK {
				t.Fatal("Star", s, all[k], m, e)
			}
			starts, _ := batch.Starts(s, all[k])
			for j := range 6 {
				start := 0
				for i := range 6 {
					want := api.Never
					if slices.Contains(arcs, pair{i, j}) {
						want = ops[i].Time
					}
					if len(m[i]) != 6 || m[i][j] != want {
						t.Error("Weights", s, all[k], m, "want", want, "at", i, j)
					}
					start = max(start, star[i][j])
				}
				if j < len(ops) && start != starts[j] {
					t.Error("Star", s, all[k], star, starts)
				}
			}
		}
	}
	for n := 1; n <= 9; n++ {
		if sizes[n] < 5 {
			t.Error("too few with", n, "operations", sizes)
		}
	}
}

// P8.5: a matrix by hand, of 6 operations, and the errors with one more.
func TestWeightsByHand(t *testing.T) {
	const no = api.Never
	s := shop{3, [][]op{{{0, 1}, {1, 2}, {2, 3}}, {{2, 4}, {1, 5}}, {{1, 6}}}}
	m, e := batch.Weights(s, [][]int{{0}, {1, 5, 4}, {3, 2}})
	want := [][]int{
		{no, 1, no, no, no, no}, {no, no, 2, no, no, 2}, {no, no, no, no, no, no},
		{no, no, 4, no, 4, no}, {no, no, no, no, no, no}, {no, no, no, no, 6, no},
	}
	if e != api.OK || !slices.EqualFunc(m, want, slices.Equal) {
		t.Error(m, e)
	}
	checkNoStarts(t, s, [][]int{{0}, {4, 5, 1}, {2, 3}}, api.ErrLoop)
	s.Jobs[2] = append(s.Jobs[2], op{0, 6})
	checkNoStarts(t, s, nil, api.ErrForm)
	checkNoStarts(t, s, [][]int{{0}, {1, 5, 4}, {3, 2}}, api.ErrForm)
	checkNoStarts(t, s, [][]int{{6, 0}, {4, 5, 1}, {2, 3}}, api.ErrLoop)
	checkNoWeights(t, s, [][]int{{0, 6}, {1, 5, 4}, {3, 2}}, api.ErrArg)
}

// spoiled returns slices that are no orders, made of an order.
func spoiled(order [][]int) [][][]int {
	out := [][][]int{nil, {}, order[1:], order[:len(order)-1], append(slices.Clone(order), nil)}
	for m, l := range order {
		if len(l) == 0 {
			continue
		}
		negative := slices.Clone(l)
		negative[0] = -1
		for _, other := range [][]int{nil, l[1:], append(slices.Clone(l), l[0]), append(slices.Clone(l), 9), negative} {
			changed := slices.Clone(order)
			changed[m] = other
			out = append(out, changed)
		}
		if next := (m + 1) % len(order); next != m {
			changed := slices.Clone(order)
			changed[m], changed[next] = changed[next], changed[m]
			out = append(out, changed)
		}
	}
	return out
}

// invalid returns shops that are none, made of a shop.
func invalid(s shop) []shop {
	out := []shop{{}, {0, s.Jobs}, {5, s.Jobs}, {s.Machines, append(slices.Clone(s.Jobs), nil)}}
	for _, o := range []op{{s.Machines, 1}, {-1, 1}, {0, 0}, {0, 21}} {
		c := copied(s)
		c.Jobs[0][0] = o
		out = append(out, c)
	}
	return out
}

// checkErrorsOfWeights tests the order of the errors of Weights on orders that are
// like this one, which has a cycle or none.
func checkErrorsOfWeights(t *testing.T, s shop, order [][]int) {
	t.Helper()
	wrong := spoiled(order)
	for _, none := range invalid(s) {
		checkNoWeights(t, none, order, api.ErrArg)
		checkNoWeights(t, none, wrong[len(wrong)-1], api.ErrArg)
	}
	for _, x := range wrong {
		checkNoWeights(t, s, x, api.ErrForm)
	}
	switch m, e := batch.Weights(s, order); {
	case hasCycle(arcsOf(s, order)):
		checkNoWeights(t, s, order, api.ErrLoop)
	case len(slices.Concat(s.Jobs...)) > 6:
		checkNoWeights(t, s, order, api.ErrArg)
	case len(m) != 6 || e != api.OK:
		t.Error("Weights", s, order, m, e)
	}
}

// P8.5: ErrArg for a shop that is none, then ErrForm, ErrLoop, and ErrArg for more
// than 6 operations, with 6 of them, 7 and 9.
func TestErrorsOfWeights(t *testing.T) {
	two := []op{{0, 2}, {1, 3}}
	back := []op{{1, 4}, {0, 5}}
	for _, x := range []struct {
		s          shop
		good, loop [][]int
	}{
		{shop{2, [][]op{two, back, {{1, 1}, {0, 1}}}}, [][]int{{0, 3, 5}, {2, 4, 1}}, [][]int{{3, 0, 5}, {1, 2, 4}}},
		{shop{3, [][]op{two, back, {{1, 1}, {2, 1}, {0, 1}}}}, [][]int{{0, 3, 6}, {2, 4, 1}, {5}}, [][]int{{3, 0, 6}, {1, 2, 4}, {5}}},
		// With 9 operations, a cycle of the last four alone, and one of all of them.
		{shop{4, [][]op{{{0, 20}, {1, 1}, {2, 1}, {3, 1}}, {{2, 1}, {0, 1}, {1, 1}}, {{1, 1}, {0, 1}}}},
			[][]int{{0, 5, 8}, {1, 7, 6}, {2, 4}, {3}}, [][]int{{0, 8, 5}, {1, 6, 7}, {2, 4}, {3}}},
		{shop{3, [][]op{{{0, 20}, {1, 20}, {2, 20}}, {{2, 20}, {0, 20}, {1, 20}}, {{1, 20}, {2, 20}, {0, 20}}}},
			[][]int{{0, 4, 8}, {6, 1, 5}, {3, 7, 2}}, [][]int{{8, 0, 4}, {5, 6, 1}, {2, 3, 7}}},
	} {
		for _, order := range [][][]int{x.good, x.loop} {
			checkErrorsOfWeights(t, x.s, order)
		}
		if hasCycle(arcsOf(x.s, x.good)) || !hasCycle(arcsOf(x.s, x.loop)) {
			t.Error("not as it should be", x)
		}
	}
	// With any number of operations.
	r := rand.New(rand.NewSource(10))
	good, loops := map[int]int{}, map[int]int{}
	for _, s := range shops() {
		all := ordersOf(s)
		for range 20 {
			order := all[r.Intn(len(all))]
			checkErrorsOfWeights(t, s, order)
			if n := len(slices.Concat(s.Jobs...)); hasCycle(arcsOf(s, order)) {
				loops[n]++
			} else {
				good[n]++
			}
		}
	}
	for _, n := range []int{6, 7, 9} {
		if min(good[n], loops[n]) < 30 {
			t.Error("too few with", n, "operations", good, loops)
		}
	}
}

// leastBy returns the least makespan by Best.
func leastBy(t *testing.T, s shop) int {
	t.Helper()
	_, n, e := batch.Best(s)
	if e != api.OK {
		t.Fatal(s, e)
	}
	return n
}

// P8.9: the same least makespan with the jobs in reverse.
func TestMirrored(t *testing.T) {
	for _, s := range shops() {
		back := shop{Machines: s.Machines}
		for _, job := range s.Jobs {
			job = slices.Clone(job)
			slices.Reverse(job)
			back.Jobs = append(back.Jobs, job)
		}
		if x, y := leastBy(t, s), leastBy(t, back); x != y {
			t.Error(s, x, y)
		}
	}
}

// P8.10: no lower least makespan with an operation more, or a greater Time.
func TestMore(t *testing.T) {
	r := rand.New(rand.NewSource(9))
	for _, s := range shops() {
		before := leastBy(t, s)
		more := shop{s.Machines, slices.Clone(s.Jobs)}
		j := r.Intn(len(s.Jobs))
		job := slices.Clone(s.Jobs[j])
		m := r.Intn(s.Machines)
		used := slices.ContainsFunc(job, func(o op) bool { return o.Machine == m })
		k := r.Intn(len(job))
		if !used && len(slices.Concat(s.Jobs...)) < 9 {
			job = slices.Insert(job, k, op{m, 1 + r.Intn(20)})
		} else {
			job[k].Time = min(20, job[k].Time+1+r.Intn(5))
		}
		more.Jobs[j] = job
		if after := leastBy(t, more); after < before {
			t.Error(s, before, more, after)
		}
	}
}
