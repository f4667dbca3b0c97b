package flow_test

import (
	"math"
	"reflect"
	"slices"
	"testing"

	"massecuite/api"
	"massecuite/flow"
)

// chain returns a graph with n actors and so many links among them.
func chain(n, links int) flow.Graph {
	g := flow.Graph{N: n}
	for i := range links {
		g.Links = append(g.Links, flow.Link{From: i % n, To: (i + 1) % n, Give: 1, Take: 1, Stock: 1})
	}
	return g
}

// invalid returns what is no valid graph.
func invalid() []flow.Graph {
	out := []flow.Graph{{}, chain(7, 10), chain(6, 11), chain(1, 11), chain(7, 11), chain(1, 100000)}
	for _, n := range []int{-1, 7, 8, math.MaxInt, math.MinInt, 1 << 32} {
		out = append(out, flow.Graph{N: n}, flow.Graph{N: n, Links: chain(2, 2).Links})
	}
	for at := range 3 {
		change := func(set func(l *flow.Link)) {
			g := chain(3, 3)
			set(&g.Links[at])
			out = append(out, g)
		}
		for _, x := range []int{-1, 3, 6, math.MaxInt, math.MinInt, 1 << 32} {
			change(func(l *flow.Link) { l.From = x })
			change(func(l *flow.Link) { l.To = x })
			change(func(l *flow.Link) { l.From, l.To = x, x })
		}
		for _, x := range []int{0, -1, 7, math.MaxInt, math.MinInt, 1<<32 + 1} {
			change(func(l *flow.Link) { l.Give = x })
			change(func(l *flow.Link) { l.Take = x })
			change(func(l *flow.Link) { l.Give, l.Take = x, x })
		}
		for _, x := range []int{-1, 21, math.MaxInt, math.MinInt, 1 << 32} {
			change(func(l *flow.Link) { l.Stock = x })
		}
	}
	return out
}

// called is the results of all functions: the slices and the rest.
func called(g flow.Graph, s []int, link int, times []int, periods int) (rows [][]int, triples [][3]int, rest []any) {
	r, e1 := flow.Repeat(g)
	first, e2 := flow.Schedule(g)
	p, e3 := flow.Peaks(g, s)
	n, e4 := flow.Least(g, link)
	triples, e5 := flow.Expand(g)
	starts, e6 := flow.Starts(g, times, periods)
	rows = append([][]int{r, first, p}, starts...)
	return rows, triples, []any{n, e1, e2, e3, e4, e5, e6}
}

// The errors of P3.1 to P3.6: ErrArg for a graph that is not valid, also where
// the other arguments are not, and zero values beside it.
func TestInvalidGraphs(t *testing.T) {
	want := []any{0}
	for range 6 {
		want = append(want, api.ErrArg)
	}
	for _, g := range invalid() {
		for i := -1; i < 2; i++ {
			times := make([]int, max(0, min(10, g.N)))
			for _, s := range [][]int{nil, {0}, {0, 1, 2}, {7}} {
				rows, triples, rest := called(g, s, i, times, 1+i)
				if len(slices.Concat(rows...)) > 0 || len(triples) > 0 || !reflect.DeepEqual(rest, want) {
					t.Error(g, rows, triples, rest)
				}
			}
		}
	}
}

// The greatest valid graphs.
func TestValidGraphs(t *testing.T) {
	checkRepeat(t, chain(6, 10), "1 1 1 1 1 1", api.OK)
	checkSchedule(t, chain(6, 10), "0 1 2 3 4 5", api.OK)
	checkPeaks(t, chain(6, 10), "0 1 2 3 4 5", "2 2 2 2 2 1 2 2 2 2", api.OK)
	checkRepeat(t, chain(1, 10), "1", api.OK)
	checkLeast(t, chain(1, 10), 9, 1, api.OK)
	g := of(6, "0 5 6 6 20", "5 0 1 1 0", "5 5 6 6 20")
	checkSchedule(t, g, "1 2 3 4 5 0", api.OK)
	g.Links[1].Stock = 20
	checkSchedule(t, g, "0 1 2 3 4 5", api.OK)
	checkPeaks(t, g, "5 4 3 2 1 0", "20 21 20", api.OK)
	checkStarts(t, g, "100 0 1 2 3 4", 1, []string{"0", "0", "0", "0", "0", "0"}, api.OK)
	checkSchedule(t, full, "0 0 1 2 3 4 4 3 4 5", api.OK)
}

// The order of the errors where several conditions hold.
func TestOrderOfErrors(t *testing.T) {
	uneven := []flow.Graph{apart, of(1, "0 0 1 2 20"),
		// A part that is not balanced beside one that is too long, in either order.
		of(6, "0 1 6 1 0", "1 2 6 1 0", "2 3 6 1 0", "4 5 1 1 0", "4 5 1 2 0"),
		of(6, "0 1 1 1 0", "0 1 1 2 0", "2 3 6 1 0", "3 4 6 1 0", "4 5 6 1 0"),
		// One that is neither.
		of(4, "0 1 6 1 0", "1 2 6 1 0", "2 3 6 1 0", "3 3 2 1 0")}
	for _, g := range uneven {
		checkErrors(t, g, api.ErrNone, api.ErrNone, api.ErrNone, api.ErrNone, api.ErrNone, api.ErrNone)
	}
	for _, g := range []flow.Graph{firings61, stuck61} {
		checkErrors(t, g, api.ErrSize, api.ErrSize, api.ErrSize, api.ErrSize, api.ErrSize, api.ErrSize)
	}
	checkErrors(t, ring, api.OK, api.ErrLoop, api.ErrArg, api.ErrLoop, api.OK, api.ErrLoop)
	checkErrors(t, vectorsStuck, api.OK, api.ErrLoop, api.ErrArg, api.ErrLoop, api.ErrSize, api.ErrLoop)
	checkErrors(t, vectors20001, api.OK, api.OK, api.ErrArg, api.ErrSize, api.ErrSize, api.ErrSize)
	checkErrors(t, firings31, api.OK, api.OK, api.ErrArg, api.OK, api.ErrSize, api.ErrSize)
}

// checkErrors tests the errors of the six functions for a graph, with a slice
// that is no schedule, the first link and 20 periods; and that ErrArg precedes
// them all for other links, times and periods.
func checkErrors(t *testing.T, g flow.Graph, want ...api.Errno) {
	t.Helper()
	times := make([]int, g.N)
	for _, s := range [][]int{nil, {-1}, {0}, {g.N}, slices.Repeat([]int{0}, 100)} {
		_, _, rest := called(g, s, 0, times, 20)
		for i, e := range want {
			if rest[i+1] != e {
				t.Error(g, s, rest[1:], "not", want)
			}
		}
	}
	for _, link := range []int{-1, len(g.Links)} {
		checkLeast(t, g, link, 0, api.ErrArg)
	}
	for _, periods := range []int{0, 21} {
		if l, e := flow.Starts(g, times, periods); len(l) > 0 || e != api.ErrArg {
			t.Error(g, periods, l, e)
		}
	}
	times[0] = 101
	for _, times := range [][]int{nil, times, times[1:], make([]int, g.N+1)} {
		if l, e := flow.Starts(g, times, 20); len(l) > 0 || e != api.ErrArg {
			t.Error(g, times, l, e)
		}
	}
}

// With an error the other results are zero values.
func TestZeroValues(t *testing.T) {
	for _, x := range known() {
		rows, triples, rest := called(x.g, nil, 0, make([]int, x.g.N), 20)
		for i, list := range [][]int{rows[0], rows[1], rows[2], slices.Concat(rows[3:]...)} {
			e := rest[[]int{1, 2, 3, 6}[i]]
			if (len(list) > 0) != (e == api.OK) {
				t.Error(x.g, i, list, e)
			}
		}
		if rest[5] != api.OK && len(triples) > 0 || rest[4] != api.OK && rest[0] != 0 {
			t.Error(x.g, triples, rest)
		}
	}
}

// Rules 2 and 4: the same results each time, no argument changed, and no memory
// shared by two of the arguments and results.
func TestRules(t *testing.T) {
	for _, x := range append(scheduled()[:300], sample{g: ring}, sample{g: apart}) {
		g := flow.Graph{N: x.g.N, Links: slices.Clone(x.g.Links)}
		s, times := slices.Clone(x.s), make([]int, g.N)
		rows, triples, rest := called(g, s, 0, times, 2)
		if !reflect.DeepEqual(g.Links, slices.Clone(x.g.Links)) || !slices.Equal(s, x.s) || !slices.Equal(times, make([]int, g.N)) {
			t.Fatal("changed", g, s, times)
		}
		again, triples2, rest2 := called(g, s, 0, times, 2)
		if !reflect.DeepEqual(rows, again) || !slices.Equal(triples, triples2) || !reflect.DeepEqual(rest, rest2) {
			t.Fatal("not the same", g)
		}
		checkApart(t, slices.Concat(rows, again, [][]int{s, times}))
		for i := range triples[:cap(triples)] {
			triples[:cap(triples)][i] = [3]int{-1, -1, -1}
		}
		latest, triples3, _ := called(x.g, x.s, 0, make([]int, g.N), 2)
		newest, triples4, _ := called(x.g, x.s, 0, make([]int, g.N), 2)
		if !reflect.DeepEqual(latest, newest) || !slices.Equal(triples2, triples3) || !slices.Equal(triples3, triples4) {
			t.Fatal("kept", g)
		}
	}
}

// checkApart tests that no two of the slices share memory.
func checkApart(t *testing.T, all [][]int) {
	t.Helper()
	for k, x := range all {
		whole := x[:cap(x)]
		for i := range whole {
			whole[i] = 777 + k
		}
	}
	for k, x := range all {
		for _, y := range x[:cap(x)] {
			if y != 777+k {
				t.Fatal("shared", k)
			}
		}
	}
}

// A nil slice and an empty one are the same.
func TestNil(t *testing.T) {
	a, _, x := called(flow.Graph{N: 2}, []int{0, 1}, 0, []int{0, 0}, 1)
	b, _, y := called(flow.Graph{N: 2, Links: []flow.Link{}}, []int{0, 1}, 0, []int{0, 0}, 1)
	if !reflect.DeepEqual(x, y) || len(a) != len(b) {
		t.Error(a, b, x, y)
	}
	for i := range a {
		if !slices.Equal(a[i], b[i]) {
			t.Error(a, b)
		}
	}
	for _, s := range [][]int{nil, {}} {
		if p, e := flow.Peaks(two, s); len(p) > 0 || e != api.ErrArg {
			t.Error(p, e)
		}
		if l, e := flow.Starts(two, s, 1); len(l) > 0 || e != api.ErrArg {
			t.Error(l, e)
		}
	}
}
