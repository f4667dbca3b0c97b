package net_test

import (
	"math"
	"reflect"
	"slices"
	"testing"

	"massecuite/api"
	"massecuite/net"
)

// invalid returns what is no valid net.
func invalid() []net.Net {
	out := []net.Net{
		{},
		{Start: api.Marking{1}},
		{Pre: [][]int{{1}}, Post: [][]int{{1}}},
		{Pre: [][]int{{}}, Post: [][]int{{}}, Start: api.Marking{}},
		{Pre: [][]int{{1}}, Start: api.Marking{1}},
		{Post: [][]int{{1}}, Start: api.Marking{1}},
		{Pre: [][]int{{1}, {1}}, Post: [][]int{{1}}, Start: api.Marking{1}},
		{Pre: [][]int{{1}}, Post: [][]int{{1}, {1}}, Start: api.Marking{1}},
		{Pre: [][]int{nil}, Post: [][]int{{1}}, Start: api.Marking{1}},
		{Pre: [][]int{{1}}, Post: [][]int{nil}, Start: api.Marking{1}},
		of("1 1", "1 0 > 0 1", "1 > 0 1"), of("1 1", "1 0 > 0 1", "1 0 > 0"),
		of("1 1", "1 0 > 0 1", "1 0 0 > 0 1"), of("1 1", "1 0 > 0 1", "1 0 > 0 1 0"),
		of("1", "1 0 > 0 1"), of("1 1 1", "1 0 > 0 1"), of("1 1", "1 > 1"),
		empty(7, 1), empty(1, 7), empty(7, 7), empty(6, 7), empty(7, 6), empty(1000, 1000),
	}
	for _, x := range []int{-1, 4, 5, math.MaxInt, math.MinInt, api.Many} {
		for p := range 2 {
			n, m := empty(2, 2), empty(2, 2)
			n.Pre[1][p], m.Post[1-p][p] = x, x
			out = append(out, n, m)
		}
	}
	for _, x := range []int{-1, 6, math.MaxInt, math.MinInt, api.Many} {
		for p := range 2 {
			n := empty(2, 1)
			n.Start[p] = x
			out = append(out, n)
		}
	}
	return out
}

// called is the results of all functions for a net, a marking, a transition and
// a set: the slices and the rest.
func called(n net.Net, m api.Marking, t, set int) (vectors [][]int, rest []any) {
	keep := func(list ...[]int) { vectors = append(vectors, list...) }
	a, e1 := net.Fire(n, m, t)
	all, e2 := net.Reach(n)
	dead, e3 := net.Dead(n)
	word, e4 := net.Word(n, m)
	cover, e5 := net.Cover(n)
	covers, e6 := net.Covers(n, m)
	places, e7 := net.PlaceFlows(n)
	trans, e8 := net.TransFlows(n)
	siphons, e9 := net.Siphons(n)
	trap, e10 := net.Trap(n, set)
	free, e11 := net.FreeChoice(n)
	siphon, e12 := net.Commoner(n)
	live, e13 := net.Live(n)
	x, e14 := net.Equation(n, m)
	keep(a, word, siphons, x)
	for _, list := range [][]api.Marking{all, dead, cover} {
		for _, m := range list {
			keep(m)
		}
	}
	keep(places...)
	keep(trans...)
	return vectors, []any{net.Valid(n), covers, trap, free, siphon, live, e1, e2, e3, e4, e5, e6, e7, e8, e9, e10, e11, e12, e13, e14}
}

// The errors of P2.1 to P2.7: ErrArg for a net that is not valid, also where
// the other arguments are not, and zero values beside it.
func TestInvalidNets(t *testing.T) {
	want := []any{false, false, 0, false, 0, false}
	for range 14 {
		want = append(want, api.ErrArg)
	}
	for _, n := range invalid() {
		for _, m := range []api.Marking{n.Start, {1}, {0, 0}, nil} {
			for _, i := range []int{-1, 0, len(n.Pre)} {
				vectors, rest := called(n, m, i, i)
				if len(slices.Concat(vectors...)) > 0 || !reflect.DeepEqual(rest, want) {
					t.Error(n, m, i, vectors, rest)
				}
			}
		}
	}
}

// The errors of P2.2, P2.3 and P2.7 for markings that are not valid: they come
// before those of the size of the net.
func TestInvalidMarkings(t *testing.T) {
	big := empty(5, 6)
	nets := []net.Net{ring, of("0 0", "0 0 > 1 0"), of("0 0", "0 0 > 1 1", "1 0 > 0 0", "1 0 > 0 1"), big}
	for _, n := range nets {
		for _, x := range []int{-1, 1<<30 + 1, api.Many - 1, api.Many, api.Many + 1, math.MaxInt, math.MinInt, 501, 1 << 30} {
			for p := range n.Start {
				m := make(api.Marking, len(n.Start))
				m[p] = x
				checkInvalid(t, n, m, x == 501 || x == 1<<30)
			}
		}
		for _, m := range []api.Marking{nil, {}, {0}, {0, 0, 0}, make(api.Marking, 6), make(api.Marking, 1000)} {
			checkInvalid(t, n, m, false)
		}
	}
}

// checkInvalid tests the errors for a marking that is too large for Equation,
// and unless it is large for that only, for the others.
func checkInvalid(t *testing.T, n net.Net, m api.Marking, large bool) {
	if x, e := net.Equation(n, m); len(x) > 0 || e != api.ErrArg {
		t.Error("Equation", n, m, x, e)
	}
	_, sized := net.Reach(n)
	if w, e := net.Word(n, m); len(w) > 0 || !large && e != api.ErrArg || large && sized == api.ErrSize && e != sized || large && sized == api.OK && e != api.ErrNone {
		t.Error("Word", n, m, w, e)
	}
	if ok, e := net.Covers(n, m); !large && (ok || e != api.ErrArg) || large && e != api.OK {
		t.Error("Covers", n, m, ok, e)
	}
}

// The order of the errors where a net is too large.
func TestOrderOfErrors(t *testing.T) {
	if _, e := net.Covers(tree2001, row("0 0")); e != api.ErrArg {
		t.Error(e)
	}
	if _, e := net.Covers(tree2001, row("0 0 -1")); e != api.ErrArg {
		t.Error(e)
	}
	if ok, e := net.Covers(tree2001, row("0 0 0")); ok || e != api.ErrSize {
		t.Error(ok, e)
	}
	for _, m := range []string{"0", "1", "1000000"} { // the start, reachable or not: the net is too large
		if w, e := net.Word(more, row(m)); len(w) > 0 || e != api.ErrSize {
			t.Error(m, w, e)
		}
	}
	if w, e := net.Word(more, row("*")); len(w) > 0 || e != api.ErrArg {
		t.Error(w, e)
	}
	// Not free-choice, though a siphon without a marked trap exists; nor is the
	// number of markings asked here.
	if s, e := net.Commoner(of("0 0", "0 0 > 0 1", "2 0 > 0 0")); s != 0 || e != api.ErrState {
		t.Error(s, e)
	}
	if s, e := net.Commoner(of("0", "0 > 1", "1 > 0")); s != 0 || e != api.ErrNone {
		t.Error(s, e)
	}
	if m, e := net.Fire(ring, row("0 -1"), 0); len(m) > 0 || e != api.ErrArg {
		t.Error(m, e)
	}
	if m, e := net.Fire(ring, row("0 0"), 2); len(m) > 0 || e != api.ErrArg {
		t.Error(m, e)
	}
}

// A tree may be too large where the reachable markings are few, and the other
// way round.
func TestSizesDiffer(t *testing.T) {
	n := of("2 2 2 2", "1 0 0 0 > 0 1 0 0", "0 1 0 0 > 0 0 1 0", "0 0 1 0 > 0 0 0 1", "0 0 0 1 > 1 0 0 0")
	if _, e := net.Reach(n); e != api.OK {
		t.Error(e)
	}
	if l, e := net.Cover(n); len(l) > 0 || e != api.ErrSize {
		t.Error(e)
	}
	if _, e := net.Reach(more); e != api.ErrSize {
		t.Error(e)
	}
	if _, e := net.Cover(more); e != api.OK {
		t.Error(e)
	}
}

// clone returns n in other memory.
func clone(n net.Net) net.Net {
	out := net.Net{Start: slices.Clone(n.Start)}
	for t := range n.Pre {
		out.Pre = append(out.Pre, slices.Clone(n.Pre[t]))
		out.Post = append(out.Post, slices.Clone(n.Post[t]))
	}
	return out
}

// Rules 2 and 4: the same results each time, no argument changed, and no memory
// shared by two of the arguments and results.
func TestRules(t *testing.T) {
	for i, n := range append(samples()[:400], shared, stuck, of("3 1", "0 0 > 0 0")) {
		n = clone(n)
		m := slices.Clone(n.Start)
		wasN, wasM := clone(n), slices.Clone(m)
		set := i % (1 << len(m))
		results, rest := called(n, m, 0, set)
		if !reflect.DeepEqual(n, wasN) || !slices.Equal(m, wasM) {
			t.Fatal("changed", n, wasN, m, wasM)
		}
		again, more := called(n, m, 0, set)
		if !sameRows(results, again) || !reflect.DeepEqual(rest, more) {
			t.Fatal("not the same", n)
		}
		all := slices.Concat(results, again, n.Pre, n.Post, [][]int{n.Start, m})
		for k, x := range all {
			whole := x[:cap(x)]
			for j := range whole {
				whole[j] = 777 + k
			}
		}
		for k, x := range all {
			for _, y := range x[:cap(x)] {
				if y != 777+k {
					t.Fatal("shared", wasN, k)
				}
			}
		}
		latest, _ := called(wasN, wasM, 0, set)
		newest, _ := called(clone(wasN), slices.Clone(wasM), 0, set)
		if !sameRows(latest, newest) {
			t.Fatal("kept", wasN)
		}
	}
}
