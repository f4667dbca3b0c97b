package zone_test

import (
	"math"
	"reflect"
	"slices"
	"testing"

	"massecuite/api"
	"massecuite/zone"
)

// invalid returns what is no valid zone.
func invalid() [][][]int {
	out := [][][]int{nil, {}, {nil}, {{}}, {{1}}, {nil, nil}, {{1, 1}}, {{1, 1}, nil}, {nil, {1, 1}}, {{1, 1}, {1}}, {{1}, {1, 1}},
		{{1, 1}, {1, 1, 1}}, {{1, 1, 1}, {1, 1, 1}}, {{1, 1}, {1, 1}, {1, 1}}, filled(0, 1), filled(4, 1), filled(4, none), filled(5, 1),
		filled(100, 1), make([][]int, 4), make([][]int, 100000), {make([]int, 100000), {1, 1}}}
	for n := 1; n <= 3; n++ {
		for _, x := range []int{2002, 2003, -2001, -2002, none - 1, none + 1, -none, 1 << 32, math.MaxInt, math.MinInt} {
			for i := range n + 1 {
				for j := range n + 1 {
					out = append(out, changed(filled(n, none), i, j, x), changed(filled(n, 0), i, j, x))
				}
			}
		}
		for i := range n + 1 {
			longer, shorter := filled(n, 1), filled(n, 1)
			longer[i] = append(longer[i], 1)
			shorter[i] = shorter[i][1:]
			out = append(out, longer, shorter)
		}
	}
	return out
}

// calls are the results of all functions of zones: the slices, the answers and
// the errors.
func calls(z [][]int, l, p []int, g zone.Guard, set int) (rows [][]int, answers []bool, errs []api.Errno) {
	var e [9]api.Errno
	var tight, and, delay, reset [][]int
	var proof, point []int
	tight, e[0] = zone.Tight(z)
	proof, e[1] = zone.Refute(z)
	right, err := zone.CheckRefute(z, l)
	e[2] = err
	and, e[3] = zone.And(z, g)
	delay, e[4] = zone.Delay(z)
	reset, e[5] = zone.Reset(z, set)
	all, err := zone.Includes(z, z)
	e[6] = err
	has, err := zone.Has(z, p)
	e[7] = err
	point, e[8] = zone.Point(z)
	return slices.Concat(tight, and, delay, reset, [][]int{proof, point}), []bool{right, all, has}, e[:]
}

// P5.1 to P5.3: ErrArg for what is no zone, also where other arguments are not
// valid, and zero values beside it.
func TestInvalidZones(t *testing.T) {
	want := slices.Repeat([]api.Errno{api.ErrArg}, 9)
	for _, z := range invalid() {
		n := len(z) - 1
		for _, g := range []zone.Guard{{Bound: none}, {I: n, J: 0, Bound: 1}, {I: -1, Bound: 3}} {
			for _, set := range []int{0, 2, 1, -1} {
				rows, answers, errs := calls(z, []int{0}, make([]int, max(n, 0)), g, set)
				if len(slices.Concat(rows...)) > 0 || slices.Contains(answers, true) || !slices.Equal(errs, want) {
					t.Error(z, g, set, rows, answers, errs)
				}
			}
		}
		for _, w := range [][][]int{filled(1, none), filled(max(1, min(n, 3)), 1), filled(3, 0)} {
			checkNotIncluded(t, z, w)
			checkNotIncluded(t, w, z)
		}
	}
}

// checkNotIncluded tests that Includes says ErrArg.
func checkNotIncluded(t *testing.T, z, w [][]int) {
	t.Helper()
	if ok, e := zone.Includes(z, w); ok || e != api.ErrArg {
		t.Error("Includes", z, w, ok, e)
	}
}

// P5.2, P5.3: ErrArg for other arguments, also where the zone is empty, and then
// ErrNone.
func TestZoneErrors(t *testing.T) {
	for n := 1; n <= 3; n++ {
		for _, z := range [][][]int{filled(n, none), filled(n, 0), filled(n, 1), changed(filled(n, none), n, n, -2000)} {
			for m := 1; m <= 3; m++ {
				if m != n {
					checkNotIncluded(t, z, filled(m, none))
					checkNotIncluded(t, z, filled(m, 0))
				}
			}
			for _, x := range []int{-1, n + 1, 4, 64, 1 << 32, math.MaxInt, math.MinInt} {
				checkNoAnd(t, z, zone.Guard{I: x, Bound: 1})
				checkNoAnd(t, z, zone.Guard{J: x, Bound: 1})
				checkNoAnd(t, z, zone.Guard{I: n, J: x, Bound: none})
				checkNoAnd(t, z, zone.Guard{I: x, J: x, Bound: 0})
			}
			for _, b := range []int{2002, -2001, none - 1, none + 1, -none, 1 << 32, math.MaxInt, math.MinInt} {
				checkNoAnd(t, z, zone.Guard{I: n, Bound: b})
				checkNoAnd(t, z, zone.Guard{J: n, Bound: b})
				checkNoAnd(t, z, zone.Guard{Bound: b})
			}
			for _, set := range []int{1, 3, -1, -2, 2 << n, 2<<n + 2, 2<<n | 1, 1 << 32, 1 << 62, math.MaxInt, math.MaxInt - 1, math.MinInt} {
				if x, e := zone.Reset(z, set); len(x) > 0 || e != api.ErrArg {
					t.Error("Reset", z, set, x, e)
				}
			}
		}
	}
	// The errors where all arguments are valid.
	const ok, none = api.OK, api.ErrNone
	for n := 1; n <= 3; n++ {
		_, answers, errs := calls(filled(n, 0), []int{n}, make([]int, n), zone.Guard{I: n, Bound: -2000}, 2<<n-2)
		if !slices.Equal(errs, []api.Errno{none, ok, ok, none, none, none, ok, ok, none}) || !slices.Equal(answers, []bool{true, true, false}) {
			t.Error(answers, errs)
		}
		_, answers, errs = calls(filled(n, 1), []int{n}, make([]int, n), zone.Guard{I: n, Bound: 2001}, 2<<n-2)
		if !slices.Equal(errs, []api.Errno{ok, none, ok, ok, ok, ok, ok, ok, ok}) || !slices.Equal(answers, []bool{false, true, true}) {
			t.Error(answers, errs)
		}
	}
}

// checkNoAnd tests that And says ErrArg.
func checkNoAnd(t *testing.T, z [][]int, g zone.Guard) {
	t.Helper()
	if x, e := zone.And(z, g); len(x) > 0 || e != api.ErrArg {
		t.Error("And", z, g, x, e)
	}
}

// broken returns copies of a, which has locations and edges, each with one thing
// that is not valid.
func broken(a zone.Automaton) []zone.Automaton {
	n := len(a.Invariants)
	var out []zone.Automaton
	add := func(change func(a *zone.Automaton)) {
		b := copied(a)
		change(&b)
		out = append(out, b)
	}
	for _, x := range []int{0, -1, 4, 5, 1 << 32, math.MaxInt, math.MinInt} {
		add(func(a *zone.Automaton) { a.Clocks = x })
	}
	add(func(a *zone.Automaton) { a.Invariants = nil })
	add(func(a *zone.Automaton) { a.Invariants = make([][]zone.Guard, 6) })
	add(func(a *zone.Automaton) { a.Invariants = make([][]zone.Guard, 100000) })
	add(func(a *zone.Automaton) { a.Edges = make([]zone.Edge, 9) })
	add(func(a *zone.Automaton) { a.Edges = make([]zone.Edge, 100000) })
	for i := range a.Edges {
		for _, x := range []int{-1, n, 5, 64, math.MaxInt, math.MinInt} {
			add(func(a *zone.Automaton) { a.Edges[i].From = x })
			add(func(a *zone.Automaton) { a.Edges[i].To = x })
		}
		for _, x := range []int{1, 3, -1, -2, 2 << a.Clocks, 16, 1 << 32, math.MaxInt - 1, math.MinInt} {
			add(func(a *zone.Automaton) { a.Edges[i].Resets = x })
		}
		for _, list := range wrong(a.Clocks) {
			add(func(a *zone.Automaton) { a.Edges[i].Guards = list })
		}
	}
	for i := range a.Invariants {
		for _, list := range wrong(a.Clocks) {
			add(func(a *zone.Automaton) { a.Invariants[i] = list })
		}
	}
	return out
}

// wrong returns what are no guards of an automaton.
func wrong(clocks int) [][]zone.Guard {
	out := [][]zone.Guard{slices.Repeat([]zone.Guard{{Bound: 1}}, 7), slices.Repeat([]zone.Guard{{Bound: none}}, 100000)}
	for k := range 6 {
		add := func(g zone.Guard) {
			list := slices.Repeat([]zone.Guard{{Bound: 1}}, 6)
			list[k] = g
			out = append(out, list, []zone.Guard{g})
		}
		for _, x := range []int{-1, clocks + 1, 4, 64, math.MaxInt, math.MinInt} {
			add(zone.Guard{I: x, Bound: 1})
			add(zone.Guard{J: x, Bound: 1})
		}
		add(zone.Guard{I: 1, J: 1, Bound: 1})
		add(zone.Guard{I: 1, J: clocks, Bound: none})
		add(zone.Guard{I: clocks, J: 1, Bound: 3})
		for _, b := range []int{22, 23, -21, -22, 2001, none - 1, none + 1, -none, 1 << 32, math.MaxInt, math.MinInt} {
			add(zone.Guard{I: 1, Bound: b})
			add(zone.Guard{J: clocks, Bound: b})
			add(zone.Guard{Bound: b})
		}
	}
	return out
}

func copied(a zone.Automaton) zone.Automaton {
	out := zone.Automaton{Clocks: a.Clocks}
	for _, list := range a.Invariants {
		out.Invariants = append(out.Invariants, slices.Clone(list))
	}
	for _, e := range a.Edges {
		e.Guards = slices.Clone(e.Guards)
		out.Edges = append(out.Edges, e)
	}
	return out
}

// P5.4: ErrArg for what is no automaton, also where other arguments are not
// valid, and zero values beside it.
func TestInvalidAutomata(t *testing.T) {
	one := automaton(1, "", edge(0, 0, "", ""))
	for _, a := range slices.Concat([]zone.Automaton{{}, {Clocks: 1}, {Invariants: make([][]zone.Guard, 1)}}, broken(full()), broken(leave), broken(one)) {
		set, e := zone.Reach(a)
		if set != 0 || e != api.ErrArg {
			t.Error("Reach", a, set, e)
		}
		for _, loc := range []int{0, -1, 5} {
			checkNoWitness(t, a, loc)
		}
		for _, r := range []zone.Run{{}, {Den: 1}, {Den: 1, Waits: []int{0}, Edges: []int{0}}, {Den: -1, Waits: []int{-1}}} {
			if at, ok, e := zone.CheckRun(a, r); at != 0 || ok || e != api.ErrArg {
				t.Error("CheckRun", a, r, at, ok, e)
			}
		}
	}
}

// checkNoWitness tests that Witness says ErrArg.
func checkNoWitness(t *testing.T, a zone.Automaton, loc int) {
	t.Helper()
	if r, e := zone.Witness(a, loc); r.Den != 0 || len(r.Waits)+len(r.Edges) > 0 || e != api.ErrArg {
		t.Error("Witness", a, loc, r, e)
	}
}

// P5.4: ErrArg for what is no location, also where the beginning is no state, and
// where a location is far.
func TestWitnessErrors(t *testing.T) {
	for _, a := range []zone.Automaton{leave, full(), run201, automaton(1, "x>0|"), automaton(1, "")} {
		for _, loc := range []int{-1, len(a.Invariants), 5, 63, 64, 1 << 32, math.MaxInt, math.MinInt} {
			checkNoWitness(t, a, loc)
		}
	}
}

// The limits of what is valid: all numbers at their least and greatest.
func TestValidAutomata(t *testing.T) {
	for clocks := 1; clocks <= 3; clocks++ {
		for _, b := range []int{-20, -19, 0, 1, 20, 21, none} {
			for _, g := range []zone.Guard{{I: clocks, Bound: b}, {J: clocks, Bound: b}, {Bound: b}} {
				a := zone.Automaton{Clocks: clocks}
				for range 5 {
					a.Invariants = append(a.Invariants, slices.Repeat([]zone.Guard{g}, 6))
				}
				for i := range 8 {
					a.Edges = append(a.Edges, zone.Edge{From: 4 - i/2, To: i % 5, Guards: a.Invariants[0], Resets: 2<<clocks - 2})
				}
				want := 1
				if v := (moment{den: 1}); !v.allows(a.Invariants[0]) {
					want = 0
				}
				checkReach(t, a, want*linked(a))
			}
		}
	}
}

// linked is the locations of an automaton that edges lead to, if all of these can
// be taken.
func linked(a zone.Automaton) int {
	set := 1
	for range a.Edges {
		for _, e := range a.Edges {
			if set>>e.From&1 == 1 {
				set |= 1 << e.To
			}
		}
	}
	return set
}

// Rules 2 and 4: the same results each time, no argument changed, and no memory
// shared by two of the arguments and results of zones.
func TestRules(t *testing.T) {
	for k, z := range zones() {
		if k%10 > 0 {
			continue
		}
		n := len(z) - 1
		x, p, l := clone(z), make([]int, n), []int{n, 0}
		g, set := zone.Guard{I: n, J: 0, Bound: 5}, 2<<n-2
		rows, answers, errs := calls(x, l, p, g, set)
		again, answers2, errs2 := calls(x, l, p, g, set)
		if !equal(x, z) || !slices.Equal(l, []int{n, 0}) || slices.Max(p) > 0 {
			t.Fatal("changed", z, x, l, p)
		}
		if !equal(rows, again) || !slices.Equal(answers, answers2) || !slices.Equal(errs, errs2) {
			t.Fatal("not the same", z)
		}
		checkApart(t, slices.Concat(rows, again, x, [][]int{l, p}))
		latest, _, _ := calls(z, []int{n, 0}, make([]int, n), g, set)
		newest, _, _ := calls(z, []int{n, 0}, make([]int, n), g, set)
		if !equal(latest, newest) {
			t.Fatal("kept", z)
		}
	}
}

// The same for automata.
func TestAutomatonRules(t *testing.T) {
	for k, s := range automata() {
		if k%5 > 0 {
			continue
		}
		a := copied(s.Automaton)
		var all [][]int
		var runs []zone.Run
		for loc := range a.Invariants {
			r, e := zone.Witness(a, loc)
			r2, e2 := zone.Witness(a, loc)
			if !reflect.DeepEqual(r, r2) || e != e2 {
				t.Fatal("not the same", a, loc, r, r2)
			}
			kept := zone.Run{Den: r.Den, Waits: slices.Clone(r.Waits), Edges: slices.Clone(r.Edges)}
			zone.CheckRun(a, r)
			if r.Den != kept.Den || !slices.Equal(r.Waits, kept.Waits) || !slices.Equal(r.Edges, kept.Edges) {
				t.Fatal("changed", a, loc, r)
			}
			all = append(all, r.Waits, r.Edges, r2.Waits, r2.Edges)
			runs = append(runs, kept)
		}
		zone.Reach(a)
		if !reflect.DeepEqual(a, copied(s.Automaton)) {
			t.Fatal("changed", s, a)
		}
		checkApart(t, all)
		for loc, r := range runs {
			if again, _ := zone.Witness(a, loc); !slices.Equal(again.Waits, r.Waits) || !slices.Equal(again.Edges, r.Edges) {
				t.Fatal("kept", a, loc)
			}
		}
	}
}

// checkApart tests that no two of the slices share memory.
func checkApart(t *testing.T, all [][]int) {
	t.Helper()
	for k, x := range all {
		whole := x[:cap(x)]
		for i := range whole {
			whole[i] = 777 + k
		}
	}
	for k, x := range all {
		for _, y := range x[:cap(x)] {
			if y != 777+k {
				t.Fatal("shared", k)
			}
		}
	}
}

// Rule 4: a nil slice and an empty one are the same.
func TestNil(t *testing.T) {
	empty := zone.Automaton{Clocks: 2, Invariants: [][]zone.Guard{{}, {}}, Edges: []zone.Edge{{To: 1, Guards: []zone.Guard{}}}}
	checkReach(t, empty, 3)
	empty.Invariants, empty.Edges[0].Guards = [][]zone.Guard{nil, nil}, nil
	checkReach(t, empty, 3)
	checkRun(t, empty, zone.Run{Den: 3, Waits: []int{}, Edges: nil}, 0, true)
	empty.Edges = []zone.Edge{}
	checkReach(t, empty, 1)
	checkRun(t, empty, zone.Run{Den: 3, Waits: nil, Edges: []int{}}, 0, true)
	for _, z := range [][][]int{nil, {}, {{}}, {nil}, {{}, {}}, {nil, nil}} {
		checkNotIncluded(t, z, z)
	}
}
