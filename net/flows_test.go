package net_test

import (
	"math/rand"
	"slices"
	"testing"

	"massecuite/api"
	"massecuite/lattice"
	"massecuite/net"
)

func sameRows(a, b [][]int) bool { return slices.EqualFunc(a, b, slices.Equal) }

func rows(texts ...string) [][]int {
	var out [][]int
	for _, text := range texts {
		out = append(out, row(text))
	}
	return out
}

// P2.4, and the example 1.
func TestFlows(t *testing.T) {
	for _, x := range []struct {
		n             net.Net
		places, trans [][]int
	}{
		{ring, rows("1 1"), rows("1 1")},
		{more, nil, nil},
		{fewer, nil, nil},
		{of("0", "2 > 2"), rows("1"), rows("1")},
		{of("0 0", "0 0 > 0 0"), rows("0 1", "1 0"), rows("1")},
		{of("0 0", "2 0 > 0 3"), rows("3 2"), nil},
		{of("0 0", "2 0 > 0 2"), rows("1 1"), nil},
		{of("0 0", "2 0 > 0 3", "0 2 > 3 0"), nil, nil},
		{of("0 0", "2 0 > 0 3", "0 3 > 2 0", "0 0 > 0 0"), rows("3 2"), rows("0 0 1", "1 1 0")},
		{of("0 0", "2 0 > 0 0", "0 0 > 3 0", "0 3 > 0 0", "0 0 > 0 2"), nil, rows("0 0 2 3", "3 2 0 0")},
		{of("0", "3 > 0", "2 > 0", "0 > 3", "0 > 2"), nil, rows("0 1 0 1", "0 3 2 0", "1 0 1 0", "2 0 0 3")},
		{of("0 0 0", "1 0 0 > 0 1 1", "0 1 1 > 1 0 0"), rows("1 0 1", "1 1 0"), rows("1 1")},
		{shared, rows("0 0 1 1 0", "0 1 0 1 1", "1 1 0 0 0"), rows("0 0 1 1", "1 1 0 0")},
		{of("0 0 0 0 0 0", "3 0 0 0 0 0 > 0 2 0 0 0 0", "0 3 0 0 0 0 > 0 0 2 0 0 0", "0 0 3 0 0 0 > 0 0 0 2 0 0", "0 0 0 3 0 0 > 0 0 0 0 2 0", "0 0 0 0 3 0 > 0 0 0 0 0 2"),
			rows("32 48 72 108 162 243"), nil},
	} {
		if l, e := net.PlaceFlows(x.n); !sameRows(l, x.places) || e != api.OK {
			t.Error(x, l, e)
		}
		if l, e := net.TransFlows(x.n); !sameRows(l, x.trans) || e != api.OK {
			t.Error(x, l, e)
		}
	}
	for i, n := range append(dense(), samples()...) {
		if i%3 > 0 && i > 200 {
			continue
		}
		a := effectsOf(n)
		if l, e := net.TransFlows(n); !sameRows(l, flowsOf(a)) || e != api.OK {
			t.Error(n, l, e)
		}
		if l, e := net.PlaceFlows(n); !sameRows(l, flowsOf(flipped(a))) || e != api.OK {
			t.Error(n, l, e)
		}
	}
}

// dense returns nets of the greatest size whose rows are full, so that flows
// have large numbers, or there are many.
func dense() []net.Net {
	r := rand.New(rand.NewSource(5))
	var out []net.Net
	for k := range 200 {
		n := empty(api.MaxPlaces, api.MaxTrans)
		for t := range n.Pre {
			for p := range n.Start {
				n.Pre[t][p], n.Post[t][p] = 3*r.Intn(2), 3*r.Intn(2)
				if k%2 == 0 {
					n.Pre[t][p], n.Post[t][p] = r.Intn(4), r.Intn(4)
				}
			}
			for p := k % 7; p < len(n.Start); p++ {
				n.Pre[t][p], n.Post[t][p] = 0, 0
			}
		}
		if k%3 == 0 { // flows of the places are certain
			for t := range n.Pre {
				n.Post[t] = slices.Clone(n.Pre[t])
				slices.Reverse(n.Post[t])
			}
		}
		out = append(out, n)
	}
	return out
}

// P2.9: the sums of place flows.
func TestPlaceFlowsStay(t *testing.T) {
	tried := 0
	for _, s := range subjects() {
		n := s.Net
		flows, _ := net.PlaceFlows(n)
		for _, flow := range flows {
			want := sums(flipped([][]int{n.Start}), flow)
			for _, m := range s.all {
				if !slices.Equal(sums(flipped([][]int{m}), flow), want) {
					t.Error(n, flow, m)
				}
				tried++
			}
		}
	}
	if tried < 10000 {
		t.Error("too few", tried)
	}
}

// P2.9: what leads from a marking back to it is a flow, and so fires at least
// the transitions of a minimal one.
func TestRoundsAreFlows(t *testing.T) {
	r := rand.New(rand.NewSource(6))
	tried := 0
	for _, n := range samples() {
		flows, _ := net.TransFlows(n)
		list := []api.Marking{n.Start}
		counts := [][]int{make([]int, len(n.Pre))}
		for range 60 {
			i := r.Intn(len(n.Pre))
			m, e := net.Fire(n, list[len(list)-1], i)
			if e != api.OK {
				continue
			}
			count := slices.Clone(counts[len(counts)-1])
			count[i]++
			for k, before := range list {
				if !slices.Equal(before, m) {
					continue
				}
				round := make([]int, len(count))
				for t := range round {
					round[t] = count[t] - counts[k][t]
				}
				part := slices.ContainsFunc(flows, func(x []int) bool { return supportOf(x)&^supportOf(round) == 0 })
				if !isZero(sums(effectsOf(n), round)) || !part {
					t.Error(n, before, round, flows)
				}
				tried++
			}
			list, counts = append(list, m), append(counts, count)
		}
	}
	if tried < 10000 {
		t.Error("too few", tried)
	}
}

// P2.7, and the example 4.
func TestEquation(t *testing.T) {
	for _, x := range []struct {
		n       net.Net
		m, want string
		e       api.Errno
	}{
		{ring, "0 1", "0 -1", api.OK},
		{ring, "1 0", "0 0", api.OK},
		{ring, "1 1", "", api.ErrNone},
		{more, "0", "0", api.OK},
		{more, "500", "500", api.OK},
		{more, "501", "", api.ErrArg},
		{fewer, "500", "-498", api.OK},
		{fewer, "0", "2", api.OK},
		{of("5", "3 > 0"), "500", "-165", api.OK},
		{of("5", "3 > 0"), "499", "", api.ErrNone},
		{of("0 0", "0 0 > 1 2"), "250 500", "250", api.OK},
		{of("0 0", "0 0 > 1 2"), "500 500", "", api.ErrNone},
		{of("0 5", "0 0 > 2 0", "0 0 > 3 0"), "1 5", "2 -1", api.OK},
		{of("0", "0 > 2", "0 > 3"), "1", "2 -1", api.OK},
		{of("5 5 5 5", "3 0 0 0 > 0 3 0 0", "0 3 0 0 > 0 0 3 0", "0 0 3 0 > 0 0 0 3", "0 0 0 3 > 3 0 0 0", "0 0 0 0 > 3 0 0 0"), "5 5 8 5", "0 0 -1 -1 1", api.OK},
		{of("5 5 5 5 5", "0 0 0 0 0 > 0 0 0 0 0"), "5 5 5 5 5", "", api.ErrSize},
		{of("5 5 5 5 5", "0 0 0 0 0 > 0 0 0 0 0"), "5 5 5 5 6", "", api.ErrSize},
		{of("5 5 5 5 5", "0 0 0 0 0 > 0 0 0 0 0"), "5 5 5 5 501", "", api.ErrArg},
		{of("5", "1 > 0", "1 > 0", "1 > 0", "1 > 0", "1 > 0", "1 > 0"), "0", "", api.ErrSize},
		{of("5", "1 > 0", "1 > 0", "1 > 0", "1 > 0", "1 > 0", "1 > 0"), "-1", "", api.ErrArg},
	} {
		if y, e := net.Equation(x.n, row(x.m)); e != x.e || e == api.OK && !slices.Equal(y, row(x.want)) || e != api.OK && len(y) > 0 {
			t.Error(x, y, e)
		}
	}
	r := rand.New(rand.NewSource(7))
	tried := map[api.Errno]int{}
	for _, n := range samples() {
		a := flipped(effectsOf(n))
		for kind := range 3 {
			m := make(api.Marking, len(n.Start))
			gain := make([]int, len(m))
			for p := range m {
				m[p] = []int{n.Start[p] + r.Intn(3), r.Intn(6), r.Intn(501)}[kind]
				gain[p] = m[p] - n.Start[p]
			}
			var want []int
			f := api.ErrSize
			if len(n.Start) <= 4 && len(n.Pre) <= 5 {
				want, f = lattice.Solve(a, gain)
			}
			x, e := net.Equation(n, m)
			if e != f || !slices.Equal(x, want) {
				t.Error(n, m, x, e, want, f)
			}
			tried[e]++
		}
	}
	if tried[api.OK] < 1000 || tried[api.ErrNone] < 1000 || tried[api.ErrSize] < 1000 {
		t.Error("too few", tried)
	}
}

// P2.12.
func TestEquationOfReachable(t *testing.T) {
	tried := 0
	for _, s := range subjects() {
		n := s.Net
		small := len(n.Start) <= 4 && len(n.Pre) <= 5
		for _, m := range s.all[:min(len(s.all), 40)] {
			if slices.Max(m) > 500 {
				continue
			}
			x, e := net.Equation(n, m)
			if !small && e != api.ErrSize || small && e != api.OK {
				t.Error(n, m, x, e)
			}
			if small {
				gain := sums(effectsOf(n), x)
				for p := range m {
					if n.Start[p]+gain[p] != m[p] {
						t.Error(n, m, x)
					}
				}
				tried++
			}
		}
	}
	if tried < 10000 {
		t.Error("too few", tried)
	}
}
