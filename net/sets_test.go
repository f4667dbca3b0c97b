package net_test

import (
	"math"
	"slices"
	"testing"

	"massecuite/api"
	"massecuite/net"
)

// P2.5, and the examples 1, 3 and 4.
func TestSiphons(t *testing.T) {
	for _, x := range []struct {
		n    net.Net
		want []int
	}{
		{ring, []int{3}},
		{more, nil},
		{fewer, []int{1}},
		{of("0 0", "0 0 > 0 0"), []int{1, 2}},
		{of("0 0", "1 0 > 0 1"), []int{1}},
		{of("0 0", "0 1 > 1 0"), []int{2}},
		{of("0 0", "2 0 > 1 3"), []int{1}},
		{of("0 0 0", "1 0 0 > 0 1 1", "0 1 1 > 1 0 0"), []int{3, 5}},
		{shared, []int{3, 12, 26}},
		{stuck, []int{3, 12, 18, 40, 48}},
		{empty(6, 6), []int{1, 2, 4, 8, 16, 32}},
	} {
		if l, e := net.Siphons(x.n); !slices.Equal(l, x.want) || e != api.OK {
			t.Error(x, l, e)
		}
	}
	for _, n := range samples() {
		if l, e := net.Siphons(n); !slices.Equal(l, siphonsOf(n)) || e != api.OK {
			t.Error(n, l, e, siphonsOf(n))
		}
	}
}

// P2.5: traps, and the example 4.
func TestTrap(t *testing.T) {
	chain := of("0 0 0", "1 0 0 > 0 1 0", "0 1 0 > 0 0 1", "0 0 1 > 0 0 0")
	for _, x := range []struct {
		n         net.Net
		set, want int
		e         api.Errno
	}{
		{ring, 3, 3, api.OK},
		{ring, 1, 0, api.OK},
		{ring, 0, 0, api.OK},
		{ring, 4, 0, api.ErrArg},
		{ring, 7, 0, api.ErrArg},
		{ring, -1, 0, api.ErrArg},
		{ring, math.MinInt, 0, api.ErrArg},
		{ring, math.MaxInt, 0, api.ErrArg},
		{fewer, 1, 0, api.OK},
		{more, 1, 1, api.OK},
		{chain, 7, 0, api.OK},
		{of("0 0", "1 0 > 0 1"), 3, 3, api.OK},
		{of("0 0", "1 0 > 0 1"), 2, 2, api.OK},
		{of("0 0", "2 0 > 1 0"), 1, 1, api.OK},
		{empty(6, 6), 63, 63, api.OK},
		{empty(6, 6), 64, 0, api.ErrArg},
	} {
		if s, e := net.Trap(x.n, x.set); s != x.want || e != x.e {
			t.Error(x, s, e)
		}
	}
	for i, n := range samples() {
		for set := range 1 << len(n.Start) {
			if len(n.Start) > 4 && set%4 != i%4 {
				continue
			}
			if s, e := net.Trap(n, set); s != trapOf(n, set) || e != api.OK {
				t.Error(n, set, s, e)
			}
		}
	}
}

// P2.6.
func TestFreeChoice(t *testing.T) {
	for _, x := range []struct {
		n    net.Net
		want bool
	}{
		{ring, true}, {fewer, true},
		{more, false}, // nothing takes from the place
		{shared, false}, {stuck, false},
		{of("0", "2 > 0"), false},
		{of("0", "1 > 2"), false},
		{of("0 0", "1 1 > 0 0", "1 1 > 1 0"), true},
		{of("0 0", "1 1 > 0 0", "1 0 > 1 0"), false},
		{of("0 0", "1 1 > 0 0", "0 1 > 1 0"), false},
		{of("0 0", "1 0 > 0 0", "0 1 > 1 0", "0 0 > 1 1"), true},
		{of("0 0", "1 0 > 0 0", "0 0 > 1 1"), false},
	} {
		if ok, e := net.FreeChoice(x.n); ok != x.want || e != api.OK {
			t.Error(x, ok, e)
		}
	}
	tried := map[bool]int{}
	for _, n := range samples() {
		ok, e := net.FreeChoice(n)
		if ok != isFreeChoice(n) || e != api.OK {
			t.Error(n, ok, e)
		}
		tried[ok]++
	}
	if tried[true] < 300 || tried[false] < 300 {
		t.Error("too few", tried)
	}
}

// P2.6, and the examples 1 and 3.
func TestCommoner(t *testing.T) {
	for _, x := range []struct {
		n    net.Net
		want int
		e    api.Errno
	}{
		{ring, 0, api.ErrNone},
		{of("0 0", "1 0 > 0 1", "0 1 > 1 0"), 3, api.OK},
		{fewer, 1, api.OK},
		{more, 0, api.ErrState},
		{stuck, 0, api.ErrState},
		{of("5", "1 > 0", "2 > 0"), 0, api.ErrState},
		// Both rings are empty: the first of them. Then only the second one.
		{of("0 0 0 0", "1 0 0 0 > 0 1 0 0", "0 1 0 0 > 1 0 0 0", "0 0 1 0 > 0 0 0 1", "0 0 0 1 > 0 0 1 0"), 3, api.OK},
		{of("1 0 0 0", "1 0 0 0 > 0 1 0 0", "0 1 0 0 > 1 0 0 0", "0 0 1 0 > 0 0 0 1", "0 0 0 1 > 0 0 1 0"), 12, api.OK},
		// The siphon is marked, the trap in it is not.
		{of("1 0", "1 0 > 0 0", "0 1 > 1 1"), 2, api.OK},
		{of("1 0 0", "1 0 0 > 0 1 0", "0 1 0 > 0 0 0", "0 0 1 > 0 0 1"), 1, api.OK},
	} {
		if s, e := net.Commoner(x.n); s != x.want || e != x.e {
			t.Error(x, s, e)
		}
	}
	tried := map[api.Errno]int{}
	for _, n := range samples() {
		want, f := 0, api.ErrState
		if isFreeChoice(n) {
			f = api.ErrNone
			for _, siphon := range siphonsOf(n) {
				if f == api.ErrNone && !touches(n.Start, trapOf(n, siphon)) {
					want, f = siphon, api.OK
				}
			}
		}
		s, e := net.Commoner(n)
		if s != want || e != f {
			t.Error(n, s, e, want, f)
		}
		tried[e]++
	}
	if tried[api.OK] < 100 || tried[api.ErrNone] < 100 || tried[api.ErrState] < 100 {
		t.Error("too few", tried)
	}
}

// P2.6: Live, and the examples 1 and 3.
func TestLive(t *testing.T) {
	for _, x := range []struct {
		n    net.Net
		want bool
		e    api.Errno
	}{
		{ring, true, api.OK},
		{fewer, false, api.OK},
		{more, false, api.ErrSize},
		{shared, true, api.OK},
		{stuck, false, api.OK},
		{of("0", "0 > 0"), true, api.OK},
		{of("1", "1 > 1", "2 > 2"), false, api.OK},
		// The first transition can always fire again, the others only once.
		{of("1 1 0", "1 0 0 > 1 0 0", "0 1 0 > 0 0 1"), false, api.OK},
		// All can fire at the start, but not all behind the third one.
		{of("1 0", "1 0 > 1 0", "1 0 > 1 0", "1 0 > 0 1", "0 1 > 0 1"), false, api.OK},
	} {
		if ok, e := net.Live(x.n); ok != x.want || e != x.e {
			t.Error(x, ok, e)
		}
	}
	tried := map[bool]int{}
	for _, s := range subjects() {
		n := s.Net
		ok, e := net.Live(n)
		if !s.whole && (e != api.ErrSize || ok) || s.whole && e != api.OK {
			t.Error(n, ok, e)
		}
		if len(s.all) <= 200 {
			if ok != s.live(len(n.Pre)) {
				t.Error(n, ok)
			}
			tried[ok]++
		}
	}
	if tried[true] < 100 || tried[false] < 100 {
		t.Error("too few", tried)
	}
}

// P2.10.
func TestSetsStay(t *testing.T) {
	siphons, traps := 0, 0
	for _, s := range subjects() {
		n := s.Net
		list, _ := net.Siphons(n)
		var greatest []int
		for set := range 1 << len(n.Start) {
			trap, _ := net.Trap(n, set)
			greatest = append(greatest, trap)
		}
		slices.Sort(greatest)
		greatest = slices.Compact(greatest)
		for i, to := range s.next[:min(len(s.next), 100)] {
			for _, j := range to {
				if j < 0 {
					continue
				}
				for _, set := range list {
					if !touches(s.all[i], set) && touches(s.all[j], set) {
						t.Error(n, s.all[i], s.all[j], set)
					}
					siphons++
				}
				for _, set := range greatest {
					if touches(s.all[i], set) && !touches(s.all[j], set) {
						t.Error(n, s.all[i], s.all[j], set)
					}
					traps++
				}
			}
		}
	}
	if siphons < 10000 || traps < 10000 {
		t.Error("too few", siphons, traps)
	}
}

// P2.11.
func TestCommonersTheorem(t *testing.T) {
	tried := map[bool]int{}
	for _, n := range samples() {
		free, _ := net.FreeChoice(n)
		live, e := net.Live(n)
		if !free || e != api.OK {
			continue
		}
		s, f := net.Commoner(n)
		if live != (f == api.ErrNone) || !live && f != api.OK {
			t.Error(n, live, s, f)
		}
		tried[live]++
	}
	if tried[true] < 100 || tried[false] < 100 {
		t.Error("too few", tried)
	}
}
