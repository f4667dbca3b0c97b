package net_test

import (
	"math"
	"math/rand"
	"reflect"
	"slices"
	"testing"

	"massecuite/api"
	"massecuite/net"
)

func sameMarkings(a, b []api.Marking) bool {
	return slices.EqualFunc(a, b, slices.Equal)
}

// P2.1: which nets are valid is tested in rules_test.go, too.
func TestValid(t *testing.T) {
	for _, n := range samples() {
		if !net.Valid(n) {
			t.Error(n)
		}
	}
	n := empty(api.MaxPlaces, api.MaxTrans)
	for k := range 6 {
		n.Start[k] = 5
		n.Pre[k] = row("3 3 3 3 3 3")
		n.Post[k] = row("3 3 3 3 3 3")
	}
	if !net.Valid(n) || !net.Valid(of("0", "0 > 0")) {
		t.Error(n)
	}
}

// P2.1, with its limits and Many.
func TestFire(t *testing.T) {
	n := of("0 0", "1 2 > 3 0", "0 3 > 0 0", "0 0 > 0 3", "0 0 > 0 0")
	for _, x := range []struct {
		m    string
		t    int
		want string
		e    api.Errno
	}{
		{"1 2", 0, "3 0", api.OK},
		{"5 3", 0, "7 1", api.OK},
		{"0 2", 0, "", api.ErrNone},
		{"1 1", 0, "", api.ErrNone},
		{"100 2", 1, "", api.ErrNone},
		{"0 0", 2, "0 3", api.OK},
		{"0 0", 3, "0 0", api.OK},
		{"* 2", 0, "* 0", api.OK},
		{"1 *", 0, "3 *", api.OK},
		{"* *", 0, "* *", api.OK},
		{"0 *", 0, "", api.ErrNone},
		{"* *", 2, "* *", api.OK},
		{"1073741824 1073741824", 0, "1073741826 1073741822", api.OK},
		{"1073741824 1073741824", 2, "1073741824 1073741827", api.OK},
		{"1073741825 1", 0, "", api.ErrArg},
		{"1 1073741825", 3, "", api.ErrArg},
		{"1099511627775 0", 3, "", api.ErrArg},
		{"1099511627777 0", 3, "", api.ErrArg},
		{"-1 0", 3, "", api.ErrArg},
		{"0 -1", 3, "", api.ErrArg},
		{"-9223372036854775808 0", 3, "", api.ErrArg},
		{"0 9223372036854775807", 3, "", api.ErrArg},
		{"", 3, "", api.ErrArg},
		{"1", 3, "", api.ErrArg},
		{"1 2 0", 0, "", api.ErrArg},
		{"1 2", -1, "", api.ErrArg},
		{"1 2", 4, "", api.ErrArg},
		{"1 2", math.MaxInt, "", api.ErrArg},
		{"1 2", math.MinInt, "", api.ErrArg},
	} {
		if m, e := net.Fire(n, row(x.m), x.t); !slices.Equal(m, row(x.want)) || e != x.e {
			t.Error(x, m, e)
		}
	}
	r := rand.New(rand.NewSource(2))
	for _, n := range samples() {
		m := make(api.Marking, len(n.Start))
		for p := range m {
			m[p] = []int{0, 1, 2, 3, r.Intn(10), 1 << 30, api.Many}[r.Intn(7)]
		}
		for i := range n.Pre {
			got, e := net.Fire(n, m, i)
			if enabled(n, m, i) && (e != api.OK || !slices.Equal(got, fired(n, m, i))) {
				t.Error(n, m, i, got, e)
			}
			if !enabled(n, m, i) && (e != api.ErrNone || len(got) > 0) {
				t.Error(n, m, i, got, e)
			}
		}
	}
}

// P2.2, and the examples 1 to 3.
func TestReach(t *testing.T) {
	for _, x := range []struct {
		n         net.Net
		all, dead []string
	}{
		{ring, []string{"0 1", "1 0"}, nil},
		{fewer, []string{"0", "1", "2"}, []string{"0"}},
		{of("5", "2 > 0"), []string{"1", "3", "5"}, []string{"1"}},
		{of("2", "3 > 0"), []string{"2"}, []string{"2"}},
		{of("0", "0 > 0"), []string{"0"}, nil},
		{of("3 0", "1 0 > 0 1"), []string{"0 3", "1 2", "2 1", "3 0"}, []string{"0 3"}},
		{of("1 0 0", "1 0 0 > 0 1 0", "1 0 0 > 0 0 1"), []string{"0 0 1", "0 1 0", "1 0 0"}, []string{"0 0 1", "0 1 0"}},
		{of("5 0", "1 0 > 0 3", "0 1 > 0 0"), nil, []string{"0 0"}},
		{stuck, nil, []string{"0 1 0 1 0 0"}},
		{shared, []string{"0 1 1 0 0", "1 0 0 1 0", "1 0 1 0 1"}, nil},
	} {
		all, e := net.Reach(x.n)
		if e != api.OK || x.all != nil && !sameMarkings(all, markings(x.all...)) {
			t.Error(x, all, e)
		}
		if dead, e := net.Dead(x.n); e != api.OK || !sameMarkings(dead, markings(x.dead...)) {
			t.Error(x, dead, e)
		}
	}
	for _, s := range subjects() {
		n := s.Net
		all, e := net.Reach(n)
		dead, f := net.Dead(n)
		if !s.whole {
			if e != api.ErrSize || f != api.ErrSize || len(all)+len(dead) > 0 {
				t.Error(n, len(all), e, len(dead), f)
			}
			continue
		}
		var ends []api.Marking
		for i, m := range s.all {
			if slices.Max(s.next[i]) < 0 {
				ends = append(ends, m)
			}
		}
		slices.SortFunc(ends, slices.Compare)
		want := slices.SortedFunc(slices.Values(s.all), slices.Compare)
		if e != api.OK || f != api.OK || !sameMarkings(all, want) || !sameMarkings(dead, ends) {
			t.Error(n, all, e, dead, f)
		}
	}
}

// P2.2: the first of the shortest words, and the example 3.
func TestWord(t *testing.T) {
	diamond := of("1 0 0 0", "0 0 1 0 > 0 0 0 1", "1 0 0 0 > 0 1 0 0", "1 0 0 0 > 0 0 1 0", "0 1 0 0 > 0 0 0 1")
	for _, x := range []struct {
		n    net.Net
		m    string
		want string
		e    api.Errno
	}{
		{ring, "1 0", "", api.OK},
		{ring, "0 1", "0", api.OK},
		{ring, "1 1", "", api.ErrNone},
		{ring, "0 0", "", api.ErrNone},
		{fewer, "0", "0 0", api.OK},
		{fewer, "3", "", api.ErrNone},
		{fewer, "1073741824", "", api.ErrNone},
		{diamond, "0 0 0 1", "1 3", api.OK},                       // not 2 0
		{of("1 0", "0 0 > 0 0", "1 0 > 0 1"), "0 1", "1", api.OK}, // not 0 1
		{of("1 0", "1 0 > 0 1", "1 0 > 0 1"), "0 1", "0", api.OK},
		{of("2 0 0", "1 0 0 > 0 1 0", "1 0 0 > 0 0 1"), "0 1 1", "0 1", api.OK},
	} {
		if w, e := net.Word(x.n, row(x.m)); !slices.Equal(w, row(x.want)) || e != x.e {
			t.Error(x, w, e)
		}
	}
	r := rand.New(rand.NewSource(3))
	for _, s := range subjects() {
		n := s.Net
		if !s.whole {
			if list, e := net.Word(n, n.Start); e != api.ErrSize || len(list) > 0 {
				t.Error(n, list, e)
			}
			continue
		}
		for range 3 {
			goal := r.Intn(len(s.all))
			list, e := net.Word(n, s.all[goal])
			if want := firstWord(s.walk, goal); e != api.OK || !slices.Equal(list, want) {
				t.Error(n, s.all[goal], list, e, want)
			}
			other := slices.Clone(s.all[goal])
			other[r.Intn(len(other))] = r.Intn(8)
			_, in := s.at[keyOf(other)]
			if list, e := net.Word(n, other); in != (e == api.OK) || !in && (e != api.ErrNone || len(list) > 0) {
				t.Error(n, other, list, e)
			}
		}
	}
}

// firstWord returns the first shortest word: the least transition after which
// one firing less is left, again and again.
func firstWord(w walk, goal int) []int {
	left := w.steps(goal)
	var out []int
	for at := 0; at != goal; {
		t := slices.IndexFunc(w.next[at], func(to int) bool { return to >= 0 && left[to] == left[at]-1 })
		out = append(out, t)
		at = w.next[at][t]
	}
	return out
}

// P2.3, and the example 2.
func TestCover(t *testing.T) {
	for _, x := range []struct {
		n    net.Net
		want []string
	}{
		{more, []string{"*"}},
		{ring, []string{"0 1", "1 0"}},
		{fewer, []string{"2"}},
		{of("5", "2 > 0"), []string{"5"}},
		{of("3 0", "1 0 > 0 3"), []string{"0 9", "1 6", "2 3", "3 0"}},
		{of("1 0 0", "1 0 0 > 0 1 0", "0 1 0 > 1 0 1"), []string{"0 1 *", "1 0 *"}},
		{of("1 0", "1 0 > 1 1", "0 2 > 2 0"), []string{"* *"}},
		{of("1 0 0", "1 0 0 > 1 1 0", "1 0 0 > 0 0 1", "0 1 1 > 0 0 1"), []string{"0 * 1", "1 * 0"}},
		{of("0 0 5", "0 0 1 > 3 0 0", "0 3 0 > 0 1 0"), []string{"0 0 5", "3 0 4", "6 0 3", "9 0 2", "12 0 1", "15 0 0"}},
	} {
		if list, e := net.Cover(x.n); !sameMarkings(list, markings(x.want...)) || e != api.OK {
			t.Error(x, list, e)
		}
	}
	for _, n := range samples() {
		list, e := net.Cover(n)
		tree := treeOf(n, api.MaxNodes)
		if tree == nil {
			if ok, f := net.Covers(n, n.Start); e != api.ErrSize || len(list) > 0 || ok || f != api.ErrSize {
				t.Error(n, len(list), e, ok, f)
			}
			continue
		}
		if e != api.OK || !sameMarkings(list, greatest(tree)) {
			t.Error(n, list, e)
		}
	}
}

// P2.3 and P2.8: what Covers says, what Cover says, and what can be reached.
func TestCovers(t *testing.T) {
	for _, x := range []struct {
		n    net.Net
		m    string
		want bool
	}{
		{more, "100", true}, {more, "1073741824", true}, {more, "0", true},
		{fewer, "2", true}, {fewer, "3", false}, {fewer, "1073741824", false},
		{ring, "1 1", false}, {ring, "0 1", true}, {ring, "0 0", true}, {ring, "0 2", false},
		{of("1 0", "1 0 > 1 1"), "1 1000", true}, {of("1 0", "1 0 > 1 1"), "2 0", false},
	} {
		if ok, e := net.Covers(x.n, row(x.m)); ok != x.want || e != api.OK {
			t.Error(x, ok, e)
		}
	}
	r := rand.New(rand.NewSource(4))
	tried := map[bool]int{}
	for _, n := range samples() {
		list, e := net.Cover(n)
		if e != api.OK {
			continue
		}
		for range 4 {
			m := make(api.Marking, len(n.Start))
			for p := range m {
				m[p] = max(0, r.Intn(9)-3-r.Intn(3))
			}
			ok, e := net.Covers(n, m)
			below := slices.ContainsFunc(list, func(x api.Marking) bool { return atMost(m, x) })
			if e != api.OK || ok != below {
				t.Error(n, m, ok, e, list)
			}
			want, known := coverable(n, m)
			if known && ok != want {
				t.Error(n, m, ok, want)
			}
			if known {
				tried[ok]++
			}
		}
	}
	if tried[true] < 1000 || tried[false] < 1000 {
		t.Error("too few", tried)
	}
}

// P2.8: the bounds of the places.
func TestCoverBounds(t *testing.T) {
	for _, s := range subjects() {
		n := s.Net
		list, e := net.Cover(n)
		if e != api.OK {
			continue
		}
		bound := slices.Clone(list[0])
		for _, m := range list {
			for p := range m {
				bound[p] = max(bound[p], m[p])
			}
		}
		for _, m := range s.all {
			if !atMost(m, bound) {
				t.Fatal(n, m, list)
			}
		}
		if s.whole && slices.Max(bound) == api.Many {
			t.Error(n, len(s.all), list)
		}
	}
}

// P2.2, P2.3, P2.6: just 2000 markings or nodes are not too many.
func TestSizes(t *testing.T) {
	for _, x := range []struct {
		n    net.Net
		size int
		e    api.Errno
	}{{markings2000, 2000, api.OK}, {markings2001, 2001, api.ErrSize}} {
		w, ok := walked(x.n, x.size)
		if !ok || len(w.all) != x.size {
			t.Fatal(x, len(w.all))
		}
		all, e1 := net.Reach(x.n)
		dead, e2 := net.Dead(x.n)
		word, e3 := net.Word(x.n, w.all[len(w.all)-1])
		live, e4 := net.Live(x.n)
		if !reflect.DeepEqual([]api.Errno{e1, e2, e3, e4}, []api.Errno{x.e, x.e, x.e, x.e}) || live {
			t.Error(x, e1, e2, e3, e4)
		}
		if x.e == api.OK && (len(all) != x.size || !sameMarkings(dead, markings("0 0 0 0 0")) || len(word) != 18) {
			t.Error(len(all), dead, word)
		}
		if x.e != api.OK && len(all)+len(dead)+len(word) > 0 {
			t.Error(all, dead, word)
		}
	}
	for _, x := range []struct {
		n    net.Net
		size int
		e    api.Errno
	}{{tree2000, 2000, api.OK}, {tree2001, 2001, api.ErrSize}} {
		if treeOf(x.n, x.size-1) != nil || len(treeOf(x.n, x.size)) != x.size {
			t.Fatal(x)
		}
		list, e := net.Cover(x.n)
		ok, f := net.Covers(x.n, x.n.Start)
		if e != x.e || f != x.e || ok != (x.e == api.OK) || (len(list) > 0) != ok {
			t.Error(x, list, e, ok, f)
		}
	}
}
