package logic_test

import (
	"math/rand"
	"reflect"
	"slices"
	"testing"

	"massecuite/api"
	"massecuite/logic"
	"massecuite/net"
)

// grid has the markings from 0 0 to 3 3: two transitions take tokens away.
var grid = net.Net{Pre: [][]int{{1, 0}, {0, 1}}, Post: [][]int{{0, 0}, {0, 0}}, Start: api.Marking{3, 3}}

// wider has the same markings and a third place, which gets a token instead of
// all the others: one marking more.
var wider = net.Net{
	Pre:   [][]int{{1, 0, 0}, {0, 1, 0}, {3, 3, 0}},
	Post:  [][]int{{0, 0, 0}, {0, 0, 0}, {0, 0, 1}},
	Start: api.Marking{3, 3, 0},
}

// markings returns the reachable markings of a net, rising; nil if there are
// more than 100.
func markings(n net.Net) []api.Marking {
	out := []api.Marking{n.Start}
	for i := 0; i < len(out) && len(out) <= 100; i++ {
		for _, to := range successors(n, out[i]) {
			if !slices.ContainsFunc(out, func(m api.Marking) bool { return slices.Equal(m, to) }) {
				out = append(out, to)
			}
		}
	}
	if len(out) > 100 {
		return nil
	}
	slices.SortFunc(out, slices.Compare)
	return out
}

// successors returns what firing each transition that is enabled makes of m.
func successors(n net.Net, m api.Marking) []api.Marking {
	var out []api.Marking
	for t, pre := range n.Pre {
		to, enabled := slices.Clone(m), true
		for p := range to {
			enabled = enabled && pre[p] <= m[p]
			to[p] += n.Post[t][p] - pre[p]
		}
		if enabled {
			out = append(out, to)
		}
	}
	return out
}

// structureOf returns the structure of these reachable markings.
func structureOf(n net.Net, all []api.Marking) structure {
	var s structure
	for x, m := range all {
		next, label := 0, 0
		for _, to := range successors(n, m) {
			next |= 1 << slices.IndexFunc(all, func(other api.Marking) bool { return slices.Equal(other, to) })
		}
		if next == 0 {
			next = 1 << x
		}
		for p, tokens := range m {
			if tokens > 0 {
				label |= 1 << p
			}
		}
		s.Next, s.Label = append(s.Next, next), append(s.Label, label)
	}
	return s
}

// checkNet tests FromNet, and reports whether it returns a structure.
func checkNet(t *testing.T, n net.Net) bool {
	t.Helper()
	s, m, e := logic.FromNet(n)
	all := markings(n)
	if all == nil || len(all) > 16 {
		if !reflect.DeepEqual(s, structure{}) || len(m) > 0 || e != api.ErrSize {
			t.Error("FromNet", n, s, m, e)
		}
		return false
	}
	if want := structureOf(n, all); !reflect.DeepEqual(s, want) || !reflect.DeepEqual(m, all) || e != api.OK || !logic.Valid(s) {
		t.Error("FromNet", n, s, m, e, want, all)
	}
	checkCovers(t, n, s, slices.IndexFunc(all, func(m api.Marking) bool { return slices.Equal(m, n.Start) }))
	return true
}

// checkCovers tests P6.12.
func checkCovers(t *testing.T, n net.Net, s structure, start int) {
	t.Helper()
	for p := range n.Start {
		one := make(api.Marking, len(n.Start))
		one[p] = 1
		want, e := net.Covers(n, one)
		if e == api.ErrSize {
			continue
		}
		x, e2 := logic.Sat(s, node("EF", node(leaves[1+p])))
		if e != api.OK || e2 != api.OK || want != (x>>start&1 == 1) {
			t.Error("Covers", n, p, want, e, x, e2)
		}
	}
}

// P6.6: example 4, and other small nets.
func TestFromNet(t *testing.T) {
	for _, c := range []struct {
		n    net.Net
		s    structure
		all  []api.Marking
		what string
	}{
		{net.Net{Pre: [][]int{{1, 0}, {0, 1}}, Post: [][]int{{0, 1}, {1, 0}}, Start: api.Marking{1, 0}},
			structure{Next: []int{2, 1}, Label: []int{2, 1}}, []api.Marking{{0, 1}, {1, 0}}, "example 4"},
		{net.Net{Pre: [][]int{{1}}, Post: [][]int{{0}}, Start: api.Marking{2}},
			structure{Next: []int{1, 1, 2}, Label: []int{0, 1, 1}}, []api.Marking{{0}, {1}, {2}}, "nothing is enabled at the last one"},
		{net.Net{Pre: [][]int{{1}}, Post: [][]int{{1}}, Start: api.Marking{0}},
			structure{Next: []int{1}, Label: []int{0}}, []api.Marking{{0}}, "nothing is enabled at the first one"},
		{net.Net{Pre: [][]int{{1}}, Post: [][]int{{1}}, Start: api.Marking{1}},
			structure{Next: []int{1}, Label: []int{1}}, []api.Marking{{1}}, "a firing that changes nothing"},
		{net.Net{Pre: [][]int{{1}, {2}}, Post: [][]int{{1}, {0}}, Start: api.Marking{2}},
			structure{Next: []int{1, 3}, Label: []int{0, 1}}, []api.Marking{{0}, {2}}, "a choice"},
		{net.Net{Pre: [][]int{{1, 0, 0, 0, 0, 0}}, Post: [][]int{{0, 0, 0, 0, 0, 1}}, Start: api.Marking{1, 1, 0, 2, 0, 0}},
			structure{Next: []int{1, 1}, Label: []int{42, 11}}, []api.Marking{{0, 1, 0, 2, 0, 1}, {1, 1, 0, 2, 0, 0}}, "six places"},
	} {
		s, m, e := logic.FromNet(c.n)
		if !reflect.DeepEqual(s, c.s) || !reflect.DeepEqual(m, c.all) || e != api.OK {
			t.Error(c.what, s, m, e)
		}
		checkNet(t, c.n)
	}
}

// P6.6: nets with 16 reachable markings and 17; with more than net.Reach
// returns.
func TestSizeOfNets(t *testing.T) {
	if n := len(markings(grid)); n != 16 || !checkNet(t, grid) {
		t.Error(n)
	}
	if n := len(markings(wider)); n != 17 || checkNet(t, wider) {
		t.Error(n)
	}
	grows := net.Net{Pre: [][]int{{0}}, Post: [][]int{{1}}, Start: api.Marking{0}}
	cube := net.Net{Pre: make([][]int, 6), Post: make([][]int, 6), Start: api.Marking{5, 5, 5, 5, 5, 5}}
	for k := range 6 {
		cube.Pre[k], cube.Post[k] = make([]int, 6), make([]int, 6)
		cube.Pre[k][k] = 1
	}
	for _, n := range []net.Net{grows, cube} {
		if checkNet(t, n) {
			t.Error("too small", n)
		}
		if _, e := net.Reach(n); e != api.ErrSize {
			t.Error(e)
		}
	}
}

// P6.6, P6.12.
func TestFromManyNets(t *testing.T) {
	r := rand.New(rand.NewSource(13))
	fit, just := 0, 0
	for range 6000 {
		n := drawnNet(r, 1+r.Intn(6), 1+r.Intn(6))
		if checkNet(t, n) {
			fit++
			if len(markings(n)) > 9 {
				just++
			}
		}
	}
	if fit < 1000 || just < 50 {
		t.Error("not enough", fit, just)
	}
}

// drawnNet returns a net whose transitions mostly do not make more tokens of
// less.
func drawnNet(r *rand.Rand, places, transitions int) net.Net {
	n := net.Net{Start: make(api.Marking, places)}
	for p := range places {
		if r.Intn(2) == 0 {
			n.Start[p] = r.Intn(4)
		}
	}
	for range transitions {
		pre, post := make([]int, places), make([]int, places)
		for range 1 + r.Intn(2) {
			pre[r.Intn(places)] = 1 + r.Intn(2)
		}
		for range r.Intn(3) {
			post[r.Intn(places)] = 1
		}
		n.Pre, n.Post = append(n.Pre, pre), append(n.Post, post)
	}
	return n
}

// P6.6: ErrArg for what is no net, also where it would be too large.
func TestInvalidNets(t *testing.T) {
	seven := make([]int, 7)
	for _, n := range []net.Net{{}, {Start: api.Marking{1}}, {Pre: [][]int{{1}}, Start: api.Marking{1}}, {Pre: [][]int{{1}}, Post: [][]int{{1}}},
		{Pre: [][]int{{1}}, Post: [][]int{{1}, {1}}, Start: api.Marking{1}},
		{Pre: [][]int{{0}}, Post: [][]int{{4}}, Start: api.Marking{0}},
		{Pre: [][]int{{-1}}, Post: [][]int{{0}}, Start: api.Marking{0}},
		{Pre: [][]int{{0}}, Post: [][]int{{1}}, Start: api.Marking{6}},
		{Pre: [][]int{{0}}, Post: [][]int{{1}}, Start: api.Marking{-1}},
		{Pre: [][]int{{0}}, Post: [][]int{{1}}, Start: api.Marking{api.Many}},
		{Pre: [][]int{{0, 0}}, Post: [][]int{{1}}, Start: api.Marking{0}},
		{Pre: [][]int{seven}, Post: [][]int{seven}, Start: seven},
		{Pre: make([][]int, 7), Post: make([][]int, 7), Start: api.Marking{}},
	} {
		if s, m, e := logic.FromNet(n); !reflect.DeepEqual(s, structure{}) || len(m) > 0 || e != api.ErrArg {
			t.Error("FromNet", n, s, m, e)
		}
	}
}
