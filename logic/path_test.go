package logic_test

import (
	"math"
	"math/rand"
	"slices"
	"testing"

	"massecuite/api"
	"massecuite/logic"
)

var shown = []string{"EX", "EF", "EG", "EU"}

// opposite is, for the Ops that Refute takes, those of what it shows.
var opposite = map[string]string{"AX": "EX", "AF": "EG", "AG": "EF"}

// kidsOf returns which states satisfy the Kids of a formula.
func kidsOf(s structure, f formula) (x, y []bool) {
	x, y = make([]bool, len(s.Next)), make([]bool, len(s.Next))
	for k, kid := range f.Kids {
		if k == 0 {
			x = far(s, kid)
		} else {
			y = far(s, kid)
		}
	}
	return x, y
}

// checkWitness tests Witness for one state, that CheckWitness accepts what it
// returns, and that this is what the chapter asks for (P6.3, P6.9).
func checkWitness(t *testing.T, s structure, f formula, state int, satisfied bool) {
	t.Helper()
	p, e := logic.Witness(s, f, state)
	if !satisfied {
		if len(p.States) > 0 || p.Loop != 0 || e != api.ErrNone {
			t.Error("Witness", s, printed(f), state, p, e)
		}
		return
	}
	x, y := kidsOf(s, f)
	if e != api.OK || !fitting(s, p) || p.States[0] != state || !shows(p, f.Op, x, y) {
		t.Fatal("Witness", s, printed(f), state, p, e)
	}
	checkShown(t, s, f, p, true)
}

// checkShown tests CheckWitness.
func checkShown(t *testing.T, s structure, f formula, p path, want bool) {
	t.Helper()
	if ok, e := logic.CheckWitness(s, f, p); ok != want || e != api.OK {
		t.Error("CheckWitness", s, printed(f), p, ok, e, want)
	}
}

// checkRefute tests Refute for one state.
func checkRefute(t *testing.T, s structure, f formula, state int, satisfied bool) {
	t.Helper()
	p, e := logic.Refute(s, f, state)
	if satisfied {
		if len(p.States) > 0 || p.Loop != 0 || e != api.ErrNone {
			t.Error("Refute", s, printed(f), state, p, e)
		}
		return
	}
	x, _ := kidsOf(s, f)
	for k := range x {
		x[k] = !x[k]
	}
	if e != api.OK || !fitting(s, p) || p.States[0] != state || !shows(p, opposite[f.Op], x, nil) {
		t.Fatal("Refute", s, printed(f), state, p, e)
	}
	g := node(opposite[f.Op], node("!", f.Kids[0]))
	if n, deep := nodes(g); n <= 200 && deep <= 60 {
		checkShown(t, s, g, p, true)
	}
}

// checkProofs tests Witness and Refute for all states and all Ops that they take
// over two Kids, and that they do not take the others.
func checkProofs(t *testing.T, s structure, f, g formula) {
	t.Helper()
	for _, op := range shown {
		h := node(op, f)
		if op == "EU" {
			h = node(op, f, g)
		}
		for state, satisfied := range far(s, h) {
			checkWitness(t, s, h, state, satisfied)
			checkNoRefute(t, s, h, state)
		}
	}
	for op := range opposite {
		h := node(op, f)
		for state, satisfied := range far(s, h) {
			checkRefute(t, s, h, state, satisfied)
			checkNoWitness(t, s, h, state)
		}
	}
	for _, h := range []formula{node("AU", f, g), node("&", f, g), node("|", g, f), node("!", f), node("a"), node("true")} {
		for state := range s.Next {
			checkNoWitness(t, s, h, state)
			checkNoRefute(t, s, h, state)
		}
	}
}

// checkNoWitness tests that Witness and CheckWitness say ErrArg.
func checkNoWitness(t *testing.T, s structure, f formula, state int) {
	t.Helper()
	if p, e := logic.Witness(s, f, state); len(p.States) > 0 || p.Loop != 0 || e != api.ErrArg {
		t.Error("Witness", s, f.Op, state, p, e)
	}
	if !slices.Contains(shown, f.Op) {
		if ok, e := logic.CheckWitness(s, f, path{States: []int{state}}); ok || e != api.ErrArg {
			t.Error("CheckWitness", s, f.Op, state, ok, e)
		}
	}
}

// checkNoRefute tests that Refute says ErrArg.
func checkNoRefute(t *testing.T, s structure, f formula, state int) {
	t.Helper()
	if p, e := logic.Refute(s, f, state); len(p.States) > 0 || p.Loop != 0 || e != api.ErrArg {
		t.Error("Refute", s, f.Op, state, p, e)
	}
}

// P6.3: example 1.
func TestWitness(t *testing.T) {
	two := structure{Next: []int{2, 2}, Label: []int{0, 1}}
	f := node("EF", node("a"))
	p, e := logic.Witness(two, f, 0)
	if !slices.Equal(p.States, []int{0, 1}) || p.Loop != 1 || e != api.OK {
		t.Error(p, e)
	}
	checkShown(t, two, f, p, true)
	checkWitness(t, two, node("EG", node("!", node("a"))), 0, false)
	checkWitness(t, two, node("EG", node("a")), 0, false)
	checkWitness(t, two, node("EG", node("a")), 1, true)
	checkRefute(t, two, node("AG", node("a")), 0, false)
	checkRefute(t, two, node("AG", node("a")), 1, true)
}

// P6.3, P6.4, P6.9.
func TestProofsOfMany(t *testing.T) {
	r := rand.New(rand.NewSource(8))
	for _, s := range small() {
		for range 6 {
			checkProofs(t, s, simple()[r.Intn(70)], simple()[r.Intn(len(simple()))])
		}
	}
	for _, s := range large() {
		for range 3 {
			checkProofs(t, s, chosen(r, 1+r.Intn(20), 10), chosen(r, 1+r.Intn(20), 10))
		}
	}
	a := node("a")
	for n := 5; n <= 16; n++ {
		checkProofs(t, chain(n, 1), a, a)
		checkProofs(t, chain(n, 1), node("!", a), a)
		checkProofs(t, ring(n, 1), node("!", a), a)
		checkProofs(t, ring(n, 1), node("true"), node("b"))
	}
}

// P6.3, P6.4: formulas of 200 nodes and 60 deep, for which that of Refute would
// have too many nodes, or be too deep.
func TestProofsOfLargest(t *testing.T) {
	for _, s := range []structure{{Next: []int{2, 2}, Label: []int{0, 1}}, {Next: []int{3, 3, 7}, Label: []int{3, 0, 1}}, chain(16, 1), ring(16, 2)} {
		for _, kid := range []formula{wide(199), tall(59), node("!", wide(198)), node("!", tall(58)), node("&", tall(58), wide(140)), node("!", node("!", wide(197)))} {
			for state := range s.Next {
				for _, op := range []string{"EX", "EF", "EG"} {
					h := node(op, kid)
					checkWitness(t, s, h, state, far(s, h)[state])
				}
				for op := range opposite {
					h := node(op, kid)
					checkRefute(t, s, h, state, far(s, h)[state])
				}
			}
		}
	}
}

// P6.3: ErrArg for states below 0 and beyond the last one, also where the Op is
// another one.
func TestProofsOfNoState(t *testing.T) {
	for _, s := range []structure{{Next: []int{1}, Label: []int{1}}, {Next: []int{2, 2}, Label: []int{0, 1}}, chain(16, 1)} {
		for _, state := range []int{-1, -2, len(s.Next), len(s.Next) + 1, 16, 17, 63, 64, 65, 1 << 32, math.MaxInt, math.MinInt} {
			for _, f := range []formula{node("a"), node("EX", node("true")), node("EF", node("a")), node("EG", node("b")), node("EU", node("a"), node("b")),
				node("AX", node("true")), node("AF", node("b")), node("AG", node("a")), node("AU", node("a"), node("b"))} {
				checkNoWitness(t, s, f, state)
				checkNoRefute(t, s, f, state)
			}
		}
	}
}

// P6.3: EX whose second state is reached by the Loop, or is the first one again.
func TestSecondState(t *testing.T) {
	s := structure{Next: []int{3, 1}, Label: []int{1, 2}}
	a, b := node("EX", node("a")), node("EX", node("b"))
	for _, c := range []struct {
		p    path
		a, b bool
	}{
		{path{States: []int{0}}, true, false},
		{path{States: []int{0, 0}}, true, false},
		{path{States: []int{0, 0}, Loop: 1}, true, false},
		{path{States: []int{0, 1}}, false, true},
		{path{States: []int{0, 1}, Loop: 1}, false, false}, // 1 does not follow 1
		{path{States: []int{1, 0}}, true, false},
		{path{States: []int{1, 0}, Loop: 1}, true, false},
		{path{States: []int{1}}, false, false},
		{path{States: []int{0, 1, 0}, Loop: 1}, false, true},
		{path{States: []int{0, 0, 1}, Loop: 0}, true, false},
	} {
		checkShown(t, s, a, c.p, c.a)
		checkShown(t, s, b, c.p, c.b)
	}
	one := structure{Next: []int{1}, Label: []int{1}}
	checkWitness(t, one, a, 0, true)
	checkWitness(t, one, b, 0, false)
}

// P6.3: paths with 64 states and 65, a Loop that is no index, and States that
// are none.
func TestFitting(t *testing.T) {
	for _, s := range []structure{{Next: []int{1}, Label: []int{1}}, {Next: []int{3, 3}, Label: []int{1, 1}}} {
		for _, f := range []formula{node("EX", node("a")), node("EF", node("a")), node("EG", node("a")), node("EU", node("b"), node("a"))} {
			for _, n := range []int{1, 2, 3, 16, 17, 63, 64, 65, 66, 128, 100_000} {
				for _, loop := range []int{0, 1, 2, 62, 63, 64, 65, n - 1, n, n + 1, -1, -n, math.MaxInt, math.MinInt} {
					checkShown(t, s, f, path{States: make([]int, n), Loop: loop}, n <= 64 && loop >= 0 && loop < n)
				}
			}
			for _, loop := range []int{0, -1, 1} {
				checkShown(t, s, f, path{Loop: loop}, false)
				checkShown(t, s, f, path{States: []int{}, Loop: loop}, false)
			}
			for _, state := range []int{-1, len(s.Next), 16, 17, 62, 63, 64, 65, 1 << 32, math.MaxInt, math.MinInt} {
				for _, states := range [][]int{{state}, {0, state}, {state, 0}, {0, state, 0}, {0, 0, state}} {
					for loop := range states {
						checkShown(t, s, f, path{States: states, Loop: loop}, false)
					}
				}
			}
		}
	}
}

// P6.3: CheckWitness for paths of any kind.
func TestCheckWitness(t *testing.T) {
	r := rand.New(rand.NewSource(9))
	fit, right := 0, 0
	for k, s := range slices.Concat(small(), small(), large()) {
		for range 20 {
			f := simple()[r.Intn(len(simple()))]
			op := shown[k%4]
			h := node(op, f)
			if op == "EU" {
				h = node(op, f, simple()[r.Intn(len(simple()))])
			}
			p := strolled(r, s)
			x, y := kidsOf(s, h)
			want := fitting(s, p) && shows(p, op, x, y)
			checkShown(t, s, h, p, want)
			if fitting(s, p) {
				fit++
			}
			if want {
				right++
				// P6.9: it begins at a state that satisfies the formula.
				if !far(s, h)[p.States[0]] {
					t.Error(s, printed(h), p)
				}
			}
		}
	}
	if fit < 5000 || right < 3000 || fit-right < 1000 {
		t.Error("not enough", fit, right)
	}
}

// strolled returns a path of a structure, or nearly one.
func strolled(r *rand.Rand, s structure) path {
	p := path{States: []int{r.Intn(len(s.Next))}}
	for range r.Intn(12) {
		last := p.States[len(p.States)-1]
		for next := r.Intn(len(s.Next)); ; next = (next + 1) % len(s.Next) {
			if s.Next[last]&(1<<next) != 0 || r.Intn(40) == 0 {
				p.States = append(p.States, next)
				break
			}
		}
	}
	p.Loop = r.Intn(len(p.States))
	for try := 0; try < 20 && !fitting(s, p); try++ {
		p.Loop = r.Intn(len(p.States))
	}
	return p
}

// P6.3, P6.4: ErrArg for what is no formula, also where the state or the path is
// no right one.
func TestProofsOfInvalid(t *testing.T) {
	s := structure{Next: []int{3, 3}, Label: []int{1, 1}}
	for _, f := range invalid() {
		if x, e := logic.Sat(s, f); x != 0 || e != api.ErrArg {
			t.Error("Sat", f.Op, x, e)
		}
		for _, state := range []int{0, 1, 2, -1} {
			checkNoWitness(t, s, f, state)
			checkNoRefute(t, s, f, state)
			if ok, e := logic.CheckWitness(s, f, path{States: []int{state}}); ok || e != api.ErrArg {
				t.Error("CheckWitness", f.Op, ok, e)
			}
		}
	}
}
