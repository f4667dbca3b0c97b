package logic_test

import (
	"math"
	"math/rand"
	"reflect"
	"slices"
	"testing"

	"massecuite/api"
	"massecuite/logic"
)

// checkClasses tests Classes, Apart for all states, and Quotient.
func checkClasses(t *testing.T, s structure) {
	t.Helper()
	levels := alike(s)
	l, e := logic.Classes(s)
	if want := least(levels); !slices.Equal(l, want) || e != api.OK {
		t.Fatal("Classes", s, l, e, want)
	}
	for x := range l {
		for y := range l {
			checkApart(t, s, x, y, parted(levels, x, y))
		}
	}
	checkQuotient(t, s, l)
}

// least returns for each state the least one that is bisimilar to it. States
// that are alike for as many depths as there are states are so for all.
func least(levels [][][]bool) []int {
	var out []int
	for _, same := range levels[len(levels)-1] {
		out = append(out, slices.Index(same, true))
	}
	return out
}

// checkApart tests Apart for two states that are not alike for this depth, or
// bisimilar where it is below 0 (P6.10).
func checkApart(t *testing.T, s structure, x, y, depth int) {
	t.Helper()
	l, e := logic.Apart(s, x, y)
	if depth < 0 {
		if len(l) > 0 || e != api.ErrNone {
			t.Error("Apart", s, x, y, l, e)
		}
		return
	}
	if e != api.OK || len(l) == 0 || len(l) > 5000 {
		t.Fatal("Apart", s, x, y, l, e)
	}
	checkParts(t, s, l, x, y, depth, true)
	checkParts(t, s, l, x, x, depth, false)
	checkParts(t, s, l, y, x, depth, false)
	values, depths := evaluated(s, l)
	if last := values[len(l)-1]; !last[x] || last[y] || depths[len(l)-1] != depth {
		t.Error("Apart", s, x, y, l)
	}
}

// checkParts tests CheckApart.
func checkParts(t *testing.T, s structure, l []clause, x, y, depth int, parts bool) {
	t.Helper()
	if d, ok, e := logic.CheckApart(s, l, x, y); d != depth || ok != parts || e != api.OK {
		t.Error("CheckApart", s, l, x, y, d, ok, e, depth, parts)
	}
}

// checkNoParts tests that CheckApart says ErrArg.
func checkNoParts(t *testing.T, s structure, l []clause, x, y int) {
	t.Helper()
	if d, ok, e := logic.CheckApart(s, l, x, y); d != 0 || ok || e != api.ErrArg {
		t.Error("CheckApart", s, len(l), x, y, d, ok, e)
	}
}

// evaluated returns for each clause which states satisfy it, and its depth. It
// fails by a panic where l are no clauses.
func evaluated(s structure, l []clause) (values [][]bool, depths []int) {
	for _, c := range l {
		x, y, depth := make([]bool, len(s.Next)), make([]bool, len(s.Next)), 0
		if !slices.Contains(leaves, c.Op) {
			x, depth = values[c.X], depths[c.X]
		} else if c.X != 0 {
			panic("a first Kid")
		}
		switch {
		case c.Op == "&" || c.Op == "|":
			y, depth = values[c.Y], max(depth, depths[c.Y])
		case c.Y != 0:
			panic("a second Kid")
		}
		out := make([]bool, len(x))
		if c.Op == "EX" {
			out = stepped(s, x, true)
			depth++
		} else {
			for state := range out {
				out[state] = satisfies(s, nil, c.Op, state, x, y)
			}
		}
		values, depths = append(values, out), append(depths, depth)
	}
	return values, depths
}

// checkQuotient tests Quotient, for these classes.
func checkQuotient(t *testing.T, s structure, classes []int) {
	t.Helper()
	firsts := slices.Compact(slices.Sorted(slices.Values(classes)))
	var want structure
	for _, first := range firsts {
		next := 0
		for x, set := range s.Next {
			for to := range s.Next {
				if classes[x] == first && set&(1<<to) != 0 {
					next |= 1 << slices.Index(firsts, classes[to])
				}
			}
		}
		want.Next = append(want.Next, next)
		want.Label = append(want.Label, s.Label[first])
	}
	q, e := logic.Quotient(s)
	if !reflect.DeepEqual(q, want) || e != api.OK || !logic.Valid(q) {
		t.Fatal("Quotient", s, q, e, want)
	}
	// P6.11: it is smallest, and so it is its own quotient.
	var rising []int
	for x := range q.Next {
		rising = append(rising, x)
	}
	if l, e := logic.Classes(q); !slices.Equal(l, rising) || e != api.OK {
		t.Error("Classes of a Quotient", s, q, l, e)
	}
	if again, e := logic.Quotient(q); !reflect.DeepEqual(again, q) || e != api.OK {
		t.Error("Quotient of a Quotient", q, again, e)
	}
}

// P6.5: example 3.
func TestClasses(t *testing.T) {
	s := structure{Next: []int{2, 4, 4}, Label: []int{0, 0, 0}}
	if l, e := logic.Classes(s); !slices.Equal(l, []int{0, 0, 0}) || e != api.OK {
		t.Error(l, e)
	}
	if q, e := logic.Quotient(s); !reflect.DeepEqual(q, structure{Next: []int{1}, Label: []int{0}}) || e != api.OK {
		t.Error(q, e)
	}
	checkClasses(t, s)
	s.Label[2] = 1
	if l, e := logic.Classes(s); !slices.Equal(l, []int{0, 1, 2}) || e != api.OK {
		t.Error(l, e)
	}
	if l, e := logic.Apart(s, 1, 0); !slices.Equal(l, []clause{{Op: "a"}, {Op: "EX"}}) || e != api.OK {
		t.Error(l, e)
	}
	checkParts(t, s, []clause{{Op: "a"}, {Op: "EX"}}, 1, 0, 1, true)
	checkClasses(t, s)
}

// P6.5, P6.10, P6.11: also states that differ at the greatest depth only, and
// structures that are smallest already.
func TestClassesOfMany(t *testing.T) {
	for _, s := range slices.Concat(small(), large()) {
		checkClasses(t, s)
	}
	for n := 3; n <= 16; n++ {
		s := chain(n, 1)
		checkApart(t, s, 1, 0, n-2)
		checkApart(t, s, 0, 1, n-2)
		if q, e := logic.Quotient(s); !reflect.DeepEqual(q, s) || e != api.OK {
			t.Error(q, e)
		}
		if q, e := logic.Quotient(chain(n, 0)); !reflect.DeepEqual(q, structure{Next: []int{1}, Label: []int{0}}) || e != api.OK {
			t.Error(q, e)
		}
		if l, e := logic.Classes(ring(n, 0)); !slices.Equal(l, make([]int, n)) || e != api.OK {
			t.Error(l, e)
		}
	}
	for _, s := range dense() {
		checkClasses(t, s)
	}
}

// dense returns structures of 16 states for which Apart needs many clauses, and
// such with many classes.
func dense() []structure {
	r := rand.New(rand.NewSource(10))
	var out []structure
	for k := range 60 {
		s := chain(16, 1+k%2)
		for x := range s.Next {
			// Nearly all states of one label follow each, and few are alike.
			s.Next[x] = 1<<16 - 1
			for range 1 + r.Intn(1+k/6) {
				s.Next[x] &^= 1 << r.Intn(16)
			}
		}
		out = append(out, s)
		lower := chain(16, 1)
		for x := range lower.Next {
			lower.Next[x] |= 1<<x - 1 | 1<<r.Intn(16)
		}
		out = append(out, lower)
	}
	return out
}

// P6.5: it is Next both ways that counts, and labels.
func TestNearlyAlike(t *testing.T) {
	// 0 has what 1 has, and more; 2 goes to where both may go.
	s := structure{Next: []int{12, 8, 4, 8}, Label: []int{0, 0, 1, 2}}
	checkApart(t, s, 0, 1, 1)
	checkApart(t, s, 1, 0, 1)
	// The same labels come after one more step, but not together.
	s = structure{Next: []int{4, 24, 96, 32, 64, 32, 64}, Label: []int{0, 0, 0, 0, 0, 1, 2}}
	checkApart(t, s, 0, 1, 2)
	checkApart(t, s, 1, 0, 2)
	checkClasses(t, s)
	for label := range 64 {
		for other := range 64 {
			depth := 0
			if label == other {
				depth = -1
			}
			s := structure{Next: []int{3, 3}, Label: []int{label, other}}
			checkApart(t, s, 0, 1, depth)
			checkApart(t, s, 1, 0, depth)
			checkApart(t, s, 1, 1, -1)
		}
	}
}

// definable returns for each depth all sets of states that formulas with no more
// nested EX are satisfied by, as far as they grow.
func definable(s structure) []map[int]bool {
	known := map[int]bool{1<<len(s.Next) - 1: true}
	for k := range 6 {
		var with []bool
		for _, label := range s.Label {
			with = append(with, label>>k&1 == 1)
		}
		known[set(with)] = true
	}
	var out []map[int]bool
	for range len(s.Next) + 1 {
		closeSets(s, known)
		now := map[int]bool{}
		for x := range known {
			now[x] = true
		}
		out = append(out, now)
		for x := range now {
			known[before(s, x)] = true
		}
	}
	return out
}

// closeSets adds all sets that ! and & make of known ones.
func closeSets(s structure, known map[int]bool) {
	for n := 0; n != len(known); {
		n = len(known)
		var list []int
		for x := range known {
			list = append(list, x)
		}
		for _, x := range list {
			known[1<<len(s.Next)-1-x] = true
			for _, y := range list {
				known[x&y] = true
			}
		}
	}
}

// before returns the states that satisfy EX of what the states of a set satisfy.
func before(s structure, x int) int {
	var in []bool
	for state := range s.Next {
		in = append(in, x>>state&1 == 1)
	}
	return set(stepped(s, in, true))
}

// P6.10: what is not bisimilar is parted by clauses, but not by such of a lower
// depth: by all sets of states for which there is a formula.
func TestLeastDepth(t *testing.T) {
	for _, s := range small() {
		sets := definable(s)
		for x := range s.Next {
			for y := range s.Next {
				want := slices.IndexFunc(sets, func(known map[int]bool) bool {
					for set := range known {
						if set>>x&1 == 1 && set>>y&1 == 0 {
							return true
						}
					}
					return false
				})
				checkApart(t, s, x, y, want)
			}
		}
	}
}

// P6.5: CheckApart for clauses of any kind.
func TestCheckApart(t *testing.T) {
	r := rand.New(rand.NewSource(11))
	ops := []string{"!", "EX", "&", "|", "EX", "&", "true", "a", "b", "f"}
	parting := 0
	for _, s := range slices.Concat(small(), large()) {
		for range 10 {
			l := []clause{{Op: leaves[r.Intn(4)]}}
			size := 1 + r.Intn(12)
			for i := 1; i < size; i++ {
				c := clause{Op: ops[r.Intn(len(ops))]}
				if !slices.Contains(leaves, c.Op) {
					c.X = r.Intn(i)
				}
				if slices.Contains(binary, c.Op) {
					c.Y = r.Intn(i)
				}
				l = append(l, c)
			}
			f, depth := expanded(l, len(l)-1)
			values := far(s, f)
			for x := range s.Next {
				y := r.Intn(len(s.Next))
				checkParts(t, s, l, x, y, depth, values[x] && !values[y])
				if values[x] && !values[y] {
					parting++
				}
			}
		}
	}
	if parting < 2000 {
		t.Error("not enough", parting)
	}
}

// P6.5: 5000 clauses and 5001; none.
func TestNumberOfClauses(t *testing.T) {
	s := chain(3, 1)
	ex, not, both := []clause{{Op: "a"}}, []clause{{Op: "a"}}, []clause{{Op: "a"}}
	for i := 1; i < 5000; i++ {
		ex = append(ex, clause{Op: "EX", X: i - 1})
		not = append(not, clause{Op: "!", X: i - 1})
		both = append(both, clause{Op: "&", X: i - 1, Y: i - 1})
	}
	checkParts(t, s, ex, 0, 1, 4999, false)
	checkParts(t, s, ex[:2], 1, 0, 1, true)
	checkParts(t, s, not, 0, 2, 0, true)
	checkParts(t, s, not[:4999], 2, 0, 0, true)
	checkParts(t, s, both, 2, 0, 0, true)
	checkNoParts(t, s, append(ex, clause{Op: "a"}), 0, 1)
	checkNoParts(t, s, append(not, clause{Op: "true"}), 0, 1)
	checkNoParts(t, s, append(both, clause{Op: "!", X: 4999}), 0, 1)
	checkNoParts(t, s, slices.Repeat([]clause{{Op: "a"}}, 100_000), 0, 1)
	checkNoParts(t, s, nil, 0, 1)
	checkNoParts(t, s, []clause{}, 0, 1)
}

// noClauses returns what are no clauses.
func noClauses() [][]clause {
	var out [][]clause
	// At each place of some clauses that are right, one that is not.
	right := []clause{{Op: "a"}, {Op: "true"}, {Op: "&", X: 1, Y: 0}, {Op: "EX", X: 2}, {Op: "!", X: 3}}
	for i := range right {
		add := func(c clause) {
			l := slices.Clone(right)
			l[i] = c
			out = append(out, l, l[:i+1])
		}
		for _, x := range []int{i, i + 1, i + 2, 5, 4999, 5000, -1, -5000, math.MaxInt, math.MinInt} {
			for _, op := range []string{"!", "EX"} {
				add(clause{Op: op, X: x})
			}
			for _, op := range []string{"&", "|"} {
				add(clause{Op: op, X: x})
				add(clause{Op: op, Y: x})
				add(clause{Op: op, X: x, Y: x})
			}
		}
		for _, x := range []int{1, -1, 2, i + 1, 64, math.MaxInt, math.MinInt} {
			for _, op := range leaves {
				add(clause{Op: op, X: x})
				add(clause{Op: op, Y: x})
			}
			for _, op := range []string{"!", "EX"} {
				add(clause{Op: op, Y: x})
			}
		}
		for _, op := range []string{"EF", "EG", "EU", "AX", "AF", "AG", "AU", "", " ", "g", "A", "E", "X", "ex", "EX ", "aa", "True", "&&", "~", "\x00"} {
			add(clause{Op: op})
			add(clause{Op: op, X: max(0, i-1)})
		}
	}
	return out
}

// P6.5: ErrArg for what are no clauses: those that name themselves or later
// ones, X or Y that are not 0 where there is no Kid, and other Ops.
func TestNoClauses(t *testing.T) {
	s := chain(4, 1)
	for _, l := range noClauses() {
		for _, two := range [][2]int{{0, 3}, {3, 0}, {1, 1}, {-1, 4}} {
			checkNoParts(t, s, l, two[0], two[1])
		}
	}
	checkParts(t, s, []clause{{Op: "a"}, {Op: "true"}, {Op: "&", X: 1, Y: 0}, {Op: "EX", X: 2}, {Op: "!", X: 3}}, 1, 2, 1, true)
}

// P6.5: ErrArg for states that are none, also where nothing parts them.
func TestApartOfNoState(t *testing.T) {
	for _, s := range []structure{{Next: []int{1}, Label: []int{1}}, {Next: []int{2, 2}, Label: []int{0, 1}}, chain(16, 1)} {
		for _, x := range []int{-1, -2, len(s.Next), len(s.Next) + 1, 16, 17, 63, 64, 65, 1 << 32, math.MaxInt, math.MinInt} {
			for _, two := range [][2]int{{x, 0}, {0, x}, {x, x}} {
				if l, e := logic.Apart(s, two[0], two[1]); len(l) > 0 || e != api.ErrArg {
					t.Error("Apart", s, two, l, e)
				}
				checkNoParts(t, s, []clause{{Op: "a"}}, two[0], two[1])
				checkNoParts(t, s, nil, two[0], two[1])
			}
		}
	}
}

// P6.10, P6.11: bisimilar states satisfy the same formulas, and a state the same
// ones as its class.
func TestSameFormulas(t *testing.T) {
	r := rand.New(rand.NewSource(12))
	for _, s := range slices.Concat(small(), large()) {
		classes, _ := logic.Classes(s)
		q, _ := logic.Quotient(s)
		firsts := slices.Compact(slices.Sorted(slices.Values(classes)))
		for k := range 40 {
			f := chosen(r, 1+r.Intn(1+k*4), 60)
			if k < 10 {
				f = simple()[r.Intn(len(simple()))]
			}
			all, e := logic.Sat(s, f)
			of, e2 := logic.Sat(q, f)
			if e != api.OK || e2 != api.OK {
				t.Fatal(e, e2)
			}
			for x, first := range classes {
				if all>>x&1 != all>>first&1 || all>>x&1 != of>>slices.Index(firsts, first)&1 {
					t.Fatal(s, q, printed(f), all, of)
				}
			}
		}
	}
}
