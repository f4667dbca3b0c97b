package logic_test

import (
	"math"
	"math/rand"
	"reflect"
	"slices"
	"testing"

	"massecuite/api"
	"massecuite/logic"
)

// noStructures returns what are no structures.
func noStructures() []structure {
	ones := func(n int) []int { return slices.Repeat([]int{1}, n) }
	out := []structure{{}, {Next: []int{}, Label: []int{}}, {Next: []int{1}}, {Label: []int{1}}, {Next: []int{1}, Label: []int{0, 0}}, {Next: ones(2), Label: []int{0}},
		{Next: ones(16), Label: ones(15)}, {Next: ones(15), Label: ones(16)}, {Next: ones(16), Label: ones(17)}, {Next: ones(17), Label: ones(16)},
		{Next: ones(17), Label: ones(17)}, {Next: ones(64), Label: ones(64)}, {Next: ones(65), Label: ones(65)}, {Next: ones(100_000), Label: ones(100_000)}}
	for _, n := range []int{1, 2, 3, 15, 16} {
		for x := range n {
			for _, next := range []int{0, 1 << n, 1<<n + 1, 2 << n, 1 << 16, 1<<16 + 1, 1 << 17, 1 << 32, 1 << 62, -1, -2, math.MaxInt, math.MinInt} {
				s := structure{Next: ones(n), Label: ones(n)}
				s.Next[x] = next
				out = append(out, s)
			}
			for _, label := range []int{64, 65, 127, 128, 1 << 16, 1 << 32, -1, -64, math.MaxInt, math.MinInt} {
				s := structure{Next: ones(n), Label: ones(n)}
				s.Label[x] = label
				out = append(out, s)
			}
		}
	}
	return out
}

// P6.1: what is a structure.
func TestValid(t *testing.T) {
	for _, s := range noStructures() {
		if logic.Valid(s) {
			t.Error(s)
		}
	}
	for n := 1; n <= 16; n++ {
		for _, next := range []int{1, 1 << (n - 1), 1<<n - 1} {
			for _, label := range []int{0, 1, 32, 63} {
				if s := (structure{Next: slices.Repeat([]int{next}, n), Label: slices.Repeat([]int{label}, n)}); !logic.Valid(s) {
					t.Error(s)
				}
			}
		}
	}
	for _, s := range slices.Concat(small(), large()) {
		if !logic.Valid(s) {
			t.Error(s)
		}
	}
}

// results are those of all functions of structures.
type results struct {
	set, depth          int
	witness, refutation path
	shown, parts        bool
	classes             []int
	apart               []clause
	quotient            structure
	errs                [8]api.Errno
}

// arguments are those of all functions of structures: f is for Witness, g for
// Refute.
type arguments struct {
	s    structure
	f, g formula
	p    path
	l    []clause
	x, y int
}

// called returns the results of all functions.
func called(a arguments) results {
	var r results
	r.set, r.errs[0] = logic.Sat(a.s, a.f)
	r.witness, r.errs[1] = logic.Witness(a.s, a.f, a.x)
	r.shown, r.errs[2] = logic.CheckWitness(a.s, a.f, a.p)
	r.refutation, r.errs[3] = logic.Refute(a.s, a.g, a.x)
	r.classes, r.errs[4] = logic.Classes(a.s)
	r.apart, r.errs[5] = logic.Apart(a.s, a.x, a.y)
	r.depth, r.parts, r.errs[6] = logic.CheckApart(a.s, a.l, a.x, a.y)
	r.quotient, r.errs[7] = logic.Quotient(a.s)
	return r
}

// copied returns the same arguments in new memory.
func copied(a arguments) arguments {
	a.s = structure{Next: slices.Clone(a.s.Next), Label: slices.Clone(a.s.Label)}
	a.f, a.g = copiedFormula(a.f), copiedFormula(a.g)
	a.p.States, a.l = slices.Clone(a.p.States), slices.Clone(a.l)
	return a
}

func copiedFormula(f formula) formula {
	f.Kids = slices.Clone(f.Kids)
	for k := range f.Kids {
		f.Kids[k] = copiedFormula(f.Kids[k])
	}
	return f
}

// numbers returns the slices of numbers among arguments and results.
func numbers(a arguments, r results) [][]int {
	return [][]int{a.s.Next, a.s.Label, a.p.States, r.witness.States, r.refutation.States, r.classes, r.quotient.Next, r.quotient.Label}
}

// P6.1 to P6.5: ErrArg for what is no structure, also where other arguments are
// not valid, and zero values beside it.
func TestNoStructures(t *testing.T) {
	ex, ax := node("EX", node("a")), node("AX", node("a"))
	want := results{errs: [8]api.Errno(slices.Repeat([]api.Errno{api.ErrArg}, 8))}
	for _, s := range noStructures() {
		for _, a := range []arguments{
			{s, ex, ax, path{States: []int{0}}, []clause{{Op: "a"}}, 0, 0},
			{s, ex, ax, path{}, nil, 1, 0},
			{s, ex, ax, path{Loop: -1}, []clause{{Op: "!"}}, -1, 100},
			{s, formula{}, formula{}, path{States: []int{-1}}, nil, 16, 3},
		} {
			if r := called(a); !reflect.DeepEqual(r, want) {
				t.Error(a, r)
			}
		}
	}
	// The same arguments with a structure: then nothing is wrong.
	r := called(arguments{structure{Next: []int{1}, Label: []int{0}}, node("EX", node("true")), ax, path{States: []int{0}}, []clause{{Op: "a"}}, 0, 0})
	if r.errs != [8]api.Errno{5: api.ErrNone} {
		t.Error(r)
	}
}

// drawnArguments returns arguments that are valid.
func drawnArguments(r *rand.Rand, s structure) arguments {
	n := len(s.Next)
	f, g := chosen(r, 1+r.Intn(10), 6), chosen(r, 1+r.Intn(10), 6)
	shows := []formula{node("EX", f), node("EF", f), node("EG", f), node("EU", f, g)}
	refutes := []formula{node("AX", g), node("AF", g), node("AG", g)}
	l := []clause{{Op: "a"}, {Op: "EX"}, {Op: "&", X: 1}, {Op: "!", X: 2}}
	return arguments{s, shows[r.Intn(4)], refutes[r.Intn(3)], strolled(r, s), l, r.Intn(n), r.Intn(n)}
}

// Rules 2 and 4: the same results each time, no argument changed, and no memory
// shared by two of the arguments and results.
func TestRules(t *testing.T) {
	r := rand.New(rand.NewSource(14))
	for _, s := range slices.Concat(small(), large()) {
		a := drawnArguments(r, s)
		b := copied(a)
		first := called(b)
		second := called(b)
		if !reflect.DeepEqual(a, b) {
			t.Fatal("changed", a, b)
		}
		if !reflect.DeepEqual(first, second) {
			t.Fatal("not the same", a, first, second)
		}
		checkNotShared(t, slices.Concat(numbers(b, first), numbers(b, second)[3:]))
		for i := range first.apart {
			first.apart[i] = clause{Op: "x"}
		}
		if slices.Contains(second.apart, clause{Op: "x"}) || slices.Contains(b.l, clause{Op: "x"}) {
			t.Fatal("shared", a)
		}
		if third := called(a); !reflect.DeepEqual(third, called(copied(a))) || !slices.Equal(third.apart, second.apart) {
			t.Fatal("kept", a)
		}
	}
}

// checkNotShared tests that no two of the slices share memory.
func checkNotShared(t *testing.T, all [][]int) {
	t.Helper()
	for k, x := range all {
		whole := x[:cap(x)]
		for i := range whole {
			whole[i] = 777 + k
		}
	}
	for k, x := range all {
		for _, y := range x[:cap(x)] {
			if y != 777+k {
				t.Fatal("shared", k)
			}
		}
	}
}

// The same for formulas and nets.
func TestRulesOfOthers(t *testing.T) {
	for _, f := range simple() {
		kept := copiedFormula(f)
		text, _ := logic.Print(f)
		if !reflect.DeepEqual(f, kept) {
			t.Fatal("changed", printed(kept))
		}
		g, _ := logic.Parse(text)
		h, _ := logic.Parse(text)
		spoil(g)
		if !same(h, f) {
			t.Fatal("shared", text)
		}
	}
	s, m, _ := logic.FromNet(grid)
	s2, m2, _ := logic.FromNet(grid)
	if !reflect.DeepEqual(s, s2) || !reflect.DeepEqual(m, m2) {
		t.Fatal("not the same")
	}
	all := [][]int{s.Next, s.Label, s2.Next, s2.Label, grid.Start, grid.Pre[0], grid.Post[0]}
	kept := [][]int{slices.Clone(grid.Start), slices.Clone(grid.Pre[0]), slices.Clone(grid.Post[0])}
	if !reflect.DeepEqual(kept, [][]int{{3, 3}, {1, 0}, {0, 0}}) {
		t.Fatal("changed", kept)
	}
	for _, one := range slices.Concat(m, m2) {
		all = append(all, one)
	}
	checkNotShared(t, all)
	copy(grid.Start, kept[0])
	copy(grid.Pre[0], kept[1])
	copy(grid.Post[0], kept[2])
}

// spoil overwrites all nodes below f.
func spoil(f formula) {
	for k, kid := range f.Kids {
		spoil(kid)
		f.Kids[k] = node("x")
	}
}

// Rule 4: a nil slice and an empty one are the same.
func TestNil(t *testing.T) {
	one := structure{Next: []int{1}, Label: []int{0}}
	for _, kids := range [][]formula{nil, {}} {
		f := formula{Op: "EF", Kids: []formula{{Op: "true", Kids: kids}}}
		checkText(t, f, "EF true")
		checkSat(t, one, f, 1)
		checkWitness(t, one, f, 0, true)
		checkNoWitness(t, one, formula{Op: "EF", Kids: kids}, 0)
	}
	for _, states := range [][]int{nil, {}} {
		checkShown(t, one, node("EX", node("true")), path{States: states}, false)
		if logic.Valid(structure{Next: states, Label: states}) || logic.Valid(structure{Next: []int{1}, Label: states}) {
			t.Error(states)
		}
	}
	checkNoParts(t, one, nil, 0, 0)
	checkNoParts(t, one, []clause{}, 0, 0)
}
