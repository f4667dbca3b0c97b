package scan_test

import (
	"math/rand"
	"reflect"
	"slices"
	"testing"

	"massecuite/api"
	"massecuite/logic"
	"massecuite/scan"
)

// results are those of all functions of programs.
type results struct {
	valid     bool
	order     []string
	out, exec []int
	list      []code
	next      []int
	m         machine
	errs      [5]api.Errno
}

// called returns the results of all functions of programs.
func called(p program, list []code, next, word []int) results {
	var r results
	r.valid = scan.Valid(p)
	r.order, r.errs[0] = scan.Causal(p)
	r.out, r.errs[1] = scan.Scan(p, word)
	r.list, r.next, r.errs[2] = scan.Compile(p)
	r.exec, r.errs[3] = scan.Exec(p, list, next, word)
	r.m, r.errs[4] = scan.Extract(p)
	return r
}

// ranResults are those of all functions of machines.
type ranResults struct {
	out, apart []int
	least      machine
	words      [][]int
	ok         bool
	model      logic.Structure
	errs       [6]api.Errno
}

// ran returns the results of all functions of machines.
func ran(m, n machine, extra int, word []int, words [][]int) ranResults {
	var r ranResults
	r.out, r.errs[0] = scan.Respond(m, word)
	r.least, r.errs[1] = scan.Minimize(m)
	r.apart, r.errs[2] = scan.Apart(m, n)
	r.words, r.errs[3] = scan.Tests(m, extra)
	r.ok, r.errs[4] = scan.CheckTests(m, extra, words)
	r.model, r.errs[5] = scan.Model(m)
	return r
}

// noPrograms returns what are no programs.
func noPrograms() []program {
	l := toggle.Lines
	return []program{
		{},
		{toggle.Inputs, nil, l},
		{toggle.Inputs, []string{}, l},
		{toggle.Inputs, toggle.Outputs, nil},
		{nil, toggle.Outputs, l},
		{[]string{"x", "x"}, toggle.Outputs, l},
		{[]string{"x", "not"}, toggle.Outputs, l},
		{toggle.Inputs, []string{"r"}, l},
		{toggle.Inputs, toggle.Outputs, []line{{"q", 2, "x"}}},
		{toggle.Inputs, toggle.Outputs, []line{{"q", -2, "x"}}},
		{toggle.Inputs, toggle.Outputs, []line{{"q", 0, ""}}},
		{toggle.Inputs, toggle.Outputs, []line{{"q", 0, "x y"}}},
		{toggle.Inputs, toggle.Outputs, []line{{"Q", 0, "x"}}},
		{nil, []string{"a"}, []line{{"a", -1, "a"}, {"a", -1, "b"}}}, // not causal besides
		{nil, []string{"a"}, []line{{"a", -1, "a"}, {"b", -1, "a "}}},
		{nil, []string{"a"}, []line{{"a", 0, "a"}, {"b", 0, "a"}, {"c", 0, "a"}, {"d", 0, "a"}, {"e", 0, "a"}}},
	}
}

// P9.1 to P9.4: ErrArg first for what is no program, also where other arguments
// are not valid, and zero values beside it.
func TestNoPrograms(t *testing.T) {
	want := results{errs: [5]api.Errno(slices.Repeat([]api.Errno{api.ErrArg}, 5))}
	for _, p := range noPrograms() {
		for _, r := range []results{called(p, nil, []int{0}, nil), called(p, nil, nil, []int{0}), called(p, []code{{6, 0, 0, 0}}, []int{-1}, []int{-1})} {
			if !reflect.DeepEqual(r, want) {
				t.Error(p, r)
			}
		}
	}
	if r := called(toggle, nil, []int{0}, []int{1}); r.errs != [5]api.Errno{} || !r.valid {
		t.Error(r)
	}
}

// sized returns a machine with so many states and letters that are all 0.
func sized(states, letters int) machine {
	m := machine{Inputs: letters}
	for range states {
		m.Next, m.Out = append(m.Next, make([]int, letters)), append(m.Out, make([]int, letters))
	}
	return m
}

// noMachines returns what are no machines.
func noMachines() []machine {
	var out []machine
	for _, inputs := range append([]int{0, 9, -1, 2, 16, 100}, bounds...) {
		out = append(out, machine{inputs, [][]int{{0}}, [][]int{{0}}})
	}
	for _, n := range []int{1, 2, 16} {
		for _, letters := range []int{1, 2, 8} {
			m := sized(n, letters)
			out = append(out, machine{letters, m.Next, m.Out[1:]}, machine{letters, m.Next[1:], m.Out}, machine{letters, m.Next, nil}, machine{letters, nil, m.Out},
				machine{letters - 1, m.Next, m.Out}, machine{letters + 1, m.Next, m.Out}, machine{letters, append(sized(1, letters).Next, m.Next...), m.Out})
			for _, s := range []int{0, n - 1} {
				for _, i := range []int{0, letters - 1} {
					for _, x := range append([]int{-1, 8, 7, 16, 17, 100}, bounds...) {
						next, wrong := copied(m), copied(m)
						if next.Next[s][i] = x; x < 0 || x >= n {
							out = append(out, next)
						}
						if wrong.Out[s][i] = x; x != 7 {
							out = append(out, wrong)
						}
					}
					one := copied(m)
					one.Next[s][i] = n
					out = append(out, one)
				}
				for _, row := range [][]int{nil, make([]int, letters-1), make([]int, letters+1), make([]int, 1e5)} {
					next, wrong := copied(m), copied(m)
					next.Next[s], wrong.Out[s] = row, row
					out = append(out, next, wrong)
				}
			}
		}
	}
	return append(out, machine{}, sized(1, 0), sized(1, 9), sized(17, 1), sized(17, 8), sized(0, 1), sized(1000, 1))
}

// P9.5 to P9.8: ErrArg first for what is no machine, also where other arguments
// are not valid or sizes too large, and zero values beside it.
func TestNoMachines(t *testing.T) {
	want := ranResults{errs: [6]api.Errno(slices.Repeat([]api.Errno{api.ErrArg}, 6))}
	for _, m := range noMachines() {
		n := m
		for _, r := range []ranResults{ran(m, n, 0, nil, nil), ran(m, onOff, 1, []int{0}, [][]int{{0}}), ran(m, sized(1, 1), 2, []int{-1}, [][]int{{-1}}), ran(m, sized(2, 8), 0, nil, nil)} {
			if !reflect.DeepEqual(r, want) {
				t.Error(m, r)
			}
		}
		for _, valid := range []machine{onOff, sized(1, 1), sized(1, 8)} {
			if l, e := scan.Apart(valid, m); len(l) > 0 || e != api.ErrArg {
				t.Error("Apart", m, l, e)
			}
		}
	}
}

// P9.5, P9.6: machines of all sizes are valid; Apart asks for as many Inputs.
func TestSizesOfMachines(t *testing.T) {
	for states := 1; states <= 16; states++ {
		for letters := 1; letters <= 8; letters++ {
			m := sized(states, letters)
			m.Next[states-1][0], m.Out[states-1][letters-1] = states-1, 7
			checkRespond(t, m, []int{0, 0, 0}, responded(m, 0, []int{0, 0, 0})...)
			for other := 1; other <= 8; other++ {
				n := sized(1, other)
				if other == letters {
					checkApart(t, n, n)
				} else if l, e := scan.Apart(m, n); len(l) > 0 || e != api.ErrArg {
					t.Error("Apart", m, n, l, e)
				}
			}
		}
	}
}

// grown returns l with something behind its end, which is no part of it.
func grown[T any](l []T, more ...T) []T {
	return append(slices.Clone(l), more...)[:len(l)]
}

// checkNotShared tests that no two of the slices share memory.
func checkNotShared(t *testing.T, all ...[]int) {
	t.Helper()
	for k, x := range all {
		whole := x[:cap(x)]
		for i := range whole {
			whole[i] = 777 + k
		}
	}
	for k, x := range all {
		for _, y := range x[:cap(x)] {
			if y != 777+k {
				t.Fatal("shared", k)
			}
		}
	}
}

// numbers returns all slices of numbers in results of programs.
func (r results) numbers() [][]int {
	return slices.Concat([][]int{r.out, r.exec, r.next}, r.m.Next, r.m.Out)
}

// numbers returns all slices of numbers in results of machines.
func (r ranResults) numbers() [][]int {
	return slices.Concat([][]int{r.out, r.apart, r.model.Next, r.model.Label}, r.least.Next, r.least.Out, r.words)
}

// Rules 2 and 4 for programs: the same results each time, no argument changed,
// and no memory shared by two of the arguments and results.
func TestRulesOfPrograms(t *testing.T) {
	r := rand.New(rand.NewSource(19))
	for _, p := range causals() {
		list, next := drawnCode(r, p, r.Intn(20))
		word := drawnWord(r, r.Intn(20), 1<<len(p.Inputs))
		q := program{grown(p.Inputs, "true", "q"), grown(p.Outputs, "no", "no"), grown(p.Lines, line{}, line{})}
		list2, next2, word2 := grown(list, code{6, 6, 6, 6}), grown(next, 5, 5), grown(word, 9, 9)
		x := called(q, list2, next2, word2)
		y := called(q, list2, next2, word2)
		if !reflect.DeepEqual(p, program{append([]string{}, q.Inputs...), q.Outputs, q.Lines}) || !slices.Equal(list, list2) || !slices.Equal(next, next2) || !slices.Equal(word, word2) {
			t.Fatal("changed", p, list, next, word)
		}
		if !reflect.DeepEqual(x, y) {
			t.Fatal("not the same", p, x, y)
		}
		checkNotShared(t, slices.Concat(x.numbers(), y.numbers(), [][]int{next2, word2})...)
		for k := range x.list {
			x.list[k] = code{9, 9, 9, 9}
		}
		for k := range x.order {
			x.order[k] = "?"
		}
		if slices.Contains(y.list, code{9, 9, 9, 9}) || slices.Contains(y.order, "?") || !scan.Valid(q) {
			t.Fatal("shared", p)
		}
		if z := called(p, list, next, word); !slices.Equal(z.list, y.list) || !slices.Equal(z.order, y.order) || z.errs != y.errs {
			t.Fatal("kept", p, z, y)
		}
	}
}

// Rules 2 and 4 for machines.
func TestRulesOfMachines(t *testing.T) {
	r := rand.New(rand.NewSource(20))
	for _, m := range slices.Concat(machines()[:200], families()) {
		n := drawnMachine(r, 1+r.Intn(4), m.Inputs, 2, false)
		word := drawnWord(r, r.Intn(9), m.Inputs)
		words, _ := scan.Tests(m, 1)
		r.Shuffle(len(words), func(i, j int) { words[i], words[j] = words[j], words[i] })
		m2, n2, word2 := copied(m), copied(n), grown(word, 9, 9)
		var words2 [][]int
		for _, w := range words {
			words2 = append(words2, grown(w, 9, 9))
		}
		x, y := ran(m2, n2, 1, word2, words2), ran(m2, n2, 1, word2, words2)
		if !reflect.DeepEqual(m, m2) || !reflect.DeepEqual(n, n2) || !slices.Equal(word, word2) || !slices.EqualFunc(words, words2, slices.Equal) {
			t.Fatal("changed", m, n, word, words)
		}
		if !reflect.DeepEqual(x, y) || x.errs[3] == api.OK && !x.ok {
			t.Fatal("not the same", m, x, y)
		}
		checkNotShared(t, slices.Concat(x.numbers(), y.numbers(), m2.Next, m2.Out, n2.Next, n2.Out, words2, [][]int{word2})...)
		if z := ran(m, n, 1, word, words); z.errs != y.errs || z.ok != y.ok {
			t.Fatal("kept", m, z, y)
		}
	}
}

// Rule 4: a nil slice and an empty one are the same.
func TestNil(t *testing.T) {
	for _, none := range [][]int{nil, {}} {
		for _, inputs := range [][]string{nil, {}} {
			p := program{inputs, []string{"a"}, []line{{"a", 0, "not a"}}}
			checkScan(t, p, none)
			checkScan(t, p, []int{0, 0}, 0, 1)
			checkExtract(t, p, machine{1, [][]int{{1}, {0}}, [][]int{{0}, {1}}})
			checkCausal(t, p)
			for _, list := range [][]code{nil, {}} {
				checkExec(t, p, list, []int{5}, none)
				checkNoExec(t, p, list, none, none)
			}
			checkValid(t, program{[]string{"x"}, inputs, toggle.Lines}, false)
		}
		checkRespond(t, onOff, none)
		checkTests(t, onOff, 0, [][]int{{0, 0}, none, {1, 0, 0}, {1, 1, 0}}, true)
		checkTests(t, onOff, 0, [][]int{none}, false)
		if e := ran(machine{1, [][]int{none}, [][]int{{0}}}, onOff, 0, nil, nil).errs[0]; e != api.ErrArg {
			t.Error(e)
		}
	}
}
