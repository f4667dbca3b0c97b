package cycle_test

import (
	"math"
	"reflect"
	"slices"
	"testing"

	"massecuite/api"
	"massecuite/cycle"
)

// invalid returns what is no small matrix.
func invalid() [][][]int {
	out := [][][]int{nil, {}, {nil}, {{}}, {{0, 0}}, {{0}, {0}}, {{0, 0}, {0}}, {{0}, {0, 0}}, {{0, 0}, nil},
		{nil, {0, 0}}, {{0, 0}, {0, 0, 0}}, {{0, 0, 0}, {0, 0, 0}}, {{0, 0}, {0, 0}, {0, 0}},
		filled(7, 0), filled(7, api.Never), filled(8, 0), filled(100, 0), make([][]int, 6), make([][]int, 100000),
		{make([]int, 100000)}}
	for n := 1; n <= 6; n++ {
		for _, x := range []int{1001, -1001, api.Never + 1, api.Never - 1, -api.Never, 1 << 32, math.MaxInt, math.MinInt} {
			for at := range n * n {
				for _, rest := range []int{0, api.Never} {
					a := filled(n, rest)
					a[at/n][at%n] = x
					out = append(out, a)
				}
			}
		}
		for i := range n {
			longer, shorter := filled(n, 0), filled(n, 0)
			longer[i] = make([]int, n+1)
			shorter[i] = shorter[i][1:]
			out = append(out, longer, shorter)
		}
	}
	return out
}

// called is the results of all functions: the slices, the numbers and the
// errors.
func called(a [][]int, k int, arcs [][4]int) (rows [][]int, rest []any, errs []api.Errno) {
	var e [11]api.Errno
	var p, q, s [][]int
	var c, v, x []int
	p, e[0] = cycle.Mul(a, a)
	q, e[1] = cycle.Power(a, k)
	num, den, err := cycle.Mean(a)
	e[2] = err
	c, e[3] = cycle.Critical(a)
	v, e[4] = cycle.Potential(a)
	ok, err := cycle.Check(a, c, v, num, den)
	e[5] = err
	s, e[6] = cycle.Star(a)
	x, e[7] = cycle.Eigen(a)
	n, err := cycle.Cyclic(a)
	e[8] = err
	index, period, err := cycle.Period(a)
	e[9] = err
	high, low, err := cycle.Ratio(arcs)
	e[10] = err
	rows = slices.Concat(p, q, s, [][]int{c, v, x})
	return rows, []any{num, den, ok, n, index, period, high, low}, e[:]
}

var nothing = []any{0, 0, false, 0, 0, 0, 0, 0}

// P4.1 to P4.6: ErrArg for a matrix that is not small, also where k is not valid,
// and zero values beside it.
func TestInvalidMatrices(t *testing.T) {
	for _, a := range invalid() {
		for _, k := range []int{-1, 0, 1, 1000, 1001} {
			rows, rest, errs := called(a, k, [][4]int{{12, 0, 0, 0}})
			medium := len(a) > 0 && len(a) < 7 && errs[0] == api.OK
			if medium { // not small, but valid
				rows, errs[0] = rows[len(a):], api.ErrArg
			}
			if len(slices.Concat(rows...)) > 0 || !reflect.DeepEqual(rest, nothing) ||
				!slices.Equal(errs, slices.Repeat([]api.Errno{api.ErrArg}, 11)) {
				t.Error(a, k, rows, rest, errs)
			}
		}
	}
}

// Matrices with numbers at the limits are small, and those one beyond are not.
func TestValidMatrices(t *testing.T) {
	for n := 1; n <= 6; n++ {
		for _, x := range []int{1000, -1000, 0} {
			want := slices.Repeat([]api.Errno{api.OK}, 11)
			if x > 0 {
				want[6] = api.ErrLoop
			}
			if _, _, errs := called(filled(n, x), 1000, [][4]int{{11, 11, 1000, 20}}); !slices.Equal(errs, want) {
				t.Error(n, x, errs)
			}
		}
	}
}

// The errors of each function, and zero values beside them, where there is no
// cycle, where the matrix is not connected, and where its period is large.
func TestErrors(t *testing.T) {
	const ok, none, state, loop, size = api.OK, api.ErrNone, api.ErrState, api.ErrLoop, api.ErrSize
	for _, x := range []struct {
		a    [][]int
		want []api.Errno
	}{
		{of("-"), []api.Errno{ok, ok, none, none, none, ok, ok, state, state, state, none}},
		{uphill, []api.Errno{ok, ok, none, none, none, ok, ok, state, state, state, none}},
		{apart, []api.Errno{ok, ok, ok, ok, ok, ok, loop, state, state, state, none}},
		{unit(3), []api.Errno{ok, ok, ok, ok, ok, ok, ok, state, state, state, none}},
		{lonely, []api.Errno{ok, ok, ok, ok, ok, ok, loop, state, state, state, none}},
		{slow(1, -1000), []api.Errno{ok, ok, ok, ok, ok, ok, ok, ok, ok, size, none}},
		{swap, []api.Errno{ok, ok, ok, ok, ok, ok, loop, ok, ok, ok, none}},
		{calm, []api.Errno{ok, ok, ok, ok, ok, ok, ok, ok, ok, ok, none}},
	} {
		rows, rest, errs := called(x.a, 5, [][4]int{{0, 1, 1, 0}})
		if !slices.Equal(errs, x.want) {
			t.Error(x.a, errs, "not", x.want)
		}
		n := len(x.a)
		full := 2 * n
		if errs[6] == ok {
			full += n
		}
		for i, line := range rows {
			last := len(rows) - 3 // behind it: Critical, Potential, Eigen
			has := i < last || i < last+2 && errs[3] == ok || i == last+2 && errs[7] == ok
			if last != full || has != (len(line) > 0) {
				t.Error(x.a, rows)
			}
		}
		for i, at := range []int{2, 2, 2, 8, 9, 9, 10, 10} {
			if errs[at] != ok && rest[i] != nothing[i] {
				t.Error(x.a, rest, errs)
			}
		}
	}
}

// Rules 2 and 4: the same results each time, no argument changed, and no memory
// shared by two of the arguments and results.
func TestRules(t *testing.T) {
	for i, a := range samples() {
		if i%4 > 0 && i > 40 {
			continue
		}
		b, arcs := clone(a), [][4]int{{0, 1, 2, 0}, {1, 0, 3, 1}}
		kept := slices.Clone(arcs)
		rows, rest, errs := called(b, i%4, arcs)
		again, rest2, errs2 := called(b, i%4, arcs)
		if !equal(a, b) || !slices.Equal(arcs, kept) {
			t.Fatal("changed", a, b, arcs)
		}
		if !equal(rows, again) || !reflect.DeepEqual(rest, rest2) || !slices.Equal(errs, errs2) {
			t.Fatal("not the same", a)
		}
		checkApart(t, slices.Concat(rows, again, b))
		latest, rest3, errs3 := called(a, i%4, arcs)
		newest, _, _ := called(a, i%4, arcs)
		if !equal(latest, newest) || !reflect.DeepEqual(rest, rest3) || !slices.Equal(errs, errs3) {
			t.Fatal("kept", a)
		}
		checkCheckKeeps(t, a)
	}
}

// checkCheckKeeps tests that Check changes no argument.
func checkCheckKeeps(t *testing.T, a [][]int) {
	num, den, e := cycle.Mean(a)
	if e != api.OK {
		return
	}
	c, _ := cycle.Critical(a)
	v, _ := cycle.Potential(a)
	c2, v2 := slices.Clone(c), slices.Clone(v)
	if ok, e := cycle.Check(a, c2, v2, num, den); !ok || e != api.OK || !slices.Equal(c, c2) || !slices.Equal(v, v2) {
		t.Fatal("changed", a, c2, v2)
	}
}

// checkApart tests that no two of the slices share memory.
func checkApart(t *testing.T, all [][]int) {
	t.Helper()
	for k, x := range all {
		whole := x[:cap(x)]
		for i := range whole {
			whole[i] = 777 + k
		}
	}
	for k, x := range all {
		for _, y := range x[:cap(x)] {
			if y != 777+k {
				t.Fatal("shared", k)
			}
		}
	}
}

// A nil slice and an empty one are the same.
func TestNil(t *testing.T) {
	a, b, c := called(nil, 0, nil)
	x, y, z := called([][]int{}, 0, [][4]int{})
	if !reflect.DeepEqual(b, y) || !slices.Equal(c, z) || !equal(a, x) {
		t.Error(a, b, c, x, y, z)
	}
	for _, list := range [][]int{nil, {}} {
		checkCheck(t, of("0"), list, []int{0}, 0, 1, false)
		checkCheck(t, of("0"), []int{0}, list, 0, 1, false)
		if p, e := cycle.Mul([][]int{list}, [][]int{list}); len(p) > 0 || e != api.ErrArg {
			t.Error(p, e)
		}
	}
}
