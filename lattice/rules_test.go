package lattice_test

import (
	"math"
	"reflect"
	"slices"
	"testing"

	"massecuite/api"
	"massecuite/lattice"
)

// invalid returns what is no valid matrix.
func invalid() [][][]int {
	out := [][][]int{nil, {}, {nil}, {{}}, {{}, {}}, {{1}, nil}, {nil, {1}}, {{1, 2}, {1}}, {{1}, {1, 2}},
		zeros(5, 1), zeros(5, 5), zeros(1, 6), zeros(4, 6), zeros(1000, 1000)}
	for _, x := range []int{21, -21, math.MaxInt, math.MinInt, 1 << 40} {
		out = append(out, matrix(1, x), matrix(2, 0, 0, 0, x), matrix(2, x, 0, 0, 0))
	}
	return out
}

// The errors of P1.1 to P1.7: ErrArg, and zero values beside it.
func TestInvalidMatrices(t *testing.T) {
	for _, a := range invalid() {
		h, u, e := lattice.Hermite(a)
		d, v, w, f := lattice.Smith(a)
		if len(h)+len(u)+len(d)+len(v)+len(w) > 0 || e != api.ErrArg || f != api.ErrArg {
			t.Error(a, h, u, e, d, v, w, f)
		}
		n, e := lattice.Rank(a)
		k, f := lattice.Kernel(a)
		g, i := lattice.Group(a)
		if n+len(k)+len(g) > 0 || e != api.ErrArg || f != api.ErrArg || i != api.ErrArg {
			t.Error(a, n, e, k, f, g, i)
		}
		for _, m := range []int{0, len(a)} {
			b := make([]int, m)
			x, e := lattice.Solve(a, b)
			y, den, f := lattice.Refuse(a, b)
			if len(x)+len(y)+den > 0 || e != api.ErrArg || f != api.ErrArg {
				t.Error(a, b, x, e, y, den, f)
			}
			if ok, e := lattice.CheckRefuse(a, b, b, 1); ok || e != api.ErrArg {
				t.Error(a, b, ok, e)
			}
		}
		if ok, e := lattice.CheckHermite(a, a, unit(len(a))); ok || e != api.ErrArg {
			t.Error(a, ok, e)
		}
		if ok, e := lattice.CheckSmith(a, nil, unit(len(a)), nil); ok || e != api.ErrArg {
			t.Error(a, ok, e)
		}
		if ok, e := lattice.CheckSmith(a, []int{1}, unit(1), unit(1)); ok || e != api.ErrArg {
			t.Error(a, ok, e)
		}
	}
}

// The errors of P1.5 and P1.6: a right side that is not valid.
func TestInvalidSides(t *testing.T) {
	for _, b := range [][]int{nil, {}, {1}, {1, 2, 3}, {1001, 0}, {0, 1001}, {-1001, 0}, {0, -1001}, {math.MinInt, 0}, {0, math.MaxInt}} {
		for _, a := range [][][]int{unit(2), zeros(2, 1)} {
			x, e := lattice.Solve(a, b)
			y, den, f := lattice.Refuse(a, b)
			if len(x)+len(y)+den > 0 || e != api.ErrArg || f != api.ErrArg {
				t.Error(a, b, x, e, y, den, f)
			}
			if ok, e := lattice.CheckRefuse(a, b, []int{1, 1}, 2); ok || e != api.ErrArg {
				t.Error(a, b, ok, e)
			}
		}
	}
}

// The limits themselves are valid.
func TestLimits(t *testing.T) {
	for _, x := range []int{20, -20} {
		a := zeros(4, 5)
		for i := range a {
			for j := range a[i] {
				a[i][j] = x
			}
		}
		if n, e := lattice.Rank(a); n != 1 || e != api.OK {
			t.Error(n, e)
		}
		for _, y := range []int{1000, -1000} {
			b := []int{y, y, y, y}
			if z, e := lattice.Solve(a, b); !slices.Equal(z, []int{0, 0, 0, 0, y / x}) || e != api.OK {
				t.Error(z, e)
			}
		}
	}
}

// called is the arguments and results of all functions for a system.
func called(a [][]int, b []int) (vectors [][]int, rest []any) {
	h, u, e1 := lattice.Hermite(a)
	d, v, w, e2 := lattice.Smith(a)
	n, e3 := lattice.Rank(a)
	k, e4 := lattice.Kernel(a)
	x, e5 := lattice.Solve(a, b)
	y, den, e6 := lattice.Refuse(a, b)
	g, e7 := lattice.Group(a)
	ok1, e8 := lattice.CheckHermite(a, h, u)
	ok2, e9 := lattice.CheckSmith(a, d, v, w)
	ok3, e10 := lattice.CheckRefuse(a, b, y, den)
	vectors = slices.Concat(a, [][]int{b}, h, u, [][]int{d}, v, w, k, [][]int{x, y, g})
	return vectors, []any{n, den, ok1, ok2, ok3, e1, e2, e3, e4, e5, e6, e7, e8, e9, e10}
}

// Rules 2 and 4: the same results each time, no argument changed, and no
// memory shared by two of the arguments and results.
func TestRules(t *testing.T) {
	systems(func(a [][]int, b []int) {
		wasA, wasB := copied(a), slices.Clone(b)
		vectors, rest := called(a, b)
		if !sameRows(a, wasA) || !slices.Equal(b, wasB) {
			t.Fatal("changed", a, wasA, b, wasB)
		}
		again, more := called(a, b)
		again = copied(again) // without the memory of a and b
		if !sameRows(vectors, again) || !reflect.DeepEqual(rest, more) {
			t.Fatal("not the same", a, b)
		}
		for i, x := range vectors {
			whole := x[:cap(x)]
			for j := range whole {
				whole[j] = 777 + i
			}
		}
		for i, x := range vectors {
			for _, y := range x[:cap(x)] {
				if y != 777+i {
					t.Fatal("shared", wasA, wasB, i)
				}
			}
		}
		if latest, more := called(wasA, wasB); !sameRows(latest, again) || !reflect.DeepEqual(rest, more) {
			t.Fatal("kept", wasA, wasB)
		}
	})
}

// The checks change none of their arguments.
func TestChecksKeepArguments(t *testing.T) {
	a := matrix(2, 2, 4, 3, 5)
	h, u, _ := lattice.Hermite(a)
	d, v, w, _ := lattice.Smith(a)
	parts := []any{a, h, u, d, v, w}
	was := []any{copied(a), copied(h), copied(u), slices.Clone(d), copied(v), copied(w)}
	lattice.CheckHermite(a, h, u)
	lattice.CheckSmith(a, d, v, w)
	lattice.CheckHermite(a, u, h)
	lattice.CheckSmith(a, d, w, v)
	if !reflect.DeepEqual(parts, was) {
		t.Error(parts, was)
	}
}
