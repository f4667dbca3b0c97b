package lattice_test

import (
	"math"
	"math/big"
	"math/rand"
	"slices"
	"testing"

	"massecuite/api"
	"massecuite/lattice"
)

// P1.4 and P1.10.
func TestRank(t *testing.T) {
	for _, x := range []struct {
		a    [][]int
		want int
	}{
		{zeros(4, 5), 0}, {matrix(1, 7), 1}, {matrix(2, 2, 4, 3, 6), 1}, {matrix(2, 2, 4, 3, 5), 2},
		{matrix(1, 0, 0, 0, -1), 1}, {matrix(3, 1, 2, 3, 4, 5, 6, 7, 8, 9), 2},
	} {
		if n, e := lattice.Rank(x.a); n != x.want || e != api.OK {
			t.Error(x.a, n, e)
		}
	}
	for _, a := range samples() {
		n, e := lattice.Rank(a)
		d, _, _, _ := lattice.Smith(a)
		k, _ := lattice.Kernel(a)
		h, _, _ := lattice.Hermite(a)
		zero := func(row []int) bool { return pivot(row) < 0 }
		rows := len(h) - len(slices.DeleteFunc(h, zero))
		if e != api.OK || n != rankOf(a) || n != len(a)-rows || n+len(k) != len(a[0]) {
			t.Error(a, n, h, k, e)
		}
		if n != len(slices.DeleteFunc(d, func(x int) bool { return x == 0 })) {
			t.Error(a, n, d)
		}
	}
}

// P1.4, and the kernels of the examples 2 and 3.
func TestKernel(t *testing.T) {
	for _, x := range []struct{ a, want [][]int }{
		{matrix(2, 0, 0, 0, -3), matrix(2, 1, 0)},
		{matrix(3, 6, 10, 15), matrix(3, 5, 0, -2, 0, 3, -2)},
		{matrix(2, 2, 4, 3, 5), nil},
		{matrix(1, 5), nil},
		{matrix(1, 0), matrix(1, 1)},
		{zeros(4, 5), unit(5)},
		{matrix(2, 2, 4), matrix(2, 2, -1)},
		{matrix(2, -20, 20), matrix(2, 1, 1)},
	} {
		if k, e := lattice.Kernel(x.a); !sameRows(k, x.want) || e != api.OK {
			t.Error(x.a, k, e)
		}
	}
	for _, a := range samples() {
		k, e := lattice.Kernel(a)
		n := len(a[0])
		if e != api.OK || len(k) != n-rankOf(a) || !isWide(k, len(k), n) {
			t.Error(a, k, e)
			continue
		}
		if len(k) == 0 {
			continue
		}
		// It has all of the kernel if no multiple of another vector is in it.
		if !isHermiteForm(k) || pivot(k[len(k)-1]) < 0 || divisor(k, len(k)).Cmp(big.NewInt(1)) != 0 {
			t.Error(a, k)
		}
		for _, row := range k {
			if pivot(times(a, row)) >= 0 {
				t.Error(a, k)
			}
		}
	}
}

// systems calls f with the samples and several right sides of each: any, and
// some that have a solution.
func systems(f func(a [][]int, b []int)) {
	r := rand.New(rand.NewSource(3))
	for _, a := range samples() {
		f(a, make([]int, len(a)))
		for kind := range 5 {
			b := make([]int, len(a))
			x := make([]int, len(a[0]))
			for j := range x {
				x[j] = r.Intn(19) - 9
			}
			for i := range b {
				switch kind {
				case 0:
					b[i] = r.Intn(2001) - 1000
				case 1:
					b[i] = 1000 * (2*r.Intn(2) - 1)
				case 2:
					b[i] = r.Intn(7) - 3
				}
			}
			if kind >= 3 {
				b = times(a, x)
			}
			if kind == 4 {
				b[r.Intn(len(b))] += 20
			}
			f(a, b)
		}
	}
}

// P1.5 and P1.9, and the examples 3 and 4.
func TestSolve(t *testing.T) {
	for _, x := range []struct {
		a       [][]int
		b, want []int
		e       api.Errno
	}{
		{matrix(3, 6, 10, 15), []int{1}, []int{1, 1, -1}, api.OK},
		{matrix(2, 6, 10), []int{3}, nil, api.ErrNone},
		{matrix(2, 6, 10), []int{4}, []int{4, -2}, api.OK},
		{matrix(2, 6, 10), []int{0}, []int{0, 0}, api.OK},
		{matrix(2, 0, 0), []int{0}, []int{0, 0}, api.OK},
		{matrix(2, 0, 0), []int{1}, nil, api.ErrNone},
		{matrix(1, 1), []int{1000}, []int{1000}, api.OK},
		{matrix(1, -1), []int{1000}, []int{-1000}, api.OK},
		{matrix(1, 1), []int{-1000}, []int{-1000}, api.OK},
		{matrix(1, 1, 1), []int{2, 2}, []int{2}, api.OK},
		{matrix(1, 1, 1), []int{2, 3}, nil, api.ErrNone},
		{matrix(1, 2, 3), []int{2, 3}, []int{1}, api.OK},
		{matrix(2, 2, 0, 0, 3), []int{2, 4}, nil, api.ErrNone},
		{matrix(2, -1, 1, 1, -1), []int{-1, 1}, []int{0, -1}, api.OK},
	} {
		if y, e := lattice.Solve(x.a, x.b); !slices.Equal(y, x.want) || e != x.e {
			t.Error(x, y, e)
		}
	}
	systems(func(a [][]int, b []int) {
		x, e := lattice.Solve(a, b)
		if !solvable(a, b) {
			if e != api.ErrNone || len(x) != 0 {
				t.Error(a, b, x, e)
			}
			return
		}
		k, _ := lattice.Kernel(a)
		if e != api.OK || !isWide([][]int{x}, 1, len(a[0])) || !slices.Equal(times(a, x), b) || !isReduced(x, k) {
			t.Error(a, b, x, k, e)
		}
	})
}

// P1.9: the solutions are Solve's and what the kernel makes of it, no others.
func TestAllSolutions(t *testing.T) {
	r := rand.New(rand.NewSource(4))
	systems(func(a [][]int, b []int) {
		x, e := lattice.Solve(a, b)
		if e != api.OK {
			return
		}
		k, _ := lattice.Kernel(a)
		other := x
		for _, row := range k {
			other = summed(other, scaled(row, r.Intn(9)-4))
		}
		if !slices.Equal(times(a, other), b) {
			t.Error(a, b, x, k)
		}
	})
	for range 300 {
		a := sample(r, 1+r.Intn(2), 3, 1)
		b := []int{r.Intn(5) - 2, r.Intn(5) - 2}[:len(a)]
		x, e := lattice.Solve(a, b)
		k, _ := lattice.Kernel(a)
		for code := range 729 {
			y := []int{code%9 - 4, code/9%9 - 4, code/81 - 4}
			solves := slices.Equal(times(a, y), b)
			if solves != (e == api.OK && spans(k, summed(y, scaled(x, -1)))) {
				t.Fatal(a, b, x, k, y)
			}
		}
	}
}

// P1.6 and P1.9, and the example 4.
func TestRefuse(t *testing.T) {
	for _, x := range []struct {
		a [][]int
		b []int
		e api.Errno
	}{
		{matrix(2, 6, 10), []int{3}, api.OK},
		{matrix(2, 6, 10), []int{4}, api.ErrNone},
		{matrix(1, 0), []int{1000}, api.OK},
		{matrix(1, 0), []int{-1000}, api.OK},
		{matrix(1, 0), []int{0}, api.ErrNone},
		{matrix(1, 1, 1), []int{2, 3}, api.OK},
		{matrix(1, 1, 1), []int{3, 3}, api.ErrNone},
		{matrix(2, 2, 0, 0, 3), []int{2, 4}, api.OK},
		{matrix(3, 19, 19, -20, -20, 20, 20, 20, -19, 19, -19, -20, -20), []int{1000, -1000, 1000, -1000}, api.OK},
	} {
		y, den, e := lattice.Refuse(x.a, x.b)
		if e != x.e || e == api.OK && !provesRefuse(x.a, x.b, y, den) || e != api.OK && (len(y) != 0 || den != 0) {
			t.Error(x, y, den, e)
		}
	}
	systems(func(a [][]int, b []int) {
		y, den, e := lattice.Refuse(a, b)
		_, f := lattice.Solve(a, b)
		if solvable(a, b) {
			if e != api.ErrNone || f != api.OK || len(y) != 0 || den != 0 {
				t.Error(a, b, y, den, e, f)
			}
			return
		}
		ok, g := lattice.CheckRefuse(a, b, y, den)
		if e != api.OK || f != api.ErrNone || !ok || g != api.OK || !provesRefuse(a, b, y, den) {
			t.Error(a, b, y, den, e, f, ok, g)
		}
	})
}

// P1.6: which y and den are a proof.
func TestCheckRefuse(t *testing.T) {
	a, b := matrix(2, 6, 10), []int{3}
	tall, both := matrix(1, 1, 1), []int{2, 3}
	for i, x := range []struct {
		a    [][]int
		b, y []int
		den  int
		want bool
	}{
		{a, b, []int{1}, 2, true},
		{a, b, []int{-1}, 2, true},
		{a, b, []int{3}, 6, true},
		{a, b, []int{2}, 4, true},
		{a, b, []int{1}, 1, false},
		{a, b, []int{1}, 4, false}, // 6 is not a multiple
		{a, b, []int{2}, 2, false}, // y·b is one too
		{a, b, []int{0}, 2, false},
		{a, b, []int{1}, 0, false},
		{a, b, []int{1}, -2, false},
		{a, b, []int{1}, math.MinInt, false},
		{a, b, nil, 2, false},
		{a, b, []int{}, 2, false},
		{a, b, []int{1, 0}, 2, false},
		{a, b, []int{wide / 2}, wide, true},
		{a, b, []int{wide - 1}, 2, true},
		{a, b, []int{1 - wide}, 2, true},
		{a, b, []int{wide + 1}, 2, false},
		{a, b, []int{-wide - 1}, 2, false},
		{a, b, []int{wide}, 2 * wide, false},
		{a, b, []int{math.MaxInt}, 2, false},
		{a, b, []int{math.MinInt}, math.MaxInt, false},
		{a, []int{4}, []int{1}, 2, false},
		{tall, both, []int{1, -1}, 2, true},
		{tall, both, []int{1, -1}, wide, true},
		{tall, both, []int{1, -1}, 1, false},
		{tall, both, []int{1, 1}, 2, true},
		{tall, both, []int{1, 0}, 2, false},
		{tall, both, []int{1}, 2, false},
		{tall, []int{3, 3}, []int{1, -1}, 2, false},
		{matrix(1, 20, 20, 20, 20), []int{1000, 1000, 1000, -1000}, []int{wide, wide, wide, wide}, wide - 1, false},
	} {
		if ok, e := lattice.CheckRefuse(x.a, x.b, x.y, x.den); ok != x.want || e != api.OK {
			t.Error(i, x, ok, e)
		}
	}
}

// P1.9: no proof is accepted where there is a solution, and just the proofs are
// where there is none.
func TestProofsOfSmallSystems(t *testing.T) {
	r := rand.New(rand.NewSource(5))
	for range 300 {
		m := 1 + r.Intn(2)
		a := sample(r, m, 1+r.Intn(3), r.Intn(3))
		b := []int{r.Intn(21) - 10, r.Intn(21) - 10}[:m]
		_, e := lattice.Solve(a, b)
		for code := range 49 {
			y := []int{code%7 - 3, code/7 - 3}[:m]
			for den := -1; den <= 24; den++ {
				ok, _ := lattice.CheckRefuse(a, b, y, den)
				if ok != provesRefuse(a, b, y, den) || ok && e == api.OK {
					t.Fatal(a, b, y, den, ok, e)
				}
			}
		}
	}
}

// P1.7, and the example 4.
func TestGroup(t *testing.T) {
	for _, x := range []struct {
		a    [][]int
		want []int
	}{
		{matrix(2, 6, 10), []int{2}},
		{matrix(2, 2, 0, 0, 3), []int{6}},
		{matrix(2, 2, 0, 0, 2), []int{2, 2}},
		{matrix(2, 2, 4, 3, 5), []int{2}},
		{unit(4), nil},
		{matrix(1, -1), nil},
		{matrix(1, 0), []int{0}},
		{matrix(1, 1, 0), []int{0}},
		{matrix(1, 4, 6, 0), []int{2, 0, 0}},
		{matrix(1, 1, 0, 0, 0), []int{0, 0, 0}},
		{zeros(1, 5), []int{0}},
		{zeros(4, 5), []int{0, 0, 0, 0}},
		{matrix(3, 6, 0, 0, 0, 10, 0, 0, 0, 15), []int{30, 30}},
	} {
		if g, e := lattice.Group(x.a); !slices.Equal(g, x.want) || e != api.OK {
			t.Error(x.a, g, e)
		}
	}
	for _, a := range samples() {
		want := smithList(a)
		for len(want) < len(a) {
			want = append(want, 0)
		}
		want = slices.DeleteFunc(want, func(x int) bool { return x == 1 })
		if g, e := lattice.Group(a); !slices.Equal(g, want) || e != api.OK {
			t.Error(a, g, want, e)
		}
	}
}
