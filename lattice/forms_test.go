package lattice_test

import (
	"math"
	"math/rand"
	"reflect"
	"slices"
	"testing"

	"massecuite/api"
	"massecuite/lattice"
)

// P1.1, and the examples 1 and 2.
func TestHermite(t *testing.T) {
	for _, x := range []struct{ a, h [][]int }{
		{matrix(2, 2, 4, 3, 5), matrix(2, 1, 1, 0, 2)},
		{matrix(2, 0, 0, 0, -3), matrix(2, 0, 3, 0, 0)},
		{matrix(1, -20), matrix(1, 20)},
		{matrix(1, 0), matrix(1, 0)},
		{matrix(1, 6, 10, 15), matrix(1, 1, 0, 0)},
		{matrix(2, 1, 5, 0, 3), matrix(2, 1, 2, 0, 3)},
		{matrix(2, 1, -1, 0, 3), matrix(2, 1, 2, 0, 3)},
		{matrix(3, 0, 0, 2, 0, 3, 1, 5, 1, 1), matrix(3, 5, 1, 1, 0, 3, 1, 0, 0, 2)},
	} {
		h, u, e := lattice.Hermite(x.a)
		if !reflect.DeepEqual(h, x.h) || e != api.OK {
			t.Error(x.a, h, u, e)
		}
	}
	for _, a := range samples() {
		h, u, e := lattice.Hermite(a)
		if e != api.OK || !provesHermite(a, h, u) {
			t.Error(a, h, u, e)
		}
	}
}

// P1.2, and the example 1.
func TestSmith(t *testing.T) {
	for _, x := range []struct {
		a [][]int
		d []int
	}{
		{matrix(2, 2, 4, 3, 5), []int{1, 2}},
		{matrix(2, 0, 0, 0, -3), []int{3, 0}},
		{matrix(2, 2, 0, 0, 3), []int{1, 6}},
		{matrix(2, 4, 0, 0, 6), []int{2, 12}},
		{matrix(3, 6, 10, 15), []int{1}},
		{matrix(1, 4, 6, -10), []int{2}},
		{matrix(3, 6, 0, 0, 0, 10, 0, 0, 0, 15), []int{1, 30, 30}},
		{zeros(2, 3), []int{0, 0}},
	} {
		d, _, _, e := lattice.Smith(x.a)
		if !slices.Equal(d, x.d) || e != api.OK {
			t.Error(x.a, d, e)
		}
	}
	for _, a := range samples() {
		d, u, v, e := lattice.Smith(a)
		if e != api.OK || !slices.Equal(d, smithList(a)) || !provesSmith(a, d, u, v) {
			t.Error(a, d, u, v, e)
		}
	}
}

// P1.3 and P1.8: which h and u prove each other.
func TestCheckHermite(t *testing.T) {
	a := matrix(2, 2, 4, 3, 5)
	h, u := matrix(2, 1, 1, 0, 2), matrix(2, -1, 1, 3, -2)
	z := zeros(2, 1)
	for i, x := range []struct {
		a, h, u [][]int
		want    bool
	}{
		{a, h, u, true},
		{a, h, unit(2), false},
		{a, matrix(2, 1, 3, 0, 2), matrix(2, 2, -1, 3, -2), false},   // not reduced
		{a, matrix(2, 1, -1, 0, 2), matrix(2, -4, 3, 3, -2), false},  // below zero above a pivot
		{a, matrix(2, 1, 1, 0, -2), matrix(2, -1, 1, -3, 2), false},  // a negative pivot
		{a, matrix(2, -1, -1, 0, 2), matrix(2, 1, -1, 3, -2), false}, // a negative pivot
		{a, matrix(2, 0, 2, 1, 1), matrix(2, 3, -2, -1, 1), false},   // pivots go left
		{a, matrix(2, 1, 1, 1, 3), matrix(2, -1, 1, 2, -1), false},   // not zero below a pivot
		{a, a, unit(2), false}, // not a form
		{a, matrix(2, 1, 1, 0, 4), matrix(2, -1, 1, 6, -4), false}, // determinant -2
		{a, matrix(2, 1, 1, 0, 0), matrix(2, -1, 1, 0, 0), false},  // determinant 0
		{a, h, nil, false},
		{a, nil, u, false},
		{a, nil, nil, false},
		{a, h[:1], u, false},
		{a, h[:1], u[:1], false},
		{a, h, u[:1], false},
		{a, h, matrix(3, -1, 1, 0, 3, -2, 0), false},
		{a, h, [][]int{{-1, 1}, {3}}, false},
		{a, h, [][]int{{-1, 1}, nil}, false},
		{a, [][]int{{1, 1}, {0}}, u, false},
		{a, matrix(3, 1, 1, 0, 0, 2, 0), u, false},
		{a, append(copied(h), []int{0, 0}), u, false},
		{a, append(copied(h), []int{0, 0}), matrix(2, -1, 1, 3, -2, 0, 0), false},
		{matrix(1, 2, 0), matrix(1, 0, 2), matrix(2, 0, 1, 1, 0), false}, // the zero row stands first
		{matrix(1, 2, 0), matrix(1, 2, 0), matrix(2, 1, 77, 0, -1), true},
		{matrix(1, 2, 0), matrix(1, 2, 0), matrix(2, 1, 77, 0, 2), false},
		{matrix(1, 2, 0), matrix(1, 2, 0), matrix(2, 1, 77, 0, 0), false},
		{z, z, matrix(2, 1, wide, 0, 1), true},
		{z, z, matrix(2, 1, -wide, 0, -1), true},
		{z, z, matrix(2, 1, wide+1, 0, 1), false},
		{z, z, matrix(2, 1, -wide-1, 0, 1), false},
		{z, z, matrix(2, 1, math.MaxInt, 0, 1), false},
		{z, z, matrix(2, math.MinInt, 1, -1, 0), false},
		{z, z, matrix(2, wide, 1, -1, 1<<24), false},                                                                  // 2^64 + 1
		{z, z, matrix(2, wide, wide-1, wide-1, wide-2), true},                                                         // -1
		{zeros(3, 1), zeros(3, 1), matrix(3, 1<<40, 1, 0, 0, 1<<40, 1, 1, 0, 1<<16), false},                           // 2^96 + 1
		{zeros(4, 1), zeros(4, 1), matrix(4, 1<<32, 1, 0, 0, 0, 1<<32, 1, 0, 0, 0, 1<<32, 1, -1, 0, 0, 1<<32), false}, // 2^128 + 1
	} {
		if ok, e := lattice.CheckHermite(x.a, x.h, x.u); ok != x.want || e != api.OK {
			t.Error(i, x, ok, e)
		}
	}
}

// P1.3 and P1.8: which d, u and v prove each other.
func TestCheckSmith(t *testing.T) {
	one, two, three := unit(1), unit(2), unit(3)
	diag := matrix(2, 2, 0, 0, 4)
	z := zeros(1, 5)
	// u·v is the unit matrix but for one element, which is 2^64.
	far := matrix(3, 1, 0, 0, 0, 1<<30, 1, -1<<34, 1, 0)
	near := matrix(3, 1, 0, 0, 1<<34, 0, 1, 0, 1, -1<<30)
	// 2^192 + 1.
	ring := matrix(5, 1<<40, 1, 0, 0, 0, 0, 1<<38, 1, 0, 0, 0, 0, 1<<38, 1, 0, 0, 0, 0, 1<<38, 1, 1, 0, 0, 0, 1<<38)
	for i, x := range []struct {
		a    [][]int
		d    []int
		u, v [][]int
		want bool
	}{
		{diag, []int{2, 4}, two, two, true},
		{diag, []int{2, 4}, matrix(2, -1, 0, 0, 1), matrix(2, -1, 0, 0, 1), true},
		{diag, []int{2, 4}, matrix(2, -1, 0, 0, 1), two, false},
		{diag, []int{4, 2}, matrix(2, 0, 1, 1, 0), matrix(2, 0, 1, 1, 0), false}, // 4 does not divide 2
		{diag, []int{-2, 4}, matrix(2, -1, 0, 0, 1), two, false},
		{diag, []int{2, -4}, matrix(2, 1, 0, 0, -1), two, false},
		{diag, []int{2, 8}, two, matrix(2, 1, 0, 0, 2), false}, // determinant 2
		{diag, []int{4, 4}, matrix(2, 2, 0, 0, 1), two, false}, // determinant 2
		{diag, []int{2, 0}, two, matrix(2, 1, 0, 0, 0), false}, // determinant 0
		{diag, []int{2, 4}, two, matrix(2, 1, 1, 0, 1), false}, // 2 beside the diagonal
		{diag, []int{2, 4}, matrix(2, 1, 0, 1, 1), two, false}, // 2 below the diagonal
		{diag, []int{2}, two, two, false},
		{diag, []int{2, 4, 0}, two, two, false},
		{diag, nil, two, two, false},
		{diag, []int{2, 4}, nil, two, false},
		{diag, []int{2, 4}, two, nil, false},
		{diag, []int{2, 4}, two[:1], two, false},
		{diag, []int{2, 4}, two, three, false},
		{diag, []int{2, 4}, three, two, false},
		{diag, []int{2, 4}, [][]int{{1, 0}, {0}}, two, false},
		{diag, []int{2, 4}, two, [][]int{{1, 0}, {0, 1, 0}}, false},
		{diag, []int{math.MinInt, 4}, two, two, false},
		{matrix(2, 0, 0, 0, 3), []int{0, 3}, two, two, false}, // 0 divides only 0
		{matrix(2, 2, 0, 0, 3), []int{2, 3}, two, two, false},
		{matrix(2, 3, 0, 0, 0), []int{3, 0}, two, matrix(2, 1, 0, wide, 1), true},
		{matrix(2, 3, 0, 0, 0), []int{3, 0}, two, matrix(2, 1, 0, wide+1, 1), false},
		{matrix(2, 3, 0, 0, 0), []int{3, 0}, matrix(2, 1, -wide, 0, 1), two, true},
		{matrix(2, 3, 0, 0, 0), []int{3, 0}, matrix(2, 1, -wide-1, 0, 1), two, false},
		{matrix(2, 3, 0, 0, 0), []int{3, 0}, matrix(2, 1, math.MinInt, 0, 1), two, false},
		{matrix(2, 5, 0), []int{5}, one, two, true},
		{matrix(2, 5, 0), []int{5, 0}, one, two, false},
		{matrix(1, 5, 0), []int{5}, two, one, true},
		{matrix(1, 5, 1), []int{5}, two, one, false},
		{three, []int{1, 1, 1}, far, near, false},
		{three, []int{1, 1, 1}, near, far, false},
		{z, []int{0}, one, unit(5), true},
		{z, []int{0}, one, ring, false},
		{z, []int{0}, matrix(1, -1), unit(5), true},
		{z, []int{0}, matrix(1, 2), unit(5), false},
	} {
		if ok, e := lattice.CheckSmith(x.a, x.d, x.u, x.v); ok != x.want || e != api.OK {
			t.Error(i, x, ok, e)
		}
	}
}

// changed returns a with another number at one place.
func changed(r *rand.Rand, a [][]int) [][]int {
	out := copied(a)
	i := r.Intn(len(a))
	out[i][r.Intn(len(a[i]))] += []int{-1, 1, 2, -7, 1 << 40, 1 << 62}[r.Intn(6)]
	return out
}

// P1.8: what the functions return is accepted, and no other h or d; what is
// changed is accepted just where it proves as much.
func TestChecksOfSamples(t *testing.T) {
	r := rand.New(rand.NewSource(2))
	for _, a := range samples() {
		h, u, _ := lattice.Hermite(a)
		d, v, w, _ := lattice.Smith(a)
		if ok, e := lattice.CheckHermite(a, h, u); !ok || e != api.OK {
			t.Error(a, h, u, e)
		}
		if ok, e := lattice.CheckSmith(a, d, v, w); !ok || e != api.OK {
			t.Error(a, d, v, w, e)
		}
		for range 4 {
			if x := changed(r, u); provesHermite(a, h, x) != first(lattice.CheckHermite(a, h, x)) {
				t.Error(a, h, x)
			}
			if x := changed(r, h); first(lattice.CheckHermite(a, x, u)) {
				t.Error(a, x, u)
			}
			if x := changed(r, v); provesSmith(a, d, x, w) != first(lattice.CheckSmith(a, d, x, w)) {
				t.Error(a, d, x, w)
			}
			if x := changed(r, w); provesSmith(a, d, v, x) != first(lattice.CheckSmith(a, d, v, x)) {
				t.Error(a, d, v, x)
			}
			if x := changed(r, [][]int{d}); first(lattice.CheckSmith(a, x[0], v, w)) {
				t.Error(a, x, v, w)
			}
		}
	}
}

func first(ok bool, _ api.Errno) bool { return ok }

// P1.8: the product is right and u unimodular, but h is not the form.
func TestOtherFormsAreRefused(t *testing.T) {
	for _, a := range samples() {
		h, u, _ := lattice.Hermite(a)
		for i := range h {
			for k := range h {
				x, y := copied(h), copied(u)
				if i == k {
					x[i], y[i] = scaled(x[i], -1), scaled(y[i], -1)
				} else {
					x[i], y[i] = summed(x[i], x[k]), summed(y[i], y[k])
				}
				if first(lattice.CheckHermite(a, x, y)) != sameRows(x, h) {
					t.Error(a, x, y)
				}
			}
		}
	}
}

func scaled(row []int, k int) []int {
	out := slices.Clone(row)
	for i := range out {
		out[i] *= k
	}
	return out
}

func summed(x, y []int) []int {
	out := slices.Clone(x)
	for i := range out {
		out[i] += y[i]
	}
	return out
}

// small reports whether all elements are valid.
func small(a [][]int) bool {
	for _, row := range a {
		for _, x := range row {
			if x < -api.MaxEntry || x > api.MaxEntry {
				return false
			}
		}
	}
	return true
}

// P1.11: neither changes of the rows nor of the columns that can be undone
// change what they should not.
func TestSameLattice(t *testing.T) {
	for _, a := range samples() {
		h, _, _ := lattice.Hermite(a)
		d, _, _, _ := lattice.Smith(a)
		for _, b := range variants(a) {
			if x, _, _ := lattice.Hermite(b); !sameRows(x, h) {
				t.Error(a, b, h, x)
			}
			if x, _, _, _ := lattice.Smith(b); !slices.Equal(x, d) {
				t.Error(a, b, d, x)
			}
		}
		for _, b := range variants(flipped(a)) {
			if x, _, _, _ := lattice.Smith(flipped(b)); !slices.Equal(x, d) {
				t.Error(a, flipped(b), d, x)
			}
		}
	}
}

// variants returns valid matrices with rows of the same span.
func variants(a [][]int) [][][]int {
	var out [][][]int
	for i := range a {
		b := copied(a)
		b[i] = scaled(b[i], -1)
		out = append(out, b)
		for k := range a {
			if k == i {
				continue
			}
			b := copied(a)
			b[i], b[k] = b[k], b[i]
			out = append(out, b)
			for _, by := range []int{-3, -1, 1, 2} {
				b := copied(a)
				b[i] = summed(b[i], scaled(b[k], by))
				if small(b) {
					out = append(out, b)
				}
			}
		}
	}
	return out
}

// dense returns a unimodular matrix with n rows of large elements.
func dense(r *rand.Rand, n int) [][]int {
	left, right := unit(n), unit(n)
	for i := range n {
		for j := range i {
			left[i][j] = r.Intn(1<<19) - 1<<18
			right[j][i] = r.Intn(1<<19) - 1<<18
		}
	}
	out := zeros(n, n)
	for i := range n {
		for j := range n {
			out[i][j] = times(flipped(right), left[i])[j]
		}
	}
	return out
}

// P1.3: the determinants of dense wide matrices are meant exactly; in those of
// their parts all words of a long number count.
func TestDenseUnimodular(t *testing.T) {
	r := rand.New(rand.NewSource(6))
	for k := range 400 {
		n := 2 + k%4
		u := dense(r, n)
		if k%3 == 1 {
			i := r.Intn(n)
			u[i][r.Intn(n)] += r.Intn(3) - 1
		}
		want := isUnimodular(u, n)
		if n == 5 {
			if ok, e := lattice.CheckSmith(zeros(1, n), []int{0}, unit(1), u); ok != want || e != api.OK {
				t.Error(u, ok, e)
			}
			continue
		}
		if ok, e := lattice.CheckHermite(zeros(n, 1), zeros(n, 1), u); ok != want || e != api.OK {
			t.Error(u, ok, e)
		}
		if ok, e := lattice.CheckSmith(zeros(n, n), make([]int, n), unit(n), u); ok != want || e != api.OK {
			t.Error(u, ok, e)
		}
	}
}
