package cycle_test

import (
	"math"
	"math/rand"
	"testing"

	"massecuite/api"
	"massecuite/cycle"
)

func checkMul(t *testing.T, a, b, want [][]int, err api.Errno) {
	t.Helper()
	if p, e := cycle.Mul(a, b); !equal(p, want) || e != err {
		t.Error("Mul", a, b, p, e, "not", want, err)
	}
}

func checkPower(t *testing.T, a [][]int, k int, want [][]int, err api.Errno) {
	t.Helper()
	if p, e := cycle.Power(a, k); !equal(p, want) || e != err {
		t.Error("Power", a, k, p, e, "not", want, err)
	}
}

func checkStar(t *testing.T, a, want [][]int, err api.Errno) {
	t.Helper()
	if s, e := cycle.Star(a); !equal(s, want) || e != err {
		t.Error("Star", a, s, e, "not", want, err)
	}
}

// P4.1: products of all samples of equal size, by the definition.
func TestMul(t *testing.T) {
	last := map[int][][]int{}
	for _, a := range samples() {
		n := len(a)
		if b, ok := last[n]; ok {
			checkMul(t, a, b, times(a, b), api.OK)
			checkMul(t, b, a, times(b, a), api.OK)
		}
		checkMul(t, a, a, times(a, a), api.OK)
		checkMul(t, a, unit(n), a, api.OK)
		checkMul(t, unit(n), a, a, api.OK)
		checkMul(t, a, filled(n, api.Never), filled(n, api.Never), api.OK)
		last[n] = a
	}
}

// P4.1: large numbers are valid for Mul, and those of products may be larger;
// one that is not small has no power.
func TestMulEdges(t *testing.T) {
	const large = 1_000_000
	checkMul(t, of("1 2 / - 3"), of("- 4 / 5 -"), of("7 5 / 8 -"), api.OK)
	checkMul(t, of("1 -"), of("1 -"), nil, api.ErrArg)
	for n := 1; n <= 6; n++ {
		checkMul(t, filled(n, large), filled(n, large), filled(n, 2*large), api.OK)
		checkMul(t, filled(n, -large), filled(n, -large), filled(n, -2*large), api.OK)
		checkMul(t, filled(n, large), filled(n, -large), filled(n, 0), api.OK)
		checkMul(t, filled(n, large), filled(n, api.Never), filled(n, api.Never), api.OK)
		checkMul(t, filled(n, api.Never), filled(n, -large), filled(n, api.Never), api.OK)
		for m := 0; m <= 8; m++ {
			if m != n || m > 6 {
				checkMul(t, filled(n, 0), filled(m, 0), nil, api.ErrArg)
				checkMul(t, filled(m, 0), filled(n, 0), nil, api.ErrArg)
			}
		}
	}
	for _, x := range []int{large + 1, -large - 1, api.Never + 1, api.Never - 1, -api.Never, math.MaxInt, math.MinInt} {
		for at := range 4 {
			a := filled(2, large)
			a[at/2][at%2] = x
			checkMul(t, a, filled(2, 0), nil, api.ErrArg)
			checkMul(t, filled(2, 0), a, nil, api.ErrArg)
			checkMul(t, a, a, nil, api.ErrArg)
		}
	}
	r := rand.New(rand.NewSource(6))
	for range 300 {
		n := 1 + r.Intn(6)
		a, b := random(r, n, 7, -large, 2*large+1), random(r, n, 7, -large, 2*large+1)
		checkMul(t, a, b, times(a, b), api.OK)
	}
}

// P4.1: powers of all samples, by the definition.
func TestPower(t *testing.T) {
	for i, a := range samples() {
		list := powers(a, 20)
		for k, p := range list {
			if k <= 7 || k%7 == i%7 {
				checkPower(t, a, k, p, api.OK)
			}
		}
	}
}

// P4.1: exponents from 0 to 1000, and numbers from -1000 to 1000.
func TestPowerEdges(t *testing.T) {
	checkPower(t, halves, 2, of("5 7 / 2 5"), api.OK)
	checkPower(t, swap, 1000, of("2000 - / - 2000"), api.OK)
	checkPower(t, swap, 999, of("- 1999 / 1997 -"), api.OK)
	checkPower(t, uphill, 2, of("- - 4 / - - - / - - -"), api.OK)
	checkPower(t, uphill, 1000, filled(3, api.Never), api.OK)
	for i, a := range listed() {
		n := len(a)
		list := powers(a, 1000)
		checkPower(t, a, 0, unit(n), api.OK)
		checkPower(t, a, 1, a, api.OK)
		for _, k := range []int{63 + i, 511, 512, 513, 999, 1000} {
			checkPower(t, a, k, list[k], api.OK)
		}
		for _, k := range []int{-1, 1001, math.MaxInt, math.MinInt, 1 << 32, -1 << 32} {
			checkPower(t, a, k, nil, api.ErrArg)
		}
	}
	checkPower(t, filled(6, 1000), 1000, filled(6, 1000_000), api.OK)
	checkPower(t, filled(6, -1000), 1000, filled(6, -1000_000), api.OK)
	checkPower(t, filled(1, 1001), 1, nil, api.ErrArg)
	checkPower(t, filled(1, -1001), 0, nil, api.ErrArg)
}

// P4.4: the greatest sums of weights of all samples, by trying all ways.
func TestStar(t *testing.T) {
	none, some := 0, 0
	for _, a := range samples() {
		num, _, _ := measure(a)
		if num > 0 {
			checkStar(t, a, nil, api.ErrLoop)
			none++
			continue
		}
		checkStar(t, a, best(a, 0, 1), api.OK)
		some++
	}
	if none < 300 || some < 300 {
		t.Error("few samples", none, some)
	}
}

// P4.4: cycles of the weights 0 and 1, on and off the ways, and no arcs.
func TestStarEdges(t *testing.T) {
	checkStar(t, calm, of("0 2 / -3 0"), api.OK)
	checkStar(t, of("1"), nil, api.ErrLoop)
	checkStar(t, of("0"), of("0"), api.OK)
	checkStar(t, of("-1"), of("0"), api.OK)
	checkStar(t, of("-"), of("0"), api.OK)
	checkStar(t, uphill, of("0 1 4 / - 0 3 / - - 0"), api.OK)
	checkStar(t, of("- 5 / -5 -"), of("0 5 / -5 0"), api.OK)
	checkStar(t, of("- 5 / -4 -"), nil, api.ErrLoop)
	checkStar(t, of("- 1 - / - - - / - - 1"), nil, api.ErrLoop)
	for n := 1; n <= 6; n++ {
		checkStar(t, filled(n, api.Never), unit(n), api.OK)
		a, want := filled(n, api.Never), unit(n)
		for i := range n {
			for j := i + 1; j < n; j++ {
				want[i][j] = 1000 * (j - i)
			}
			if i+1 < n {
				a[i][i+1] = 1000
			}
		}
		checkStar(t, a, want, api.OK) // the last way has all nodes
		if n == 1 {
			continue
		}
		for _, x := range []int{-1000, 1000} {
			a = steps(n, "0 1 1 0", "1000 -1000")
			a[1][0] = x
			_, e := cycle.Star(a)
			if (e == api.OK) != (x < 0) {
				t.Error(a, e)
			}
		}
	}
	// A cycle of all six nodes with the weight 0, or just above.
	a := steps(6, "0 3 3 1 1 5 5 2 2 4 4 0", "7 -2 3 -9 5 -4")
	checkStar(t, a, best(a, 0, 1), api.OK)
	a[4][0]++
	checkStar(t, a, nil, api.ErrLoop)
}

// P4.11: powers multiply, also as far as 1000 together.
func TestPowersMultiply(t *testing.T) {
	r := rand.New(rand.NewSource(7))
	list := samples()
	for i, a := range list {
		j := r.Intn(30)
		k := r.Intn(30)
		if i%20 == 0 {
			j = r.Intn(1001)
			k = 1000 - j
		}
		checkMultiply(t, a, j, k)
	}
	for _, a := range listed() {
		for _, k := range []int{0, 1, 500, 999, 1000} {
			checkMultiply(t, a, 1000-k, k)
		}
	}
}

func checkMultiply(t *testing.T, a [][]int, j, k int) {
	t.Helper()
	x, e1 := cycle.Power(a, j)
	y, e2 := cycle.Power(a, k)
	whole, e3 := cycle.Power(a, j+k)
	p, e4 := cycle.Mul(x, y)
	if e1 != api.OK || e2 != api.OK || e3 != api.OK || e4 != api.OK || !equal(p, whole) {
		t.Error(a, j, k, p, whole, e1, e2, e3, e4)
	}
}

// P4.11: where it is OK, Star is the greatest of the powers 0 to n - 1; and it
// is so just if no diagonal of the powers 1 to n is above 0.
func TestStarIsGreatestPower(t *testing.T) {
	for _, a := range samples() {
		want := unit(len(a))
		err := api.OK
		for k := 1; k <= len(a); k++ {
			p, _ := cycle.Power(a, k)
			for i := range a {
				for j := range a {
					if k < len(a) {
						want[i][j] = max(want[i][j], p[i][j])
					}
				}
				if p[i][i] > 0 {
					err = api.ErrLoop
				}
			}
		}
		if err != api.OK {
			want = nil
		}
		checkStar(t, a, want, err)
	}
}
