package cycle_test

import (
	"math"
	"math/rand"
	"slices"
	"testing"

	"massecuite/api"
	"massecuite/cycle"
)

func checkMean(t *testing.T, a [][]int, num, den int, err api.Errno) {
	t.Helper()
	if n, d, e := cycle.Mean(a); n != num || d != den || e != err {
		t.Error("Mean", a, n, d, e, "not", num, den, err)
	}
}

func checkCritical(t *testing.T, a [][]int, want []int, err api.Errno) {
	t.Helper()
	if c, e := cycle.Critical(a); !slices.Equal(c, want) || e != err {
		t.Error("Critical", a, c, e, "not", want, err)
	}
}

func checkCheck(t *testing.T, a [][]int, c, v []int, num, den int, want bool) {
	t.Helper()
	if ok, e := cycle.Check(a, c, v, num, den); ok != want || e != api.OK {
		t.Error("Check", a, c, v, num, den, ok, e)
	}
}

// P4.2: the means and the first critical cycles of all samples, by trying all
// cycles.
func TestMeanAndCritical(t *testing.T) {
	none, tied := 0, 0
	for _, a := range samples() {
		num, den, critical := measure(a)
		if den == 0 {
			checkMean(t, a, 0, 0, api.ErrNone)
			checkCritical(t, a, nil, api.ErrNone)
			none++
			continue
		}
		checkMean(t, a, num, den, api.OK)
		checkCritical(t, a, critical[0].nodes, api.OK)
		if len(critical) > 1 {
			tied++
		}
	}
	if none < 20 || tied < 200 {
		t.Error("few samples", none, tied)
	}
}

// P4.2: Never only, single numbers, fractions below 0, and parts that are not
// connected; fewer nodes come first, and then the lesser node.
func TestMeanEdges(t *testing.T) {
	checkMean(t, swap, 2, 1, api.OK)
	checkCritical(t, swap, []int{0, 1}, api.OK)
	checkMean(t, halves, 5, 2, api.OK)
	checkCritical(t, halves, []int{0, 1}, api.OK)
	checkMean(t, turn3, 7, 3, api.OK)
	checkMean(t, apart, 7, 1, api.OK)
	checkCritical(t, apart, []int{1}, api.OK)
	checkMean(t, of("- -3 / -4 -"), -7, 2, api.OK)
	checkMean(t, of("- -3 / 3 -"), 0, 1, api.OK)
	checkMean(t, uphill, 0, 0, api.ErrNone)
	checkCritical(t, coprime, []int{0, 1}, api.OK)
	checkCritical(t, three, []int{0}, api.OK)
	for n := 1; n <= 6; n++ {
		checkMean(t, filled(n, api.Never), 0, 0, api.ErrNone)
		checkCritical(t, filled(n, api.Never), nil, api.ErrNone)
		for _, x := range []int{-1000, -1, 0, 1, 1000} {
			checkMean(t, filled(n, x), x, 1, api.OK)
			checkCritical(t, filled(n, x), []int{0}, api.OK)
		}
	}
	// The cycles 0 5, 1 2 3 and 0 3 4, with equal means; then without the first,
	// and then without the last.
	a := steps(6, "0 5 5 0 1 2 2 3 3 1 0 3 3 4 4 0", "1 1 0 1 2 3 -3 3")
	checkCritical(t, a, []int{0, 5}, api.OK)
	a[5][0] = 0
	checkCritical(t, a, []int{0, 3, 4}, api.OK)
	a[4][0] = 2
	checkCritical(t, a, []int{1, 2, 3}, api.OK)
	// Four cycles of four nodes with equal means; then two, one, and none of them.
	a = steps(6, "0 1 0 4 1 2 4 2 2 3 2 5 3 0 5 0", "4 -4 -1 7 9 -9 -8 10")
	checkCritical(t, a, []int{0, 1, 2, 3}, api.OK)
	a[3][0]--
	checkCritical(t, a, []int{0, 1, 2, 5}, api.OK)
	a[0][1]--
	checkCritical(t, a, []int{0, 4, 2, 5}, api.OK)
	a[3][0]++
	checkCritical(t, a, []int{0, 4, 2, 3}, api.OK)
	a[2][3]++
	checkCritical(t, a, []int{0, 4, 2, 3}, api.OK)
	checkMean(t, a, 5, 4, api.OK)
	checkMean(t, steps(6, "0 2 2 4 4 1 1 3 3 5 5 0", "1000 1000 1000 1000 1000 999"), 5999, 6, api.OK)
	checkCritical(t, steps(6, "0 2 2 4 4 1 1 3 3 5 5 0", "1 1 1 1 1 0"), []int{0, 2, 4, 1, 3, 5}, api.OK)
}

// P4.3: potentials of all samples, held against the definition.
func TestPotential(t *testing.T) {
	for _, a := range samples() {
		num, den, _ := measure(a)
		v, e := cycle.Potential(a)
		if den == 0 {
			if len(v) > 0 || e != api.ErrNone {
				t.Error(a, v, e)
			}
			continue
		}
		if e != api.OK || !isPotential(a, v, num, den) {
			t.Error(a, v, e)
		}
	}
}

// isPotential reports whether v is a potential for num/den.
func isPotential(a [][]int, v []int, num, den int) bool {
	if len(v) != len(a) {
		return false
	}
	for i := range a {
		if v[i] < -1<<40 || v[i] > 1<<40 {
			return false
		}
		for j, x := range a[i] {
			if x != api.Never && den*x+v[j] > num+v[i] {
				return false
			}
		}
	}
	return true
}

// P4.3: Check of what is right and of what is nearly right: every cycle, begun
// with any of its nodes, with means near its own one and potentials that are
// changed a little.
func TestCheck(t *testing.T) {
	r := rand.New(rand.NewSource(8))
	accepted := 0
	for i, a := range samples() {
		v, _ := cycle.Potential(a)
		for _, x := range loops(a) {
			if i%9 > 0 && r.Intn(10) > 0 {
				continue
			}
			k := r.Intn(len(x.nodes))
			nodes := slices.Concat(x.nodes[k:], x.nodes[:k])
			by := 1 + r.Intn(3)
			num, den := by*x.weight, by*len(x.nodes)
			moved := slices.Clone(v)
			for j := range moved { // a potential of another scale
				moved[j] = v[j]*den/lowest(a) + 5
			}
			if r.Intn(3) == 0 {
				moved[r.Intn(len(v))] += r.Intn(5) - 2
			}
			want := isPotential(a, moved, num, den)
			if want {
				accepted++
			}
			checkCheck(t, a, nodes, moved, num, den, want)
			checkCheck(t, a, nodes, moved, num+1, den, false)
			checkCheck(t, a, nodes, moved, num-1, den, false)
			if num != 0 {
				checkCheck(t, a, nodes, moved, num, den+1, false)
				checkCheck(t, a, nodes, moved, -num, -den, false)
			}
			checkCheck(t, a, append(slices.Clone(nodes), nodes...), moved, 2*num, 2*den, false)
		}
	}
	if accepted < 500 {
		t.Error("few accepted", accepted)
	}
}

// lowest returns the denominator of the mean of a.
func lowest(a [][]int) int {
	_, den, _ := measure(a)
	return den
}

// P4.3: what is no cycle, and cycles that begin with any of their nodes.
func TestCheckCycles(t *testing.T) {
	v := []int{0, 0, 0, 0}
	a := of("0 0 0 0 / 0 0 - 0 / 0 - 0 0 / 0 0 0 0")
	for _, c := range []string{"0", "1", "3", "0 1", "1 0", "0 1 3 2", "1 3 2 0", "3 2 0 1", "2 0 1 3", "2 3 1 0"} {
		checkCheck(t, a, row(c), v, 0, 1, true)
	}
	for _, c := range []string{"", "4", "-1", "0 4", "4 0", "0 0", "0 1 0", "0 1 3 0", "1 2", "2 1", "0 1 2 3",
		"1 0 2", "0 1 3 2 0", "0 1 3 2 0 1 3 2", "64", "0 64", "9223372036854775807", "-9223372036854775808"} {
		checkCheck(t, a, row(c), v, 0, 1, false)
	}
	checkCheck(t, a, make([]int, 100000), v, 0, 1, false)
	checkCheck(t, a, nil, v, 0, 1, false)
	for n := 1; n <= 6; n++ {
		none := filled(n, api.Never)
		checkCheck(t, none, nil, make([]int, n), 0, 1, false)
		checkCheck(t, none, []int{0}, make([]int, n), 0, 1, false)
		checkCheck(t, none, []int{0}, make([]int, n), api.Never, 1, false)
	}
}

// P4.3: potentials with other numbers than n, and the limits of num, den and v,
// where all are right but one number beyond its limit.
func TestCheckLimits(t *testing.T) {
	const wide = 1 << 40
	zero := of("0")
	for _, v := range [][]int{nil, {}, {0, 0}, make([]int, 100000)} {
		checkCheck(t, zero, []int{0}, v, 0, 1, false)
	}
	checkCheck(t, zero, []int{0}, []int{7}, 0, 1, true)
	for _, x := range []int{wide, -wide, wide - 1} {
		checkCheck(t, zero, []int{0}, []int{x}, 0, 1, true)
		checkCheck(t, of("0 - / - 0"), []int{1}, []int{-x, x}, 0, 1, true)
	}
	for _, x := range []int{wide + 1, -wide - 1, math.MaxInt, math.MinInt} {
		checkCheck(t, zero, []int{0}, []int{x}, 0, 1, false)
		checkCheck(t, of("0 - / - 0"), []int{0}, []int{0, x}, 0, 1, false)
	}
	for _, den := range []int{1, 3, wide - 1, wide} {
		checkCheck(t, zero, []int{0}, []int{0}, 0, den, true)
		checkCheck(t, of("1"), []int{0}, []int{0}, den, den, true)
		checkCheck(t, of("-1"), []int{0}, []int{0}, -den, den, true)
		checkCheck(t, of("1"), []int{0}, []int{0}, -den, den, false)
		checkCheck(t, of("1000"), []int{0}, []int{0}, den, den, false)
	}
	for _, den := range []int{0, -1, -wide, wide + 1, math.MaxInt, math.MinInt} {
		checkCheck(t, zero, []int{0}, []int{0}, 0, den, false)
		checkCheck(t, of("1"), []int{0}, []int{0}, den, den, false)
		checkCheck(t, of("-1"), []int{0}, []int{0}, -den, den, false)
		checkCheck(t, of("1000"), []int{0}, []int{0}, 1000*den, den, false)
	}
	// num alone at its limits, and beyond.
	checkCheck(t, of("1000"), []int{0}, []int{0}, wide-776, wide/1000, true)
	checkCheck(t, of("1000"), []int{0}, []int{0}, wide+224, wide/1000+1, false)
	checkCheck(t, of("-1000"), []int{0}, []int{0}, 776-wide, wide/1000, true)
	checkCheck(t, of("-1000"), []int{0}, []int{0}, -wide-224, wide/1000+1, false)
	checkCheck(t, of("512"), []int{0}, []int{0}, wide, wide>>9, true)
	checkCheck(t, of("-512"), []int{0}, []int{0}, -wide, wide>>9, true)
}

// P4.3: with large numbers the differences are still exact, also where an arc
// less the mean is the number that stands for Never.
func TestCheckExact(t *testing.T) {
	const wide = 1 << 40
	a := of("0 -1 / - 0")
	checkCheck(t, a, []int{0}, []int{0, wide}, 0, wide, true)
	checkCheck(t, a, []int{0}, []int{-1, wide}, 0, wide, false)
	checkCheck(t, a, []int{1}, []int{-wide, 0}, 0, wide, true)
	checkCheck(t, a, []int{1}, []int{-wide, 1}, 0, wide, false)
	b := of("0 -2 / - 0")
	checkCheck(t, b, []int{1}, []int{-wide, wide}, 0, wide, true)
	checkCheck(t, b, []int{1}, []int{-wide, wide}, 0, wide-1, false)
	c := of("- 1000 / -1000 -")
	checkCheck(t, c, []int{1, 0}, []int{wide, wide - 1000<<30}, 0, 1<<30, true)
	checkCheck(t, c, []int{1, 0}, []int{wide, wide - 1000<<30 - 1}, 0, 1<<30, false)
	checkCheck(t, c, []int{0, 1}, []int{wide, wide - 1000<<30 + 1}, 0, 1<<30, false)
}

// The errors of Check: ErrArg if the matrix is not small, whatever the rest is,
// and for nothing else.
func TestCheckErrors(t *testing.T) {
	for _, a := range invalid() {
		for _, c := range [][]int{nil, {0}} {
			if ok, e := cycle.Check(a, c, make([]int, len(a)), 0, 1); ok || e != api.ErrArg {
				t.Error(a, c, ok, e)
			}
			if ok, e := cycle.Check(a, c, nil, 1<<50, -1); ok || e != api.ErrArg {
				t.Error(a, c, ok, e)
			}
		}
	}
	for _, a := range listed() {
		checkCheck(t, a, nil, nil, 1<<50, -1, false)
		checkCheck(t, a, []int{-1, 1 << 50}, []int{1 << 50}, math.MinInt, math.MaxInt, false)
	}
}

// P4.8: Check accepts what Critical, Potential and Mean return; and if it accepts
// anything, the fraction is the mean.
func TestDuality(t *testing.T) {
	for _, a := range samples() {
		num, den, e := cycle.Mean(a)
		c, _ := cycle.Critical(a)
		v, _ := cycle.Potential(a)
		if e == api.OK {
			for k := range c {
				checkCheck(t, a, slices.Concat(c[k:], c[:k]), v, num, den, true)
			}
		}
	}
	tried := 0
	for _, a := range every([]int{api.Never, -1, 0, 1}) {
		num, den, _ := cycle.Mean(a)
		for _, x := range loops(a) {
			for low := -4; low <= 4; low++ {
				for n := -2; n <= 2; n++ {
					for d := 1; d <= 4; d++ {
						ok, e := cycle.Check(a, x.nodes, []int{low, 0}[:len(a)], n, d)
						if ok && n*den != num*d || e != api.OK {
							t.Error(a, x, low, n, d, num, den)
						}
						if ok {
							tried++
						}
					}
				}
			}
		}
	}
	if tried < 1000 {
		t.Error("few accepted", tried)
	}
}
