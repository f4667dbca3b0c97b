package cycle_test

import (
	"slices"
	"testing"

	"massecuite/api"
	"massecuite/cycle"
)

func checkEigen(t *testing.T, a [][]int, want []int, err api.Errno) {
	t.Helper()
	if x, e := cycle.Eigen(a); !slices.Equal(x, want) || e != err {
		t.Error("Eigen", a, x, e, "not", want, err)
	}
}

func checkCyclic(t *testing.T, a [][]int, want int, err api.Errno) {
	t.Helper()
	if n, e := cycle.Cyclic(a); n != want || e != err {
		t.Error("Cyclic", a, n, e, "not", want, err)
	}
}

func checkPeriod(t *testing.T, a [][]int, index, period int, err api.Errno) {
	t.Helper()
	if i, p, e := cycle.Period(a); i != index || p != period || e != err {
		t.Error("Period", a, i, p, e, "not", index, period, err)
	}
}

// P4.5, P4.6: what is not connected: nodes that reach no other one, or that none
// reaches, parts beside each other, and a single node without a cycle.
func TestNotConnected(t *testing.T) {
	list := [][][]int{apart, uphill, lonely, source, of("-"), of("- 1 / - -"), of("1 1 / - 1"), of("1 - / 1 1"),
		steps(6, "0 1 1 2 2 0 3 4 4 5 5 3", "1 1 1 1 1 1"),
		steps(6, "0 1 1 2 2 0 3 4 4 5 5 3 2 3", "1 1 1 1 1 1 1"),
		steps(6, "0 1 1 2 2 3 3 4 4 5", "1 1 1 1 1"),
		steps(6, "0 1 1 2 2 3 3 4 4 0 4 5", "1 1 1 1 1 1"),
		steps(6, "0 1 1 2 2 3 3 4 4 0 5 4", "1 1 1 1 1 1")}
	for n := 1; n <= 6; n++ {
		list = append(list, filled(n, api.Never))
		if n > 1 {
			list = append(list, unit(n))
		}
	}
	for _, a := range samples() {
		if !isConnected(a) {
			list = append(list, a)
		}
	}
	if len(list) < 300 {
		t.Error("few samples", len(list))
	}
	for _, a := range list {
		checkEigen(t, a, nil, api.ErrState)
		checkCyclic(t, a, 0, api.ErrState)
		checkPeriod(t, a, 0, 0, api.ErrState)
	}
}

// P4.5: the greatest sums to the least critical node, by trying all ways; and
// P4.9: they are an eigenvector.
func TestEigen(t *testing.T) {
	for _, a := range joinedSamples() {
		num, den, critical := measure(a)
		c := len(a)
		for _, x := range critical {
			c = min(c, x.nodes[0])
		}
		var want []int
		for _, line := range best(a, num, den) {
			want = append(want, line[c])
		}
		checkEigen(t, a, want, api.OK)
		checkEigenvector(t, a)
	}
	if n := len(joinedSamples()); n < 900 {
		t.Error("few samples", n)
	}
}

// checkEigenvector tests P4.9.
func checkEigenvector(t *testing.T, a [][]int) {
	t.Helper()
	num, den, _ := cycle.Mean(a)
	x, e := cycle.Eigen(a)
	if e != api.OK || len(x) != len(a) {
		t.Error(a, x, e)
		return
	}
	for i := range a {
		most := api.Never
		for j, w := range a[i] {
			if w != api.Never {
				most = max(most, den*w+x[j])
			}
		}
		if most != num+x[i] {
			t.Error("no eigenvector", a, x)
		}
	}
}

// P4.5: the least critical node need not be on the first critical cycle, and
// sums may be above 0.
func TestEigenEdges(t *testing.T) {
	checkEigen(t, swap, []int{0, -1}, api.OK)
	checkEigen(t, of("7"), []int{0}, api.OK)
	checkEigen(t, of("-1000"), []int{0}, api.OK)
	checkEigen(t, of("1 0 / 9 3"), []int{0, 9}, api.OK)
	// The mean is 9/2, on 0 1.
	checkEigen(t, of("- 0 - / 9 - 2 / 8 - -"), []int{0, 9, 7}, api.OK)
	// Critical are the loop at 2 and the cycle 0 1.
	a := of("- 1 -9 / 3 - -9 / 4 5 2")
	checkCritical(t, a, []int{2}, api.OK)
	checkEigen(t, a, []int{0, 1, 4}, api.OK)
	for n := 1; n <= 6; n++ {
		for _, x := range []int{-1000, 0, 1000} {
			checkEigen(t, filled(n, x), make([]int, n), api.OK)
		}
	}
}

// P4.6: the cyclicity of all connected samples, by the classes of their critical
// nodes.
func TestCyclic(t *testing.T) {
	var seen [7]int
	for _, a := range joinedSamples() {
		want := cyclicity(a)
		checkCyclic(t, a, want, api.OK)
		seen[want]++
	}
	for c := 1; c <= 6; c++ {
		if seen[c] < 5 {
			t.Error("few samples of the cyclicity", c, seen)
		}
	}
}

// P4.6: one class or several, whose cycles have common divisors or none.
func TestCyclicEdges(t *testing.T) {
	checkCyclic(t, swap, 2, api.OK)
	checkCyclic(t, halves, 2, api.OK)
	checkCyclic(t, turn3, 3, api.OK)
	checkCyclic(t, coprime, 6, api.OK)
	checkCyclic(t, three, 6, api.OK)
	checkCyclic(t, even, 2, api.OK)
	checkCyclic(t, mixed, 1, api.OK)
	checkCyclic(t, of("0"), 1, api.OK)
	// Cycles of 5 and 6 nodes in one class; the first node is on both.
	checkCyclic(t, steps(6, "0 1 1 2 2 3 3 4 4 0 4 5 5 0", "1 1 1 1 1 1 1"), 1, api.OK)
	// Cycles of 6 and 4, and of 6 and 3 nodes.
	checkCyclic(t, steps(6, "0 1 1 2 2 3 3 4 4 5 5 0 3 0", "0 0 0 0 0 0 0"), 2, api.OK)
	checkCyclic(t, steps(6, "0 1 1 2 2 3 3 4 4 5 5 0 2 0", "0 0 0 0 0 0 0"), 3, api.OK)
	// 4 and 2 nodes in two classes, and 1 and 5.
	checkCyclic(t, steps(6, "0 1 1 2 2 3 3 0 4 5 5 4 0 4 4 0", "0 0 0 0 0 0 -1 -1"), 4, api.OK)
	checkCyclic(t, steps(6, "0 1 1 2 2 3 3 4 4 0 5 5 0 5 5 0", "0 0 0 0 0 0 -1 -1"), 5, api.OK)
	// Far ends of one class: 2 nodes at one, 3 at the other, and a way between.
	checkCyclic(t, steps(6, "0 1 1 0 1 2 2 3 3 1 3 4 4 5 5 3", "0 0 0 0 0 0 0 0"), 1, api.OK)
	for n := 1; n <= 6; n++ {
		a := filled(n, api.Never)
		for i := range n {
			a[i][(i+1)%n] = 3*i - 7
		}
		checkCyclic(t, a, n, api.OK)
	}
}

// P4.6: index and period of all connected samples, by trying all.
func TestPeriod(t *testing.T) {
	large := 0
	for _, a := range joinedSamples() {
		index, period, ok := period(a)
		err := api.OK
		if !ok {
			err = api.ErrSize
			large++
		}
		checkPeriod(t, a, index, period, err)
	}
	if large < 5 {
		t.Error("few large samples", large)
	}
}

// P4.6: index and period just 400 together, or 401, also where the index alone
// is less; numbers at their limits; the mean times the period is whole.
func TestPeriodEdges(t *testing.T) {
	checkPeriod(t, swap, 1, 2, api.OK)
	checkPeriod(t, of("1000"), 1, 1, api.OK)
	checkPeriod(t, slow(1, -995), 399, 1, api.OK)
	checkPeriod(t, slow(1, -996), 0, 0, api.ErrSize)
	checkPeriod(t, slow(1, -1000), 0, 0, api.ErrSize)
	checkPeriod(t, slow(2, -990), 398, 2, api.OK)
	checkPeriod(t, slow(2, -991), 0, 0, api.ErrSize)
	checkPeriod(t, slow(3, -975), 395, 3, api.OK)
	checkPeriod(t, slow(3, -976), 0, 0, api.ErrSize)
	checkPeriod(t, slow(4, -970), 394, 4, api.OK)
	checkPeriod(t, slow(5, -960), 392, 5, api.OK)
	checkPeriod(t, of("999 -1000 / -1000 1000"), 0, 0, api.ErrSize)
	checkPeriod(t, of("1000 -1000 / -1000 1000"), 1, 1, api.OK)
	for n := 1; n <= 6; n++ {
		for _, x := range []int{-1000, 0, 1000} {
			checkPeriod(t, filled(n, x), 1, 1, api.OK)
		}
		a := filled(n, api.Never)
		for i := range n {
			a[i][(i+1)%n] = 5*i - 7
		}
		checkPeriod(t, a, 1, n, api.OK)
	}
	checkCyclic(t, slow(5, -1000), 5, api.OK)
	checkEigen(t, slow(1, -1000), []int{0, -1000}, api.OK)
}

// P4.10: the period is the cyclicity, and all powers from the index on repeat
// with it, but not the one before.
func TestCyclicity(t *testing.T) {
	for i, a := range joinedSamples() {
		index, period, e := cycle.Period(a)
		if e != api.OK {
			continue
		}
		if c, e := cycle.Cyclic(a); c != period || e != api.OK {
			t.Error(a, c, e, "not", period)
		}
		num, den, _ := cycle.Mean(a)
		if period*num%den != 0 {
			t.Error("not whole", a, period, num, den)
		}
		for _, k := range []int{index, index + 1, index + 2, index + period, index + i, 1000 - period} {
			k = min(k, 1000-period)
			early, _ := cycle.Power(a, k)
			late, _ := cycle.Power(a, k+period)
			if !repeats(late, early, period, num, den) {
				t.Error("does not repeat", a, k, period)
			}
		}
		if index == 1 {
			continue
		}
		early, _ := cycle.Power(a, index-1)
		late, _ := cycle.Power(a, index-1+period)
		if repeats(late, early, period, num, den) {
			t.Error("repeats before", a, index, period)
		}
	}
}
