package zone_test

import (
	"math/rand"
	"slices"
	"testing"

	"massecuite/api"
	"massecuite/zone"
)

func checkAnd(t *testing.T, z [][]int, g zone.Guard, want [][]int) {
	t.Helper()
	if got, e := zone.And(z, g); !equal(got, want) || e != wanted(want) {
		t.Error("And", z, g, got, e, "not", want)
	}
}

func checkDelay(t *testing.T, z, want [][]int) {
	t.Helper()
	if got, e := zone.Delay(z); !equal(got, want) || e != wanted(want) {
		t.Error("Delay", z, got, e, "not", want)
	}
}

func checkReset(t *testing.T, z [][]int, set int, want [][]int) {
	t.Helper()
	if got, e := zone.Reset(z, set); !equal(got, want) || e != wanted(want) {
		t.Error("Reset", z, set, got, e, "not", want)
	}
}

func checkIncludes(t *testing.T, z, w [][]int, want bool) {
	t.Helper()
	if got, e := zone.Includes(z, w); got != want || e != api.OK {
		t.Error("Includes", z, w, got, e, "not", want)
	}
}

// anded is z with the points at which g holds, not tight.
func anded(z [][]int, g zone.Guard) [][]int {
	return changed(z, g.I, g.J, stricter(meaning(z[g.I][g.J]), meaning(g.Bound)).bound())
}

// P5.2: the results of all samples by the ways of their limits.
func TestOperations(t *testing.T) {
	r := rand.New(rand.NewSource(9))
	for _, z := range zones() {
		n := len(z) - 1
		checkDelay(t, z, delayed(z))
		for set := 0; set < 2<<n; set += 2 {
			checkReset(t, z, set, resetted(z, set))
		}
		for range 4 {
			b := r.Intn(20) - 10
			if r.Intn(3) == 0 {
				b = r.Intn(4002) - 2000
			}
			g := zone.Guard{I: r.Intn(n + 1), J: r.Intn(n + 1), Bound: b}
			checkAnd(t, z, g, tight(anded(z, g)))
		}
	}
}

// P5.2: guards of all clocks, also of one clock with itself and of clock 0 with
// itself, with strict and weak bounds of the same number, and with None.
func TestAndEdges(t *testing.T) {
	all := of("0 0 0 / - 0 - / - - 0")
	for n := 1; n <= 3; n++ {
		free := tight(filled(n, none))
		for i := range n + 1 {
			for j := range n + 1 {
				checkAnd(t, filled(n, none), zone.Guard{I: i, J: j, Bound: none}, free)
				for _, word := range []string{"0", "<1", "1", "1000", "<1000", "<0", "-1", "-1000", "<-1000"} {
					b := boundOf(word)
					g := zone.Guard{I: i, J: j, Bound: b}
					checkAnd(t, filled(n, none), g, tight(changed(filled(n, none), i, j, b)))
					if i == j && b < 1 {
						checkAnd(t, filled(n, none), g, nil)
					} else if i == j {
						checkAnd(t, filled(n, none), g, free)
					}
				}
			}
		}
	}
	checkAnd(t, all, zone.Guard{I: 1, Bound: boundOf("3")}, of("0 0 0 / 3 0 3 / - - 0"))
	checkAnd(t, all, zone.Guard{I: 1, Bound: boundOf("<3")}, of("0 0 0 / <3 0 <3 / - - 0"))
	checkAnd(t, all, zone.Guard{J: 1, Bound: boundOf("-3")}, of("0 -3 0 / - 0 - / - - 0"))
	checkAnd(t, all, zone.Guard{I: 1, J: 2, Bound: boundOf("<-3")}, of("0 0 <-3 / - 0 <-3 / - - 0"))
	checkAnd(t, of("- - / 3 -"), zone.Guard{J: 1, Bound: boundOf("-3")}, of("0 -3 / 3 0"))
	checkAnd(t, of("- - / <3 -"), zone.Guard{J: 1, Bound: boundOf("-3")}, nil)
	checkAnd(t, of("- - / 3 -"), zone.Guard{J: 1, Bound: boundOf("<-3")}, nil)
	// A guard that is weaker than what holds already, and an empty zone.
	checkAnd(t, of("- - / 3 -"), zone.Guard{I: 1, Bound: boundOf("4")}, of("0 0 / 3 0"))
	checkAnd(t, of("- - / -1 -"), zone.Guard{I: 1, Bound: none}, nil)
	// The result may be beyond -1000 and 1000.
	checkAnd(t, of("- - - / 1000 - - / - - -"), zone.Guard{I: 2, J: 1, Bound: boundOf("<1000")}, of("0 0 0 / 1000 0 1000 / <2000 <1000 0"))
}

// P5.2: Delay of single points, of empty zones, and of what has no upper bounds.
func TestDelayEdges(t *testing.T) {
	checkDelay(t, of("- -5 / 5 -"), of("0 -5 / - 0"))
	checkDelay(t, of("- -5 / <5 -"), nil)
	checkDelay(t, of("- <-5 / 6 -"), of("0 <-5 / - 0"))
	checkDelay(t, of("0 0 / 0 0"), of("0 0 / - 0"))
	checkDelay(t, of("- -1 -3 / 1 - - / 3 - -"), of("0 -1 -3 / - 0 -2 / - 2 0"))
	checkDelay(t, of("0 0 0 0 / 0 0 0 0 / 0 0 0 0 / 0 0 0 0"), of("0 0 0 0 / - 0 0 0 / - 0 0 0 / - 0 0 0"))
	checkDelay(t, of("- - - / <2 - - / - - -"), of("0 0 0 / - 0 <2 / - - 0"))
	checkDelay(t, of("- - -1000 / 1000 - - / 1000 - -"), of("0 0 -1000 / - 0 0 / - 1000 0"))
	checkDelay(t, filled(3, none), tight(filled(3, none)))
	checkDelay(t, filled(3, 0), nil)
}

// P5.2: Reset of no clock, of one, of several and of all, and of empty zones.
func TestResetEdges(t *testing.T) {
	z := of("- -2 <-5 / 3 - - / <9 - -")
	checkReset(t, z, 0, of("0 -2 <-5 / 3 0 <-2 / <9 <7 0"))
	checkReset(t, z, 2, of("0 0 <-5 / 0 0 <-5 / <9 <9 0"))
	checkReset(t, z, 4, of("0 -2 0 / 3 0 3 / 0 -2 0"))
	checkReset(t, z, 6, of("0 0 0 / 0 0 0 / 0 0 0"))
	for n := 1; n <= 3; n++ {
		all := 2<<n - 2
		checkReset(t, filled(n, none), all, filled(n, 1))
		checkReset(t, filled(n, none), 0, tight(filled(n, none)))
		for set := 0; set <= all; set += 2 {
			checkReset(t, filled(n, 0), set, nil)
			checkReset(t, changed(filled(n, none), n, n, 0), set, nil)
			checkReset(t, filled(n, 1), set, filled(n, 1))
		}
	}
	checkReset(t, of("- - - - / - - - - / - - - - / - - - -"), 10, of("0 0 0 0 / 0 0 0 0 / - - 0 - / 0 0 0 0"))
}

// P5.7: the points in quarters of And, Delay and Reset are those that come from
// points of the zone; in Reset also where the clocks were no quarters before.
func TestOperationPoints(t *testing.T) {
	r := rand.New(rand.NewSource(10))
	grids := [][][]int{nil, grid(1, 60), grid(2, 18), grid(3, 7)}
	for k, z := range slices.Concat(small(), tiny()) {
		if len(z) == 2 && k%20 > 0 || len(z) == 3 && k%8 > 0 || len(z) == 4 && k%2 > 0 {
			continue
		}
		n := len(z) - 1
		g := zone.Guard{I: r.Intn(n + 1), J: r.Intn(n + 1), Bound: r.Intn(14) - 7}
		set := 2 * r.Intn(1<<n)
		and, _ := zone.And(z, g)
		delay, _ := zone.Delay(z)
		reset, _ := zone.Reset(z, set)
		for _, p := range grids[n] {
			v := append([]int{0}, p...)
			checkIn(t, and, p, has(z, p, 4) && meaning(g.Bound).has(v[g.I]-v[g.J], 4))
			checkIn(t, delay, p, comesByWaiting(z, p))
			checkIn(t, reset, p, comesByReset(z, p, set))
		}
	}
}

// checkIn tests whether a point is in a result, nil if there is none. It may be no
// valid zone.
func checkIn(t *testing.T, z [][]int, p []int, want bool) {
	t.Helper()
	if z != nil && isValid(z) {
		checkHas(t, z, p, want, api.OK)
	} else if got := z != nil && has(z, p, 4); got != want {
		t.Error(z, p, got, "not", want)
	}
}

// comesByWaiting reports whether p, in quarters, comes from a point of z.
func comesByWaiting(z [][]int, p []int) bool {
	m := meant(z, 4)
	for i, x := range p {
		m[i+1][0] = stricter(m[i+1][0], limit{num: x})
		for j, y := range p {
			m[i+1][j+1] = stricter(m[i+1][j+1], limit{num: x - y})
		}
	}
	return !m.empty()
}

// comesByReset reports whether p, in quarters, is a point of z with the clocks of
// a set 0.
func comesByReset(z [][]int, p []int, set int) bool {
	m := meant(z, 4)
	for i, x := range p {
		c := i + 1
		if set>>c&1 == 0 {
			m[c][0] = stricter(m[c][0], limit{num: x})
			m[0][c] = stricter(m[0][c], limit{num: -x})
		} else if x != 0 {
			return false
		}
	}
	return !m.empty()
}

// P5.7: what a point of z becomes.
func TestPointsMove(t *testing.T) {
	r := rand.New(rand.NewSource(11))
	moved := 0
	for _, z := range zones() {
		p, e := zone.Point(z)
		if e != api.OK {
			continue
		}
		n := len(p)
		for range 3 { // another point of z, if there is one near
			q := slices.Clone(p)
			for i := range q {
				q[i] += r.Intn(5)
			}
			if has(z, q, 4) {
				p = q
			}
		}
		checkHas(t, z, p, true, api.OK)
		delay, _ := zone.Delay(z)
		set := 2 * r.Intn(1<<n)
		reset, _ := zone.Reset(z, set)
		later, zero := slices.Clone(p), slices.Clone(p)
		time := r.Intn(3000)
		for i := range p {
			later[i] += time
			if set>>(i+1)&1 == 1 {
				zero[i] = 0
			}
		}
		checkIn(t, delay, p, true)
		checkIn(t, delay, later, true)
		checkIn(t, reset, zero, true)
		g := zone.Guard{I: r.Intn(n + 1), J: r.Intn(n + 1)}
		v := append([]int{0}, p...)
		g.Bound = max(-2000, min(2001, (v[g.I]-v[g.J])/2+r.Intn(4)-2))
		and, _ := zone.And(z, g)
		checkIn(t, and, p, meaning(g.Bound).has(v[g.I]-v[g.J], 4))
		moved++
	}
	if moved < 3000 {
		t.Error("few samples", moved)
	}
}

// included reports whether z has all points of w: whether w has none beyond one
// of the limits of z.
func included(z, w [][]int) bool {
	for i := range z {
		for j, b := range z[i] {
			l := meaning(b)
			if l.all {
				continue
			}
			m := meant(w, 1)
			m[j][i] = stricter(m[j][i], limit{num: -l.num, open: !l.open})
			if !m.empty() {
				return false
			}
		}
	}
	return true
}

// P5.3: Includes of samples, by the points beyond the limits.
func TestIncludes(t *testing.T) {
	r := rand.New(rand.NewSource(12))
	lists := map[int][][][]int{}
	for _, z := range zones() {
		lists[len(z)] = append(lists[len(z)], z)
	}
	yes, no := 0, 0
	for _, z := range zones() {
		same := lists[len(z)]
		i, j := r.Intn(len(z)), r.Intn(len(z))
		for _, w := range [][][]int{z, same[r.Intn(len(same))], changed(z, i, j, max(-2000, min(z[i][j], 2001)-r.Intn(3))), changed(z, i, j, none), filled(len(z)-1, none)} {
			a, b := included(z, w), included(w, z)
			checkIncludes(t, z, w, a)
			checkIncludes(t, w, z, b)
			if len(tight(w)) > 0 && a {
				yes++
			} else if !a {
				no++
			}
		}
	}
	if yes < 3000 || no < 3000 {
		t.Error("few samples", yes, no)
	}
}

// P5.3: Includes of empty zones, of what is written in other ways, and of strict
// and weak bounds of the same number.
func TestIncludesEdges(t *testing.T) {
	for n := 1; n <= 3; n++ {
		all, empty, zero := filled(n, none), filled(n, 0), filled(n, 1)
		checkIncludes(t, all, all, true)
		checkIncludes(t, all, empty, true)
		checkIncludes(t, empty, empty, true)
		checkIncludes(t, empty, all, false)
		checkIncludes(t, zero, empty, true)
		checkIncludes(t, empty, zero, false)
		checkIncludes(t, all, zero, true)
		checkIncludes(t, zero, all, false)
		checkIncludes(t, filled(n, 2), zero, true)
		checkIncludes(t, changed(all, n, n, 2), all, true)
		checkIncludes(t, changed(all, n, n, 0), all, false)
		checkIncludes(t, changed(all, 0, n, 2001), all, true)
		checkIncludes(t, changed(all, 0, n, 1), all, true)
		checkIncludes(t, changed(all, 0, n, 0), all, false)
	}
	checkIncludes(t, of("- - / 3 -"), of("- - / <3 -"), true)
	checkIncludes(t, of("- - / <3 -"), of("- - / 3 -"), false)
	checkIncludes(t, of("- - / <3 -"), of("- <-3 / 3 -"), true) // empty, not so easily seen
	checkIncludes(t, of("- - - / - - 5 / - - -"), of("- - - / - - 2 / 3 - -"), true)
	checkIncludes(t, of("- - - / 5 - - / - - -"), of("- - - / - - 2 / 3 - -"), true)
	checkIncludes(t, of("- - - / 4 - - / - - -"), of("- - - / - - 2 / 3 - -"), false)
	checkIncludes(t, of("- - - / <5 - - / - - -"), of("- - - / - - <2 / 3 - -"), true)
}

// P5.3: Has of all samples as it is defined, at and around the first point, and
// at points by chance.
func TestHas(t *testing.T) {
	r := rand.New(rand.NewSource(13))
	yes, no := 0, 0
	for _, z := range zones() {
		p := first(z)
		if p == nil {
			p = make([]int, len(z)-1)
		}
		for k := range 12 {
			q := slices.Clone(p)
			for i := range q {
				q[i] = min(20000, max(0, q[i]+r.Intn(9)-4))
				if k%4 == 0 {
					q[i] = r.Intn(20001)
				}
			}
			want := has(z, q, 4)
			checkHas(t, z, q, want, api.OK)
			if want {
				yes++
			} else {
				no++
			}
		}
	}
	if yes < 3000 || no < 3000 {
		t.Error("few samples", yes, no)
	}
}

// P5.3: points at 0 and 20,000, and what is no point: also where the zone is
// empty.
func TestHasEdges(t *testing.T) {
	for n := 1; n <= 3; n++ {
		all, empty := filled(n, none), filled(n, 0)
		for _, x := range []int{0, 1, 19999, 20000} {
			for i := range n {
				p := make([]int, n)
				p[i] = x
				checkHas(t, all, p, true, api.OK)
				checkHas(t, empty, p, false, api.OK)
			}
			checkHas(t, all, slices.Repeat([]int{x}, n), true, api.OK)
		}
		for _, x := range []int{-1, 20001, 1 << 32, -1 << 63, 1<<63 - 1, none} {
			for i := range n {
				p := make([]int, n)
				p[i] = x
				checkHas(t, all, p, false, api.ErrArg)
				checkHas(t, empty, p, false, api.ErrArg)
			}
		}
		for _, size := range []int{0, n - 1, n + 1, 100000} {
			checkHas(t, all, make([]int, size), false, api.ErrArg)
		}
		checkHas(t, all, nil, false, api.ErrArg)
	}
	// The limits of the bounds, strict and weak, in quarters.
	z := of("- <-999 - / 1000 - - / <1000 - -")
	checkHas(t, z, []int{3997, 3999}, true, api.OK)
	checkHas(t, z, []int{3996, 3999}, false, api.OK)
	checkHas(t, z, []int{4000, 3999}, true, api.OK)
	checkHas(t, z, []int{4001, 3999}, false, api.OK)
	checkHas(t, z, []int{4000, 4000}, false, api.OK)
	checkHas(t, of("- - - / - - <-1 / - - -"), []int{0, 4}, false, api.OK)
	checkHas(t, of("- - - / - - <-1 / - - -"), []int{0, 5}, true, api.OK)
	checkHas(t, of("- - - / - - <-1 / - - -"), []int{5, 0}, false, api.OK)
	checkHas(t, of("- - / - <0"), []int{3}, false, api.OK)
	checkHas(t, of("<0 - / - -"), []int{3}, false, api.OK)
}

// P5.3: the first points, also between whole numbers.
func TestPointEdges(t *testing.T) {
	for n := 1; n <= 3; n++ {
		checkPoint(t, filled(n, none), make([]int, n))
		checkPoint(t, filled(n, 0), nil)
	}
	checkPoint(t, of("- <0 / - -"), []int{1})
	checkPoint(t, of("- <0 / <1 -"), []int{1})
	checkPoint(t, of("- -1000 / 1000 -"), []int{4000})
	checkPoint(t, of("- <-1000 / - -"), []int{4001})
	// 0 < x < y < z < 1, and in the other order, there and between 2 and 3.
	checkPoint(t, of("- <0 - - / - - <0 - / - - - <0 / <1 - - -"), []int{1, 2, 3})
	checkPoint(t, of("- <0 - - / - - <0 - / - - - <0 / 0 - - -"), nil)
	checkPoint(t, of("- - - <0 / <1 - - - / - <0 - - / - - <0 -"), []int{3, 2, 1})
	checkPoint(t, of("- - - <-2 / <3 - - - / - <0 - - / - - <0 -"), []int{11, 10, 9})
	checkPoint(t, of("- - - / - - -1 / - - -"), []int{0, 4})
	checkPoint(t, of("- - - / - - - / - -1 -"), []int{4, 0})
}
