package zone_test

import (
	"math"
	"math/rand"
	"slices"
	"testing"

	"massecuite/api"
	"massecuite/zone"
)

// wanted is the error of a function whose result is want, nil if there is none.
func wanted[T any](want []T) api.Errno {
	if want == nil {
		return api.ErrNone
	}
	return api.OK
}

func checkTight(t *testing.T, z, want [][]int) {
	t.Helper()
	if got, e := zone.Tight(z); !equal(got, want) || e != wanted(want) {
		t.Error("Tight", z, got, e, "not", want)
	}
}

func checkPoint(t *testing.T, z [][]int, want []int) {
	t.Helper()
	if got, e := zone.Point(z); !slices.Equal(got, want) || e != wanted(want) {
		t.Error("Point", z, got, e, "not", want)
	}
}

func checkHas(t *testing.T, z [][]int, p []int, want bool, err api.Errno) {
	t.Helper()
	if got, e := zone.Has(z, p); got != want || e != err {
		t.Error("Has", z, p, got, e, "not", want, err)
	}
}

func checkRefute(t *testing.T, z [][]int, l []int, want bool) {
	t.Helper()
	if got, e := zone.CheckRefute(z, l); got != want || e != api.OK {
		t.Error("CheckRefute", z, l, got, e, "not", want)
	}
}

// Example 1: a clock that is at most 3.
func TestExample1(t *testing.T) {
	z := [][]int{{none, none}, {7, none}}
	checkTight(t, z, [][]int{{1, 1}, {7, 1}})
	checkHas(t, z, []int{12}, true, api.OK)
	checkHas(t, z, []int{13}, false, api.OK)
	checkPoint(t, z, []int{0})
}

// Example 2: clock 1 less than clock 2, which is at most 1.
func TestExample2(t *testing.T) {
	z := [][]int{{none, none, none}, {none, none, 0}, {3, none, none}}
	checkTight(t, z, [][]int{{1, 1, 0}, {2, 1, 0}, {3, 3, 1}})
	checkPoint(t, z, []int{0, 1})
}

// Example 3: a clock below 1 and at least 2.
func TestExample3(t *testing.T) {
	z := [][]int{{none, -3}, {2, none}}
	checkTight(t, z, nil)
	l, e := zone.Refute(z)
	if e != api.OK || !slices.Equal(l, []int{0, 1}) && !slices.Equal(l, []int{1, 0}) {
		t.Error(l, e)
	}
	checkRefute(t, z, []int{0, 1}, true)
	checkRefute(t, z, []int{1, 0}, true)
	checkPoint(t, z, nil)
}

// Terms: the number of None, which all the tests use by its name.
func TestNone(t *testing.T) {
	if none != 1<<40 {
		t.Error(none)
	}
}

// P5.1: zones of None only, bounds at -1000 and 1000, strict and weak bounds of
// the same number, and elements (0, i) and (i, i) that are stricter than 1.
func TestTightEdges(t *testing.T) {
	checkTight(t, filled(1, none), of("0 0 / - 0"))
	checkTight(t, filled(2, none), of("0 0 0 / - 0 - / - - 0"))
	checkTight(t, filled(3, none), of("0 0 0 0 / - 0 - - / - - 0 - / - - - 0"))
	checkTight(t, of("- - / 1000 -"), of("0 0 / 1000 0"))
	checkTight(t, of("- - / <1000 -"), of("0 0 / <1000 0"))
	checkTight(t, of("- -1000 / 1000 -"), of("0 -1000 / 1000 0"))
	checkTight(t, of("- -1000 / <1000 -"), nil)
	checkTight(t, of("- <-1000 / 1000 -"), nil)
	checkTight(t, of("- <-1000 / - -"), of("0 <-1000 / - 0"))
	checkTight(t, of("- 1000 / 0 -"), of("0 0 / 0 0"))
	checkTight(t, of("- <1000 / <0 -"), nil)
	checkTight(t, of("- <0 / - -"), of("0 <0 / - 0"))
	checkTight(t, of("- <0 / 0 -"), nil)
	checkTight(t, of("- <0 / <1 -"), of("0 <0 / <1 0"))
	// Elements in the diagonal: 0 is within at most 0 and below 1, but not below 0.
	for at := range 3 {
		z := of("0 0 0 / 5 0 5 / 5 5 0")
		for _, word := range []string{"-", "0", "<1", "1", "1000", "<1000"} {
			checkTight(t, changed(z, at, at, boundOf(word)), z)
		}
		for _, word := range []string{"<0", "-1", "<-1", "-1000", "<-1000"} {
			bad := changed(z, at, at, boundOf(word))
			checkTight(t, bad, nil)
			checkRefute(t, bad, []int{at}, true)
			checkRefute(t, bad, []int{(at + 1) % 3}, false)
		}
	}
	// Bounds that follow from others, strict where one of these is.
	checkTight(t, of("- - - / - - 2 / 3 - -"), of("0 0 0 / 5 0 2 / 3 3 0"))
	checkTight(t, of("- - - / - - <2 / 3 - -"), of("0 0 0 / <5 0 <2 / 3 3 0"))
	checkTight(t, of("- - - / - - 2 / <3 - -"), of("0 0 0 / <5 0 2 / <3 <3 0"))
	checkTight(t, of("- - - / 5 - 2 / <3 - -"), of("0 0 0 / <5 0 2 / <3 <3 0"))
	checkTight(t, of("- - - / <5 - 2 / 3 - -"), of("0 0 0 / <5 0 2 / 3 3 0"))
	checkTight(t, of("- - - / 4 - 2 / 3 - -"), of("0 0 0 / 4 0 2 / 3 3 0"))
}

// P5.1: tight zones with bounds beyond -1000 and 1000, which are not valid.
func TestTightBeyond(t *testing.T) {
	far := of("- - - - / 1000 - - - / - 1000 - - / - - <1000 -")
	checkTight(t, far, of("0 0 0 0 / 1000 0 1000 1000 / 2000 1000 0 2000 / <3000 <2000 <1000 0"))
	late := of("- -1000 - - / - - <-1000 - / - - - -1000 / - - - -")
	checkTight(t, late, of("0 -1000 <-2000 <-3000 / - 0 <-1000 <-2000 / - - 0 -1000 / - - - 0"))
	checkPoint(t, late, []int{4000, 8001, 12001})
	for _, z := range [][][]int{far, late} {
		x, _ := zone.Tight(z)
		if y, e := zone.Tight(x); len(y) > 0 || e != api.ErrArg {
			t.Error(x, y, e)
		}
	}
	one := of("- - - / 1000 - - / - 1 -")
	checkTight(t, one, of("0 0 0 / 1000 0 1000 / 1001 1 0"))
	_, e := zone.Delay(of("0 0 0 / 1000 0 1000 / 1001 1 0"))
	if e != api.ErrArg {
		t.Error(e)
	}
}

// P5.1, P5.3: the tight zones, proofs and first points of all samples by the
// ways and the cycles of their limits.
func TestZones(t *testing.T) {
	empty, beyond := 0, 0
	for _, z := range zones() {
		want := tight(z)
		checkTight(t, z, want)
		checkPoint(t, z, first(z))
		if want == nil {
			empty++
		} else if !isValid(want) {
			beyond++
		}
	}
	if full := len(zones()) - empty; empty < 3000 || full < 3000 || beyond < 100 {
		t.Error("few samples", empty, full, beyond)
	}
}

// P5.1, P5.3: the tight zones and the first points of small zones by their
// points. In quarters, ways of up to 3 differences that are below a number come
// within 3 quarters of it.
func TestPoints(t *testing.T) {
	checkGrid(t, small(), 2, 76, 9)
	checkGrid(t, tiny(), 3, 32, 3)
}

// checkGrid tests this for zones of at most n clocks, by all points up to top. No
// difference with a bound is above most.
func checkGrid(t *testing.T, list [][][]int, n, top, most int) {
	points := make([][][]int, n+1)
	for k := 1; k <= n; k++ {
		points[k] = grid(k, top)
	}
	for k, z := range list {
		if len(z) == 2 && k%7 > 0 || len(z) == 3 && k%3 > 0 {
			continue
		}
		var inside [][]int
		for _, p := range points[len(z)-1] {
			if has(z, p, 4) {
				inside = append(inside, p)
			}
		}
		if len(inside) == 0 {
			checkTight(t, z, nil)
			checkPoint(t, z, nil)
			continue
		}
		checkPoint(t, z, inside[0])
		checkTight(t, z, bounding(inside, most))
	}
}

// bounding returns the strictest bounds that points in quarters are within.
func bounding(points [][]int, most int) [][]int {
	z := filled(len(points[0]), 0)
	for i := range z {
		for j := range z {
			greatest := math.MinInt
			for _, p := range points {
				v := [4]int{}
				copy(v[1:], p)
				greatest = max(greatest, v[i]-v[j])
			}
			c := int(math.Ceil(float64(greatest) / 4))
			if c > most {
				z[i][j] = none
			} else {
				z[i][j] = limit{num: c, open: greatest < 4*c}.bound()
			}
		}
	}
	return z
}

// P5.6: just one of Tight and Refute is OK; CheckRefute accepts what Refute
// returns, and all other proofs, and nothing else.
func TestRefute(t *testing.T) {
	for _, z := range zones() {
		m := meant(z, 1)
		l, e := zone.Refute(z)
		_, e2 := zone.Tight(z)
		if e == api.OK && (e2 != api.ErrNone || !m.proves(l)) || e != api.OK && (e != api.ErrNone || e2 != api.OK || len(l) > 0) {
			t.Error("Refute", z, l, e, e2)
		}
		checkRefute(t, z, l, e == api.OK)
		for _, l := range orders(len(z)) {
			checkRefute(t, z, l, m.proves(l))
		}
	}
}

// P5.1: what is no proof: no clocks, the same clock twice, and numbers that are
// no clocks, also where all differences are below 0.
func TestCheckRefuteEdges(t *testing.T) {
	for n := 1; n <= 3; n++ {
		z := filled(n, -2000)
		for _, l := range [][]int{nil, {}, {0, 0}, {n, n}, {0, 1, 0}, {1, 0, 0}, {0, 1, 1}, {-1}, {0, -1}, {-1, 0}, {n + 1}, {0, n + 1}, {n + 1, 0},
			{64}, {0, 64}, {math.MaxInt}, {math.MinInt}, {0, math.MaxInt}, {math.MinInt, 0}, {1 << 32}, make([]int, 100000), {0, 1, 2, 3, 4}} {
			checkRefute(t, z, l, false)
		}
		for _, l := range orders(n + 1) {
			checkRefute(t, z, l, true)
			checkRefute(t, z, append(slices.Clone(l), l[0]), false)
			checkRefute(t, filled(n, none), l, false)
			checkRefute(t, filled(n, 1), l, false)
			checkRefute(t, filled(n, 0), l, true)
		}
	}
	// (0, i) counts as at most 0: the clock would be at most -1.
	checkRefute(t, of("- - / -1 -"), []int{0, 1}, true)
	checkRefute(t, of("- 1000 / -1 -"), []int{1, 0}, true)
	checkRefute(t, of("- 1000 / <0 -"), []int{1, 0}, true)
	checkRefute(t, of("- 1000 / 0 -"), []int{1, 0}, false)
	checkRefute(t, of("- - / -1 -"), []int{1}, false)
	// The direction of the cycle counts.
	turn := of("- - - - / - - -1 - / - - - -1 / - 1 - -")
	checkRefute(t, turn, []int{1, 2, 3}, true)
	checkRefute(t, turn, []int{3, 1, 2}, true)
	checkRefute(t, turn, []int{3, 2, 1}, false)
	checkRefute(t, turn, []int{1, 2}, false)
}

// P5.5: zones with the same points have the same tight zone, and others have
// not.
func TestCanonical(t *testing.T) {
	points := [][][]int{nil, grid(1, 40), grid(2, 40)}
	results, contents := map[string]string{}, map[string]string{}
	for _, z := range small() {
		var inside []byte
		for _, p := range points[len(z)-1] {
			inside = append(inside, '0')
			if has(z, p, 4) {
				inside[len(inside)-1] = '1'
			}
		}
		result := text(tight2(t, z))
		if old, ok := results[string(inside)]; ok && old != result {
			t.Error("differs", z, result, old)
		}
		if old, ok := contents[result]; ok && old != string(inside) {
			t.Error("the same", z, result)
		}
		results[string(inside)], contents[result] = result, string(inside)
	}
	if len(results) < 300 {
		t.Error("few samples", len(results))
	}
}

// tight2 returns the tight zone by Tight; that without points of so many clocks
// if there is none.
func tight2(t *testing.T, z [][]int) [][]int {
	x, e := zone.Tight(z)
	if e == api.ErrNone {
		return filled(len(z)-1, 0)
	}
	if e != api.OK {
		t.Error(z, e)
	}
	return x
}

// P5.5: Tight of Tight is Tight, where it is valid, and bounds that follow from
// others make no difference.
func TestTightAgain(t *testing.T) {
	r := rand.New(rand.NewSource(8))
	for _, z := range zones() {
		want := tight(z)
		if want == nil {
			continue
		}
		if isValid(want) {
			checkTight(t, want, want)
		}
		i, j := r.Intn(len(z)), r.Intn(len(z))
		if b := want[i][j]; b >= -2000 && (b <= 2001 || b == none) {
			checkTight(t, changed(z, i, j, b), want)
		}
		rest := tight(changed(z, i, j, none))
		if b := want[i][j]; rest != nil && rest[i][j] == b {
			checkTight(t, changed(z, i, j, none), want)
		}
	}
}
