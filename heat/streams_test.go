package heat_test

import (
	"slices"
	"testing"

	"massecuite/api"
	"massecuite/heat"
)

func checkLevels(t *testing.T, l []stream, gap int, want ...int) {
	t.Helper()
	if x, e := heat.Levels(l, gap); !slices.Equal(x, want) || e != api.OK {
		t.Error("Levels", l, gap, x, e, "want", want)
	}
}

func checkCascade(t *testing.T, l []stream, gap, h int, want ...int) {
	t.Helper()
	if x, e := heat.Cascade(l, gap, h); !slices.Equal(x, want) || e != api.OK {
		t.Error("Cascade", l, gap, h, x, e, "want", want)
	}
}

func checkUtilities(t *testing.T, l []stream, gap, hot, cold int) {
	t.Helper()
	if h, c, e := heat.Utilities(l, gap); h != hot || c != cold || e != api.OK {
		t.Error("Utilities", l, gap, h, c, e, "want", hot, cold)
	}
}

func checkPinches(t *testing.T, l []stream, gap int, want ...int) {
	t.Helper()
	if x, e := heat.Pinches(l, gap); !slices.Equal(x, want) || e != api.OK {
		t.Error("Pinches", l, gap, x, e, "want", want)
	}
}

func checkBound(t *testing.T, l []stream, gap, at, want int) {
	t.Helper()
	if x, e := heat.Bound(l, gap, at); x != want || e != api.OK {
		t.Error("Bound", l, gap, at, x, e, "want", want)
	}
}

// The streams of examples 1 and 3.
var (
	two  = []stream{{150, 50, 2}, {20, 120, 3}}
	even = []stream{{100, 0, 1}, {0, 100, 1}}
)

// Examples 1 to 3.
func TestExamples(t *testing.T) {
	checkLevels(t, two, 10, 140, 120, 40, 20)
	checkCascade(t, two, 10, 0, 0, 40, -40, -100)
	checkCascade(t, two, 10, 100, 100, 140, 60, 0)
	checkUtilities(t, two, 10, 100, 0)
	checkPinches(t, two, 10)
	checkBound(t, two, 10, 20, 100)
	checkBound(t, two, 10, 40, 40)
	checkLevels(t, even, 0, 100, 0)
	checkUtilities(t, even, 0, 0, 0)
	checkPinches(t, even, 0)
	checkLevels(t, even, 10, 100, 90, 0, -10)
	checkCascade(t, even, 10, 0, 0, -10, -10, 0)
	checkCascade(t, even, 10, 10, 10, 0, 0, 10)
	checkUtilities(t, even, 10, 10, 10)
	checkPinches(t, even, 10, 90, 0)
}

// P7.1: one stream, between the greatest limits, and hot ones shifted below 0.
func TestOneStream(t *testing.T) {
	hottest, coldest := []stream{{200, 0, 20}}, []stream{{0, 200, 20}}
	checkLevels(t, hottest, 0, 200, 0)
	checkLevels(t, hottest, 20, 180, -20)
	checkLevels(t, coldest, 0, 200, 0)
	checkLevels(t, coldest, 20, 200, 0)
	checkCascade(t, hottest, 20, 0, 0, 4000)
	checkCascade(t, hottest, 0, 1_000_000, 1_000_000, 1_004_000)
	checkCascade(t, coldest, 20, 0, 0, -4000)
	checkCascade(t, coldest, 0, 1_000_000, 1_000_000, 996_000)
	checkUtilities(t, hottest, 20, 0, 4000)
	checkUtilities(t, coldest, 20, 4000, 0)
	checkPinches(t, hottest, 20)
	checkPinches(t, coldest, 20)
	for _, b := range [][2]int{{200, 0}, {199, 20}, {1, 3980}, {0, 4000}, {-20, 4000}} {
		checkBound(t, hottest, 20, b[0], 0)
		checkBound(t, coldest, 20, b[0], b[1])
	}
	least := []stream{{1, 0, 1}}
	checkLevels(t, least, 20, -19, -20)
	checkCascade(t, least, 20, 7, 7, 8)
}

// P7.1: streams that share levels have each once; those that touch are apart.
func TestSharedLevels(t *testing.T) {
	checkLevels(t, slices.Repeat(even, 4), 0, 100, 0)
	checkLevels(t, slices.Repeat(even, 4), 20, 100, 80, 0, -20)
	checkCascade(t, slices.Repeat(even, 4), 20, 80, 80, 0, 0, 80)
	// Shifted by 10, the hot ones have the levels of the cold one.
	l := []stream{{60, 40, 1}, {40, 10, 2}, {30, 50, 4}}
	checkLevels(t, l, 10, 50, 30, 0)
	checkCascade(t, l, 10, 60, 60, 0, 60)
	checkLevels(t, l, 0, 60, 50, 40, 30, 10)
	checkCascade(t, l, 0, 0, 0, 10, -20, -40, 0)
}

// P7.2: the pinches are where the cascade is 0, but for its ends.
func TestPinches(t *testing.T) {
	for _, c := range []struct {
		l         []stream
		gap       int
		hot, cold int
		want      []int
	}{
		{[]stream{{120, 80, 2}, {80, 120, 2}, {60, 20, 1}, {20, 60, 1}}, 0, 0, 0, []int{80, 60}},
		{[]stream{{120, 80, 2}, {80, 120, 2}, {60, 20, 1}, {20, 60, 1}}, 5, 10, 10, []int{115, 80}},
		{[]stream{{100, 90, 1}, {80, 90, 1}, {60, 50, 1}, {40, 50, 1}}, 0, 0, 0, []int{80, 60}},
		{[]stream{{150, 100, 1}, {80, 100, 2}, {50, 40, 1}}, 0, 0, 20, nil},
		{[]stream{{20, 40, 1}, {60, 80, 1}, {100, 120, 1}, {110, 90, 1}}, 0, 40, 0, nil},
		// 0 at the first level only, at the last one only, at both, at several.
		{[]stream{{100, 0, 2}, {0, 50, 1}}, 0, 0, 150, nil},
		{[]stream{{0, 100, 2}, {50, 0, 1}}, 0, 150, 0, nil},
		{[]stream{{100, 0, 1}, {0, 50, 2}}, 0, 0, 0, nil},
		{[]stream{{100, 80, 1}, {80, 60, 1}, {60, 100, 1}, {30, 10, 1}, {10, 50, 1}}, 0, 20, 0, []int{30}},
	} {
		checkUtilities(t, c.l, c.gap, c.hot, c.cold)
		checkPinches(t, c.l, c.gap, c.want...)
	}
}

// P7.1 to P7.3, as the chapter defines them.
func TestStreams(t *testing.T) {
	for _, s := range systems() {
		levels := levelsOf(s.l, s.gap)
		checkLevels(t, s.l, s.gap, levels...)
		for _, h := range []int{0, 1, 999, 1_000_000} {
			checkCascade(t, s.l, s.gap, h, cascadeOf(s.l, s.gap, h)...)
		}
		for at := -20; at <= 200; at++ {
			checkBound(t, s.l, s.gap, at, boundOf(s.l, s.gap, at))
		}
		h, c, e := heat.Utilities(s.l, s.gap)
		least := cascadeOf(s.l, s.gap, h)
		if !isLeast(s.l, s.gap, h) || c != least[len(least)-1] || e != api.OK {
			t.Error("Utilities", s, h, c, e)
		}
		var pinches []int
		for k, x := range least {
			if x == 0 && k > 0 && k < len(least)-1 {
				pinches = append(pinches, levels[k])
			}
		}
		checkPinches(t, s.l, s.gap, pinches...)
	}
}

// P7.6: the least hot utility is the greatest Bound, and that of some level.
// P7.7: the heat of all streams and utilities is balanced. P7.8: the Bound of a
// pinch is the least hot utility.
func TestDuality(t *testing.T) {
	bound := func(s system, at int) int {
		b, e := heat.Bound(s.l, s.gap, at)
		if e != api.OK {
			t.Fatal(s, at, e)
		}
		return b
	}
	pinched := 0
	for _, s := range systems() {
		hot, cold, _ := heat.Utilities(s.l, s.gap)
		greatest := 0
		for at := -20; at <= 200; at++ {
			greatest = max(greatest, bound(s, at))
		}
		levels, _ := heat.Levels(s.l, s.gap)
		if greatest != hot || !slices.ContainsFunc(levels, func(at int) bool { return bound(s, at) == hot }) {
			t.Error(s, hot, greatest)
		}
		balance := hot - cold
		for _, x := range s.l {
			balance += (x.In - x.Out) * x.Rate
		}
		if balance != 0 {
			t.Error(s, hot, cold, balance)
		}
		pinches, _ := heat.Pinches(s.l, s.gap)
		for _, at := range pinches {
			pinched++
			if bound(s, at) != hot {
				t.Error(s, at, hot)
			}
		}
	}
	if pinched < 100 {
		t.Error("too few pinches", pinched)
	}
}

// P7.9: with a greater gap the least hot utility does not decrease.
func TestGap(t *testing.T) {
	grown := 0
	for _, s := range systems() {
		before := 0
		for gap := 0; gap <= 20; gap++ {
			h, _, e := heat.Utilities(s.l, gap)
			if h < before || e != api.OK {
				t.Error(s.l, gap, h, before, e)
			}
			if gap > 0 && h > before {
				grown++
			}
			before = h
		}
	}
	if grown < 100 {
		t.Error("too few gaps that matter", grown)
	}
}
