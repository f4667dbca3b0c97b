package heat_test

import (
	"math"
	"math/rand"
	"slices"
	"testing"

	"massecuite/api"
	"massecuite/heat"
)

// checkServes tests that Check accepts p with a hot utility.
func checkServes(t *testing.T, l []stream, gap int, p []load, hot int) {
	t.Helper()
	if h, ok, e := heat.Check(l, gap, p); h != hot || !ok || e != api.OK {
		t.Error("Check", l, gap, p, h, ok, e, "want", hot)
	}
}

// checkFails tests that Check does not accept p.
func checkFails(t *testing.T, l []stream, gap int, p ...load) {
	t.Helper()
	if h, ok, e := heat.Check(l, gap, p); h != 0 || ok || e != api.OK {
		t.Error("Check", l, gap, p, h, ok, e)
	}
}

// P7.4: a plan serves the streams and has the least hot utility, as the chapter
// defines it and as Check says. P5: what the hot utility and the hot streams pass
// is what the cold streams and the cold utility get.
func TestPlan(t *testing.T) {
	for _, s := range systems() {
		p, e := heat.Plan(s.l, s.gap)
		h, ok := serves(s.l, s.gap, p)
		if !ok || e != api.OK || !isLeast(s.l, s.gap, h) {
			t.Error("Plan", s, p, h, ok, e)
		}
		checkServes(t, s.l, s.gap, p, h)
		_, cold, _ := heat.Utilities(s.l, s.gap)
		if sumOf(p, func(x load) bool { return x.Cold == -1 }) != cold {
			t.Error("cold utility", s, p, cold)
		}
	}
}

// P7.6: no plan that serves the streams has a lower hot utility, by trying all
// ways to give cold streams their heat, of which some have just the least.
func TestAllPlans(t *testing.T) {
	r := rand.New(rand.NewSource(8))
	for range 150 {
		l, gap := drawn(r, 1+r.Intn(4), 4, 1, 2, 0.6)
		gap %= 4
		least, _, _ := heat.Utilities(l, gap)
		lowest := math.MaxInt
		tried := 0
		everyPlan(l, gap, func(p []load) bool {
			h, ok := serves(l, gap, p)
			if !ok {
				t.Fatal("no plan", l, gap, p)
			}
			checkServes(t, l, gap, p, h)
			lowest = min(lowest, h)
			tried++
			return tried < 3000
		})
		if lowest < least || tried < 3000 && lowest > least {
			t.Error(l, gap, lowest, least)
		}
	}
}

// everyPlan calls visit with plans in which each cold stream gets its heat at
// each level from all sources in all ways, and the cold utility gets what is left
// at the last level; until visit says that these are enough.
func everyPlan(l []stream, gap int, visit func(p []load) bool) {
	wants := wanted(l, gap)
	levels := levelsOf(l, gap)
	lowest := levels[len(levels)-2]
	passed := make([]int, len(l)+1) // by the utility and each stream
	var p []load
	var walk func(k, source int) bool
	walk = func(k, source int) bool {
		if k == len(wants) {
			return visit(slices.Concat(p, rest(l, passed[1:], lowest)))
		}
		if source == len(l) {
			return wants[k].Heat > 0 || walk(k+1, -1)
		}
		most := wants[k].Heat
		if source >= 0 {
			most = min(most, given(l[source], gap, wants[k].Hot)-passed[source+1])
		}
		for x := range most + 1 {
			before := len(p)
			if x > 0 {
				p = append(p, load{source, wants[k].Cold, wants[k].Top, x})
			}
			wants[k].Heat -= x
			passed[source+1] += x
			more := walk(k, source+1)
			wants[k].Heat += x
			passed[source+1] -= x
			p = p[:before]
			if !more {
				return false
			}
		}
		return true
	}
	walk(0, -1)
}

// wanted returns what the cold streams want at each level, downward, as loads
// that have the level below their Top in place of Hot.
func wanted(l []stream, gap int) []load {
	var out []load
	levels := levelsOf(l, gap)
	for k := range len(levels) - 1 {
		for j, s := range l {
			if x := heatOf(s, gap, levels[k], levels[k+1]); x > 0 && !isHot(s) {
				out = append(out, load{levels[k+1], j, levels[k], x})
			}
		}
	}
	return out
}

// given returns the heat that s gives as a hot stream above a level.
func given(s stream, gap, lower int) int {
	if !isHot(s) {
		return 0
	}
	return heatOf(s, gap, 200, lower)
}

// rest returns loads at a level that pass what hot streams have left to the cold
// utility.
func rest(l []stream, passed []int, top int) []load {
	var out []load
	for i, s := range l {
		if x := wholeHeat(s) - passed[i]; isHot(s) && x > 0 {
			out = append(out, load{i, -1, top, x})
		}
	}
	return out
}

// drawnPlan returns a plan that serves the streams in small parts at random, and
// uses hot utility also where it need not.
func drawnPlan(r *rand.Rand, l []stream, gap int) []load {
	var p []load
	passed := make([]int, len(l))
	levels := levelsOf(l, gap)
	wants := wanted(l, gap)
	waste := []float64{0, 0.1, 0.7}[r.Intn(3)]
	for _, top := range levels[:len(levels)-1] {
		for _, w := range wants {
			for w.Top == top && w.Heat > 0 {
				i := r.Intn(len(l))
				x := min(w.Heat, given(l[i], gap, w.Hot)-passed[i])
				if r.Intn(8) == 0 || r.Float64() < waste {
					i, x = -1, w.Heat
				}
				if x > 0 && r.Intn(3) == 0 {
					x = 1 + r.Intn(x)
				}
				if x > 0 {
					p = append(p, load{i, w.Cold, top, x})
					w.Heat -= x
				}
				if x > 0 && i >= 0 {
					passed[i] += x
				}
			}
		}
	}
	for _, x := range rest(l, passed, levels[len(levels)-2]) {
		early := slices.IndexFunc(levels, func(t int) bool { return given(l[x.Hot], gap, t) == wholeHeat(l[x.Hot]) })
		x.Top = levels[min(len(levels)-2, early-1+r.Intn(3))]
		p = append(p, x)
	}
	r.Shuffle(len(p), func(i, j int) { p[i], p[j] = p[j], p[i] })
	return p
}

// changed returns a plan in which one or two loads are others.
func changed(r *rand.Rand, s system, p []load) []load {
	levels := levelsOf(s.l, s.gap)
	p = slices.Clone(p)
	k, m := r.Intn(len(p)), r.Intn(len(p))
	x := 1 + r.Intn(p[k].Heat)
	switch r.Intn(10) {
	case 0:
		p[k].Heat += r.Intn(3) - 1
	case 1:
		p[k].Top = levels[r.Intn(len(levels))]
	case 2:
		p[k].Top += r.Intn(5) - 2
	case 3:
		p[k].Hot = r.Intn(len(s.l)+3) - 2
	case 4:
		p[k].Cold = r.Intn(len(s.l)+3) - 2
	case 5:
		p = slices.Delete(p, k, k+1)
	case 6:
		p = append(p, p[k])
	case 7: // the same in two loads, or more or less of it
		p = append(p, p[k])
		p[k].Heat -= x
		p[len(p)-1].Heat = x
	case 8: // heat of two loads exchanged between their hot streams
		p[k].Hot, p[m].Hot = p[m].Hot, p[k].Hot
	case 9: // and a part of it
		x = min(x, p[m].Heat)
		a, b := p[k], p[m]
		a.Heat, b.Heat = x, x
		p[k].Heat -= x
		p[m].Heat -= x
		a.Hot, b.Hot = b.Hot, a.Hot
		p = slices.DeleteFunc(append(p, a, b), func(l load) bool { return l.Heat == 0 })
	}
	return p
}

// P7.4: Check on plans that serve the streams in other ways, and on such that do
// so nearly, as the chapter defines it. P7.6: none has less hot utility.
func TestCheck(t *testing.T) {
	r := rand.New(rand.NewSource(9))
	right, wrong := 0, 0
	for _, s := range systems() {
		least, _, _ := heat.Utilities(s.l, s.gap)
		p := drawnPlan(r, s.l, s.gap)
		h, ok := serves(s.l, s.gap, p)
		if ok != (len(p) <= 200) || ok && h < least {
			t.Fatal("no plan", s, p, h, least)
		}
		if !ok {
			checkFails(t, s.l, s.gap, p...)
			continue
		}
		checkServes(t, s.l, s.gap, p, h)
		for range 20 {
			q := changed(r, s, p)
			if h, ok := serves(s.l, s.gap, q); ok {
				right++
				checkServes(t, s.l, s.gap, q, h)
			} else {
				wrong++
				checkFails(t, s.l, s.gap, q...)
			}
		}
	}
	if right < 1000 || wrong < 1000 {
		t.Error("too few", right, wrong)
	}
}

// Streams with heat that may pass lower: hot 100 to 40, of which the cold one
// takes 20 between 80 and 60, and 40 between 60 and 20.
var lower = []stream{{100, 40, 1}, {60, 80, 1}, {20, 60, 1}}

// P7.4: loads that a plan has or not: levels are 100, 80, 60, 40 and 20.
func TestCheckLoads(t *testing.T) {
	good := []load{{0, 1, 80, 20}, {0, 2, 60, 20}, {0, 2, 40, 20}}
	checkServes(t, lower, 0, good, 0)
	for _, x := range []load{
		{0, 2, 40, 0}, {0, 2, 40, -1}, {0, 2, 40, -20}, {0, 2, 40, 19}, {0, 2, 40, 21}, {0, 2, 40, math.MaxInt}, {0, 2, 40, math.MinInt}, // other heat
		{0, 2, 20, 20}, {0, 2, 41, 20}, {0, 2, 39, 20}, {0, 2, 0, 20}, {0, 2, 60, 20}, {0, 2, 80, 20}, {0, 2, 100, 20}, {0, 2, 120, 20}, // other levels
		{0, 2, -20, 20}, {0, 2, math.MaxInt, 20}, {0, 2, math.MinInt, 20},
		{-2, 2, 40, 20}, {1, 2, 40, 20}, {2, 2, 40, 20}, {3, 2, 40, 20}, {8, 2, 40, 20}, {math.MaxInt, 2, 40, 20}, {math.MinInt, 2, 40, 20}, // other hot ones
		{0, -2, 40, 20}, {0, 0, 40, 20}, {0, 1, 40, 20}, {0, 3, 40, 20}, {0, 8, 40, 20}, {0, math.MaxInt, 40, 20}, {0, math.MinInt, 40, 20}, // other cold ones
		{0, -1, 40, 20}, {-1, 2, 40, 20}, {-1, -1, 40, 20},
	} {
		checkFails(t, lower, 0, good[0], good[1], x)
		checkFails(t, lower, 0, x, good[0], good[1])
		if x.Heat != 20 || x.Top != 40 {
			checkFails(t, lower, 0, append(slices.Clone(good), x)...)
		}
	}
	// Besides all that must be passed, nothing may be.
	for _, x := range []load{{-1, -1, 40, 1}, {0, -1, 40, 1}, {-1, 2, 40, 1}, {-1, 1, 40, 1}, {0, 2, 40, 1}, {1, 2, 40, 1}, {0, 0, 40, 1}, {-2, -1, 40, 1}, {-1, -2, 40, 1}, {0, 2, 40, 0}, {-1, -1, 20, 1}, {-1, -1, 100, 0}} {
		checkFails(t, lower, 0, append(slices.Clone(good), x)...)
	}
	checkFails(t, lower, 0)
	checkFails(t, lower, 0, good[1:]...)
	checkFails(t, lower, 0, good[:2]...)
	checkFails(t, lower, 0, append(slices.Clone(good), good...)...)
}

// P7.4: how much each cold stream gets at each level, and from when on and how
// much of its heat each hot one passes.
func TestCheckHeat(t *testing.T) {
	checkServes(t, lower, 0, []load{{-1, 1, 80, 20}, {0, 2, 60, 20}, {0, 2, 40, 20}, {0, -1, 40, 20}}, 20)
	checkServes(t, lower, 0, []load{{0, -1, 100, 20}, {0, 1, 80, 20}, {0, 2, 60, 20}, {-1, 2, 40, 20}}, 20)
	checkServes(t, lower, 0, []load{{-1, 2, 40, 1}, {-1, 2, 60, 2}, {0, 1, 80, 20}, {0, 2, 40, 19}, {0, 2, 60, 18}, {0, -1, 40, 3}}, 3)
	checkServes(t, lower, 0, []load{{-1, 1, 80, 20}, {-1, 2, 60, 20}, {-1, 2, 40, 20}, {0, -1, 100, 20}, {0, -1, 80, 20}, {0, -1, 60, 20}}, 60)
	checkServes(t, lower, 0, []load{{-1, 1, 80, 20}, {-1, 2, 60, 20}, {-1, 2, 40, 20}, {0, -1, 40, 60}}, 60)
	// Too much and too little at one level, but just enough in all.
	checkFails(t, lower, 0, load{0, 1, 80, 20}, load{0, 2, 60, 19}, load{0, 2, 40, 21})
	checkFails(t, lower, 0, load{0, 1, 80, 20}, load{0, 2, 60, 21}, load{0, 2, 40, 19})
	checkFails(t, lower, 0, load{0, 1, 80, 20}, load{-1, 2, 60, 40}, load{0, -1, 40, 40})
	checkFails(t, lower, 0, load{0, 1, 80, 20}, load{-1, 2, 40, 40}, load{0, -1, 40, 40})
	// Heat above where the hot stream has it.
	checkFails(t, lower, 0, load{-1, 1, 80, 20}, load{-1, 2, 60, 20}, load{-1, 2, 40, 20}, load{0, -1, 100, 21}, load{0, -1, 40, 39})
	checkFails(t, lower, 0, load{0, -1, 80, 21}, load{0, 1, 80, 20}, load{0, 2, 60, 19}, load{-1, 2, 60, 1}, load{-1, 2, 40, 20})
	checkFails(t, lower, 0, load{0, -1, 80, 60}, load{-1, 1, 80, 20}, load{-1, 2, 60, 20}, load{-1, 2, 40, 20})
	// Less or more than all of its heat.
	checkFails(t, lower, 0, load{0, 1, 80, 20}, load{0, 2, 60, 20}, load{-1, 2, 40, 20})
	checkFails(t, lower, 0, load{0, 1, 80, 20}, load{0, 2, 60, 20}, load{-1, 2, 40, 20}, load{0, -1, 40, 19})
	checkFails(t, lower, 0, load{0, 1, 80, 20}, load{0, 2, 60, 20}, load{-1, 2, 40, 20}, load{0, -1, 40, 21})
	// Heats whose sum would be right if it overflowed.
	checkFails(t, lower, 0, load{0, 1, 80, 20}, load{0, 2, 60, 20}, load{-1, 2, 40, math.MaxInt}, load{-1, 2, 40, math.MaxInt}, load{-1, 2, 40, 22}, load{0, -1, 40, 20})
	checkFails(t, lower, 0, load{0, 1, 80, 20}, load{0, 2, 60, 20}, load{0, 2, 40, 20}, load{0, -1, 40, math.MaxInt}, load{0, -1, 40, math.MaxInt}, load{0, -1, 40, 2})
	// Nothing passes lower than the hot stream less the gap.
	checkFails(t, even, 10, load{0, 1, 100, 10}, load{0, 1, 90, 90}, load{0, -1, 0, 10})
	checkFails(t, even, 10, load{-1, 1, 100, 10}, load{0, 1, 90, 91}, load{0, -1, 0, 9})
	checkServes(t, even, 10, []load{{-1, 1, 100, 10}, {0, 1, 90, 90}, {0, -1, 0, 10}}, 10)
	checkServes(t, even, 10, []load{{-1, 1, 100, 10}, {0, 1, 90, 90}, {0, -1, 0, 4}, {0, -1, 0, 6}}, 10)
}

// P7.4: hot streams and cold ones that are alone.
func TestCheckAlone(t *testing.T) {
	hot, cold := []stream{{200, 0, 20}}, []stream{{0, 200, 20}}
	checkServes(t, hot, 20, []load{{0, -1, 180, 4000}}, 0)
	checkServes(t, cold, 20, []load{{-1, 0, 200, 4000}}, 4000)
	checkFails(t, hot, 20, load{0, -1, 180, 3999})
	checkFails(t, hot, 20, load{0, -1, 200, 4000})
	checkFails(t, hot, 20, load{0, -1, -20, 4000})
	checkFails(t, hot, 20, load{0, 0, 180, 4000})
	checkFails(t, hot, 20, load{-1, 0, 180, 4000})
	checkFails(t, cold, 20, load{-1, 0, 200, 4001})
	checkFails(t, cold, 20, load{0, 0, 200, 4000})
	checkFails(t, cold, 20, load{-1, -1, 200, 4000})
	checkFails(t, hot, 0)
	checkFails(t, cold, 0)
}

// P7.4: a plan has at most 200 loads, also if they are in parts.
func TestCheckLong(t *testing.T) {
	for _, n := range []int{1, 199, 200, 201, 202, 1000} {
		l := []stream{{200, 0, 20}, {0, 200, 20}}
		p := slices.Repeat([]load{{0, 1, 200, 1}}, n-1)
		p = append(p, load{0, 1, 200, 4001 - n})
		if n <= 200 {
			checkServes(t, l, 0, p, 0)
		} else {
			checkFails(t, l, 0, p...)
		}
		for k := range p {
			p[k].Hot = -1
		}
		checkFails(t, l, 0, p...)
		if n < 200 {
			checkServes(t, l, 0, append(p, load{0, -1, 200, 4000}), 4000)
		}
	}
	checkFails(t, even, 0, slices.Repeat([]load{{0, 1, 100, 1}}, 100_000)...)
}
