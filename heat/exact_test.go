package heat_test

import (
	"math/rand"
	"slices"

	"massecuite/heat"
)

// What the tests hold the results against: the terms of the chapter, written
// down as they are defined, and streams and heat loads to try them on.

type (
	stream = heat.Stream
	load   = heat.Load
)

// isHot reports whether s is hot.
func isHot(s stream) bool { return s.In > s.Out }

// has reports whether s has heat between the shifted temperatures d and d + 1.
func has(s stream, gap, d int) bool {
	if isHot(s) {
		return s.Out <= d+gap && d+gap < s.In
	}
	return s.In <= d && d < s.Out
}

// heatOf returns the heat of s between two shifted temperatures, degree by
// degree.
func heatOf(s stream, gap, upper, lower int) int {
	sum := 0
	for d := lower; d < upper; d++ {
		if has(s, gap, d) {
			sum += s.Rate
		}
	}
	return sum
}

// wholeHeat returns all heat of s.
func wholeHeat(s stream) int { return heatOf(s, 0, 200, 0) }

// levelsOf returns the levels.
func levelsOf(l []stream, gap int) []int {
	var out []int
	for t := 200; t >= -20; t-- {
		if slices.ContainsFunc(l, func(s stream) bool {
			if isHot(s) {
				return s.In-gap == t || s.Out-gap == t
			}
			return s.In == t || s.Out == t
		}) {
			out = append(out, t)
		}
	}
	return out
}

// cascadeOf returns the cascade with heat h from above.
func cascadeOf(l []stream, gap, h int) []int {
	levels := levelsOf(l, gap)
	out := []int{h}
	for k := range len(levels) - 1 {
		for _, s := range l {
			x := heatOf(s, gap, levels[k], levels[k+1])
			if !isHot(s) {
				x = -x
			}
			h += x
		}
		out = append(out, h)
	}
	return out
}

// isLeast reports whether h is the least heat, at least 0, for which no number of
// the cascade is below 0.
func isLeast(l []stream, gap, h int) bool {
	enough := func(h int) bool { return h >= 0 && slices.Min(cascadeOf(l, gap, h)) >= 0 }
	return enough(h) && !enough(h-1)
}

// boundOf returns what t proves.
func boundOf(l []stream, gap, t int) int {
	sum := 0
	for _, s := range l {
		if isHot(s) {
			sum -= heatOf(s, gap, 200, t)
		} else {
			sum += heatOf(s, gap, 200, t)
		}
	}
	return max(0, sum)
}

// isIndex reports whether k is the index of a stream of a kind, or -1.
func isIndex(l []stream, k int, hot bool) bool {
	return k == -1 || 0 <= k && k < len(l) && isHot(l[k]) == hot
}

// isPlan reports whether p is a plan for streams with these levels.
func isPlan(l []stream, levels []int, p []load) bool {
	for _, x := range p {
		known := isIndex(l, x.Hot, true) && isIndex(l, x.Cold, false) && slices.Contains(levels[:len(levels)-1], x.Top)
		if !known || x.Heat <= 0 || x.Hot == -1 && x.Cold == -1 {
			return false
		}
	}
	return len(p) <= 200
}

// sumOf returns the heat of the loads of which something holds. A heat that is
// greater than that of all streams together counts as a million.
func sumOf(p []load, holds func(x load) bool) int {
	sum := 0
	for _, x := range p {
		if holds(x) {
			sum += min(x.Heat, 1_000_000)
		}
	}
	return sum
}

// serves reports whether p is a plan that serves the streams, and with which hot
// utility.
func serves(l []stream, gap int, p []load) (int, bool) {
	levels := levelsOf(l, gap)
	if !isPlan(l, levels, p) {
		return 0, false
	}
	for i, s := range l {
		if isHot(s) && sumOf(p, func(x load) bool { return x.Hot == i }) != wholeHeat(s) {
			return 0, false
		}
		for k := range len(levels) - 1 {
			upper, lower := levels[k], levels[k+1]
			got := sumOf(p, func(x load) bool { return x.Cold == i && x.Top == upper })
			passed := sumOf(p, func(x load) bool { return x.Hot == i && x.Top >= upper })
			if isHot(s) && passed > heatOf(s, gap, 200, lower) || !isHot(s) && got != heatOf(s, gap, upper, lower) {
				return 0, false
			}
		}
	}
	return sumOf(p, func(x load) bool { return x.Hot == -1 }), true
}

// isMatching reports whether l is a matching plan of heat loads.
func isMatching(hot, cold []int, l [][3]int) bool {
	passed, got := make([]int, len(hot)), make([]int, len(cold))
	for k, x := range l {
		if x[0] < 0 || x[0] >= len(hot) || x[1] < 0 || x[1] >= len(cold) || x[2] <= 0 {
			return false
		}
		for _, y := range l[:k] {
			if x[0] == y[0] && x[1] == y[1] {
				return false
			}
		}
		passed[x[0]] += x[2]
		got[x[1]] += x[2]
	}
	return slices.Equal(passed, hot) && slices.Equal(got, cold)
}

// fewest returns the least number of elements of a matching plan, by trying all
// of them pair by pair.
func fewest(hot, cold []int) int {
	hot, cold = slices.Clone(hot), slices.Clone(cold)
	least := len(hot)*len(cold) + 1
	var walk func(pair, n int)
	walk = func(pair, n int) {
		i, j := pair/len(cold), pair%len(cold)
		if j == 0 && i > 0 && hot[i-1] > 0 {
			return
		}
		if i == len(hot) {
			least = min(least, n)
			return
		}
		for x := 0; x <= min(hot[i], cold[j]); x++ {
			hot[i], cold[j] = hot[i]-x, cold[j]-x
			walk(pair+1, n+min(x, 1))
			hot[i], cold[j] = hot[i]+x, cold[j]+x
		}
	}
	walk(0, 0)
	return least
}

// mostParts returns the greatest number of parts with equal sums of hot and cold
// loads into which all loads can be divided, by trying all parts that have the
// first load that is left.
func mostParts(hot, cold []int) int {
	all := slices.Clone(hot)
	for _, x := range cold {
		all = append(all, -x)
	}
	var divide func(left []int) int
	divide = func(left []int) int {
		if len(left) == 0 {
			return 0
		}
		most := -100
		for set := 1; set < 1<<len(left); set += 2 {
			sum := 0
			var others []int
			for i, x := range left {
				if set>>i&1 == 1 {
					sum += x
				} else {
					others = append(others, x)
				}
			}
			if sum == 0 {
				most = max(most, 1+divide(others))
			}
		}
		return most
	}
	return divide(all)
}

// drawn returns n streams and a gap. Their temperatures are multiples of a step;
// the share tells how likely hot ones are.
func drawn(r *rand.Rand, n, high, step, rate int, share float64) ([]stream, int) {
	var l []stream
	for len(l) < n {
		s := stream{step * r.Intn(high/step+1), step * r.Intn(high/step+1), 1 + r.Intn(rate)}
		if s.In == s.Out {
			continue
		}
		if (r.Float64() < share) != isHot(s) {
			s.In, s.Out = s.Out, s.In
		}
		l = append(l, s)
	}
	return l, []int{0, 1, 5, 10, 20, r.Intn(21)}[r.Intn(6)]
}

// system is streams and a gap.
type system struct {
	l   []stream
	gap int
}

// named returns systems that the tests of cascades and plans have in common.
func named() []system {
	one := func(in, out, rate int) []stream { return []stream{{in, out, rate}} }
	eight := []stream{{200, 0, 20}, {0, 200, 20}, {200, 0, 1}, {0, 200, 1}, {199, 1, 20}, {1, 199, 20}, {101, 99, 1}, {99, 101, 1}}
	apart := []stream{{200, 199, 1}, {198, 197, 20}, {0, 1, 20}, {2, 3, 1}, {100, 102, 7}, {105, 103, 7}, {50, 47, 3}, {45, 48, 4}}
	return []system{
		{one(200, 0, 20), 0}, {one(200, 0, 1), 20}, {one(0, 200, 20), 0}, {one(0, 200, 1), 20}, {one(1, 0, 1), 20}, {one(0, 1, 1), 20},
		{one(20, 0, 3), 20}, {one(199, 200, 20), 13},
		{[]stream{{150, 50, 2}, {20, 120, 3}}, 10},                                 // example 1
		{[]stream{{100, 0, 1}, {0, 100, 1}}, 0},                                    // example 3
		{[]stream{{100, 0, 1}, {0, 100, 1}}, 10},                                   // and with a gap
		{[]stream{{100, 0, 1}, {0, 100, 1}}, 20},                                   // and with the greatest one
		{[]stream{{200, 0, 20}, {200, 100, 1}, {50, 0, 7}}, 20},                    // all hot
		{[]stream{{0, 200, 20}, {100, 200, 1}, {0, 50, 7}}, 20},                    // all cold
		{slices.Repeat([]stream{{200, 0, 20}}, 8), 20},                             // the most heat
		{slices.Repeat([]stream{{0, 200, 20}}, 8), 0},                              // that is wanted
		{slices.Repeat([]stream{{110, 10, 5}, {0, 100, 5}}, 4), 10},                // all of the same levels
		{[]stream{{60, 40, 1}, {40, 20, 2}, {20, 40, 1}, {0, 20, 2}}, 20},          // one ends where another one begins
		{[]stream{{15, 5, 4}, {12, 0, 1}, {0, 3, 2}}, 20},                          // hot ones below 0
		{[]stream{{120, 80, 2}, {80, 120, 2}, {60, 20, 1}, {20, 60, 1}}, 0},        // several pinches
		{[]stream{{200, 190, 1}, {150, 140, 1}, {180, 170, 1}, {160, 170, 1}}, 10}, // heat that passes far down
		{[]stream{{20, 40, 1}, {60, 80, 1}, {100, 120, 1}, {110, 90, 1}}, 0},       // and not enough of it
		{[]stream{{100, 90, 1}, {80, 90, 1}, {60, 50, 1}, {40, 50, 1}}, 0},         // pinches where nothing is above or below
		{eight, 0}, {eight, 1}, {eight, 20}, {apart, 0}, {apart, 2}, {apart, 20},
	}
}

// systems returns the named systems and some that are drawn.
func systems() []system {
	out := named()
	r := rand.New(rand.NewSource(7))
	for k := range 1500 {
		n, share := 1+k%8, 0.5
		if k%17 == 0 {
			share = float64(k % 2)
		}
		step, rate := []int{1, 1, 10, 20, 50}[k%5], []int{1, 2, 20}[k%3]
		high := []int{200, 200, 100}[k%3]
		if step == 1 && k%4 < 2 {
			high = 30
		}
		l, gap := drawn(r, n, high, step, rate, share)
		out = append(out, system{l, gap})
	}
	return out
}
