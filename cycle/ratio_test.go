package cycle_test

import (
	"math"
	"math/rand"
	"slices"
	"testing"

	"massecuite/api"
	"massecuite/cycle"
	"massecuite/flow"
)

func checkRatio(t *testing.T, arcs [][4]int, num, den int, err api.Errno) {
	t.Helper()
	if n, d, e := cycle.Ratio(arcs); n != num || d != den || e != err {
		t.Error("Ratio", arcs, n, d, e, "not", num, den, err)
	}
}

// P4.7: the ratios of many delay graphs, by trying all cycles.
func TestRatio(t *testing.T) {
	r := rand.New(rand.NewSource(9))
	seen := map[api.Errno]int{}
	for k := range 4000 {
		nodes := 1 + r.Intn(12)
		count := min(40, r.Intn(3*nodes))
		arcs := delayed(r, nodes, count, []int{3, 1000, 1, 50}[k%4], []int{20, 2, 20, 5}[k/4%4])
		for i := range arcs {
			if k%3 > 0 { // else most have a cycle with the delay 0
				arcs[i][3] = max(arcs[i][3], min(1, arcs[i][0]-arcs[i][1]+1))
			}
		}
		num, den, e := ratio(arcs)
		checkRatio(t, arcs, num, den, e)
		seen[e]++
	}
	if seen[api.OK] < 1000 || seen[api.ErrNone] < 300 || seen[api.ErrLoop] < 200 {
		t.Error("few samples", seen)
	}
}

// P4.7: graphs of 12 nodes and 40 arcs, which have many cycles.
func TestRatioLarge(t *testing.T) {
	r := rand.New(rand.NewSource(10))
	for k := range 60 {
		arcs := delayed(r, 12, 40, []int{1000, 10, 1}[k%3], 20)
		for i := range arcs {
			arcs[i][3] = max(arcs[i][3], k%2)
		}
		num, den, e := ratio(arcs)
		checkRatio(t, arcs, num, den, e)
	}
	// Weights and delays that make the ratios of many cycles nearly equal.
	for range 20 {
		arcs := delayed(r, 12, 40, 3, 19)
		for i := range arcs {
			arcs[i][3]++
			arcs[i][2] += 47 * arcs[i][3]
		}
		num, den, e := ratio(arcs)
		checkRatio(t, arcs, num, den, e)
	}
}

// P4.7: no arcs, single arcs, several arcs between two nodes, delays that are
// partly 0, and ratios at the limits.
func TestRatioEdges(t *testing.T) {
	checkRatio(t, graph("0 1 2 0 / 1 0 3 1"), 5, 1, api.OK)
	checkRatio(t, nil, 0, 0, api.ErrNone)
	checkRatio(t, [][4]int{}, 0, 0, api.ErrNone)
	checkRatio(t, graph("0 1 5 0"), 0, 0, api.ErrNone)
	checkRatio(t, graph("11 0 5 0 / 0 10 5 3 / 11 10 2 1"), 0, 0, api.ErrNone)
	checkRatio(t, graph("11 11 5 2"), 5, 2, api.OK)
	checkRatio(t, graph("11 11 -5 10"), -1, 2, api.OK)
	checkRatio(t, graph("0 0 0 20"), 0, 1, api.OK)
	checkRatio(t, graph("0 0 0 0"), 0, 0, api.ErrLoop)
	checkRatio(t, graph("0 0 -2 0"), 0, 0, api.ErrLoop)
	checkRatio(t, graph("0 0 1000 1 / 1 1 -1000 0"), 0, 0, api.ErrLoop)
	checkRatio(t, graph("3 4 9 0 / 4 3 9 1 / 4 5 1 0 / 5 3 1 0"), 0, 0, api.ErrLoop)
	checkRatio(t, graph("3 4 9 0 / 4 3 9 1 / 4 5 1 0 / 5 3 1 0")[:3], 18, 1, api.OK)
	checkRatio(t, graph("0 0 1000 1"), 1000, 1, api.OK)
	checkRatio(t, graph("0 0 -1000 1"), -1000, 1, api.OK)
	checkRatio(t, graph("0 0 -1000 20 / 1 1 -1000 19"), -50, 1, api.OK)
	// The better arc depends on the delay of the rest: 7/1 and 12/3, then 7/11 and
	// 12/13.
	checkRatio(t, graph("0 1 7 1 / 0 1 12 3 / 1 0 0 0"), 7, 1, api.OK)
	checkRatio(t, graph("0 1 7 1 / 0 1 12 3 / 1 0 0 10"), 12, 13, api.OK)
	checkRatio(t, graph("0 1 12 3 / 0 1 7 1 / 1 0 0 10"), 12, 13, api.OK)
	// Arcs side by side of which one has the delay 0.
	checkRatio(t, graph("0 1 1 0 / 0 1 1 1 / 1 0 1 0"), 0, 0, api.ErrLoop)
	checkRatio(t, graph("0 1 1 0 / 0 1 1 1 / 1 0 1 1"), 2, 1, api.OK)
	// Parts that are not connected, and a part that only the cycle reaches.
	checkRatio(t, graph("0 1 1 1 / 1 0 1 1 / 8 9 2 1 / 9 8 1 1 / 9 2 1000 0"), 3, 2, api.OK)
	checkRatio(t, around(12, 1000, 20), 50, 1, api.OK)
	checkRatio(t, around(12, -1000, 20), -50, 1, api.OK)
	whole := around(12, 1000, 0)
	whole[7][3] = 1
	checkRatio(t, whole, 12000, 1, api.OK)
	for i := range whole {
		whole[i][2] = -1000
	}
	checkRatio(t, whole, -12000, 1, api.OK)
	whole[7][3] = 0
	checkRatio(t, whole, 0, 0, api.ErrLoop)
}

// around returns a cycle of n nodes whose arcs have this weight and delay.
func around(n, weight, delay int) [][4]int {
	var out [][4]int
	for i := range n {
		out = append(out, [4]int{i, (i + 1) % n, weight, delay})
	}
	return out
}

// P4.7: 40 arcs are not too many, and what is no delay graph; ErrArg also where
// there would be no cycle, or one with the delay 0.
func TestRatioErrors(t *testing.T) {
	for _, arc := range [][4]int{{0, 1, 0, 0}, {0, 0, 3, 4}, {0, 0, 1, 0}} {
		forty := slices.Repeat([][4]int{arc}, 40)
		num, den, e := ratio(forty[:1])
		checkRatio(t, forty, num, den, e)
		checkRatio(t, append(forty, arc), 0, 0, api.ErrArg)
		checkRatio(t, slices.Repeat(forty, 2500), 0, 0, api.ErrArg)
		for at := range 40 {
			for place, list := range [][]int{{-1, 12}, {-1, 12}, {-1001, 1001}, {-1, 21}} {
				for _, x := range append(list, math.MaxInt, math.MinInt, 1<<32, api.Never) {
					bad := slices.Clone(forty)
					bad[at][place] = x
					checkRatio(t, bad, 0, 0, api.ErrArg)
					checkRatio(t, bad[at:at+1], 0, 0, api.ErrArg)
				}
			}
		}
	}
}

// P4.12: with the delays 1 the ratio is the mean of the matrix of the arcs.
func TestRatioIsMean(t *testing.T) {
	for _, a := range samples() {
		var arcs [][4]int
		for i := range a {
			for j, x := range a[i] {
				if x != api.Never {
					arcs = append(arcs, [4]int{i, j, x, 1})
				}
			}
		}
		num, den, e := cycle.Mean(a)
		checkRatio(t, arcs, num, den, e)
		slices.Reverse(arcs)
		checkRatio(t, arcs, num, den, e)
	}
}

// P3 of the whole document: the time that a period of a schedule takes, where
// the beginnings of firings repeat, is the ratio of the graph of dependencies.
func TestOneTime(t *testing.T) {
	r := rand.New(rand.NewSource(11))
	tried := 0
	for range 6000 {
		g, lengths := stages(r)
		repeat, e := flow.Repeat(g)
		if e != api.OK {
			continue
		}
		links, e := flow.Expand(g)
		starts, e2 := flow.Starts(g, lengths, 20)
		if e != api.OK || e2 != api.OK {
			continue
		}
		arcs, ok := dependent(repeat, links, lengths)
		num, den, periods := rate(starts, repeat)
		if ok && periods > 0 {
			d := gcd(num, den)
			checkRatio(t, arcs, num/d, den/d, api.OK)
			tried++
		}
	}
	if tried < 300 {
		t.Error("few samples", tried)
	}
}

// stages returns a ring of actors with some loads on it, and how long they take.
func stages(r *rand.Rand) (flow.Graph, []int) {
	g := flow.Graph{N: 1 + r.Intn(4)}
	lengths := make([]int, g.N)
	for a := range g.N {
		g.Links = append(g.Links, flow.Link{From: a, To: (a + 1) % g.N, Give: 1 + r.Intn(3), Take: 1 + r.Intn(3), Stock: r.Intn(4)})
		g.Links = append(g.Links, flow.Link{From: a, To: a, Give: 1, Take: 1, Stock: 1})
		lengths[a] = r.Intn(9)
	}
	return g, lengths
}

// dependent returns the delay graph of the firings of a period, with that of an
// actor's firings in order; false if a link leads more than one period back.
func dependent(repeat []int, links [][3]int, lengths []int) ([][4]int, bool) {
	var actor []int
	var arcs [][4]int
	for a, n := range repeat {
		first := len(actor)
		for k := range n {
			arcs = append(arcs, [4]int{first + k, first + (k+1)%n, 0, 0})
			actor = append(actor, a)
		}
		arcs[len(arcs)-1][3] = 1
	}
	for _, l := range links {
		if l[2] > 1 {
			return nil, false
		}
		arcs = append(arcs, [4]int{l[0], l[1], lengths[actor[l[0]]], l[2]})
	}
	return arcs, len(arcs) <= 40
}

// rate returns how much later and how many periods later all firings of one
// period are those of another one; 0 periods if there are no such two.
func rate(starts [][]int, repeat []int) (num, den, periods int) {
	for late := 19; late > 0; late-- {
		for early := late - 1; early >= 0; early-- {
			num = starts[0][late*repeat[0]] - starts[0][early*repeat[0]]
			if shifted(starts, repeat, early, late, num) {
				return num, late - early, late - early
			}
		}
	}
	return 0, 0, 0
}

func shifted(starts [][]int, repeat []int, early, late, by int) bool {
	for a, n := range repeat {
		for k := range n {
			if starts[a][late*n+k]-starts[a][early*n+k] != by {
				return false
			}
		}
	}
	return true
}
