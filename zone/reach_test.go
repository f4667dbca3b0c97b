package zone_test

import (
	"math"
	"math/rand"
	"slices"
	"testing"

	"massecuite/api"
	"massecuite/zone"
)

func checkReach(t *testing.T, a zone.Automaton, want int) {
	t.Helper()
	if got, e := zone.Reach(a); got != want || e != api.OK {
		t.Error("Reach", a, got, e, "not", want)
	}
}

// checkWitness tests Witness, and CheckRun with what it returns: edges is the
// least number of edges to loc, -1 if there is no run.
func checkWitness(t *testing.T, a zone.Automaton, loc, edges int) zone.Run {
	t.Helper()
	r, e := zone.Witness(a, loc)
	if e != errorOf(edges) {
		t.Error("Witness", a, loc, e, "not with edges", edges)
	}
	if e != api.OK {
		if r.Den != 0 || len(r.Waits)+len(r.Edges) > 0 {
			t.Error("Witness", a, loc, r, e)
		}
		return r
	}
	if at, ok := played(a, r); at != loc || !ok || len(r.Edges) != edges {
		t.Error("Witness", a, loc, r, "not with edges", edges)
	}
	checkRun(t, a, r, loc, true)
	return r
}

func checkRun(t *testing.T, a zone.Automaton, r zone.Run, loc int, want bool) {
	t.Helper()
	if got, ok, e := zone.CheckRun(a, r); got != loc || ok != want || e != api.OK {
		t.Error("CheckRun", a, r, got, ok, e, "not", loc, want)
	}
}

// Example 4.
func TestExample4(t *testing.T) {
	checkReach(t, leave, 3)
	checkRun(t, leave, zone.Run{Den: 2, Waits: []int{3}, Edges: []int{0}}, 1, true)
	if r := checkWitness(t, leave, 1, 1); !slices.Equal(r.Edges, []int{0}) {
		t.Error(r)
	}
	checkWitness(t, leave, 0, 0)
	for wait, want := range map[int]bool{1999: true, 2000: true, 1001: true, 1000: false, 2001: false, 0: false} {
		loc := 0
		if want {
			loc = 1
		}
		checkRun(t, leave, zone.Run{Den: 1000, Waits: []int{wait}, Edges: []int{0}}, loc, want)
	}
}

// P5.4, P5.8: what samples reach and the least numbers of edges, by zones.
func TestSamples(t *testing.T) {
	var reached, missed, deepest, fractions int
	for _, s := range automata() {
		checkReach(t, s.Automaton, s.reachable())
		for loc, edges := range s.edges {
			r := checkWitness(t, s.Automaton, loc, edges)
			if edges < 0 {
				missed++
			} else if edges > 0 {
				reached++
			}
			deepest = max(deepest, edges)
			if slices.ContainsFunc(r.Waits, func(w int) bool { return w%r.Den > 0 }) {
				fractions++
			}
		}
	}
	if len(automata()) < 1400 || reached < 1000 || missed < 1000 || deepest < 10 || fractions < 200 {
		t.Error("few samples", len(automata()), reached, missed, deepest, fractions)
	}
}

// P5.4: automata with a beginning that is no state, without edges, and with edges
// that nothing can take.
func TestReachEdges(t *testing.T) {
	for _, text := range []string{"x>0|", "x>=1|", "x<0|", "x<5 x>0|", "y>0|", "x==1|"} {
		a := automaton(2, text, edge(0, 1, "", ""), edge(1, 0, "", "x"))
		checkReach(t, a, 0)
		checkWitness(t, a, 0, -1)
		checkWitness(t, a, 1, -1)
		checkRun(t, a, zone.Run{Den: 1}, 0, false)
		checkRun(t, a, zone.Run{Den: 1, Waits: []int{1}, Edges: []int{0}}, 0, false)
	}
	never := automaton(1, "|", edge(0, 1, "", ""))
	never.Invariants[0] = []zone.Guard{{Bound: 0}} // clock 0 below itself
	checkReach(t, never, 0)
	never.Invariants[0] = []zone.Guard{{Bound: 1}, {Bound: none}, {Bound: 21}}
	checkReach(t, never, 3)
	never.Edges[0].Guards = []zone.Guard{{Bound: 0}}
	checkReach(t, never, 1)
	never.Edges[0].Guards = []zone.Guard{{Bound: -20}}
	checkReach(t, never, 1)
	checkReach(t, automaton(1, ""), 1)
	checkWitness(t, automaton(1, ""), 0, 0)
	checkReach(t, automaton(3, "||||"), 1)
	checkReach(t, automaton(1, "|||", edge(0, 2, "", ""), edge(2, 0, "", ""), edge(3, 1, "", "")), 5)
	checkReach(t, automaton(1, "x<=2|x>2", edge(0, 1, "", "")), 1)
	checkReach(t, automaton(1, "x<=2|x>=2", edge(0, 1, "", "")), 3)
	checkReach(t, automaton(1, "x<=2|x>=2", edge(0, 1, "", "x")), 1)
	checkReach(t, automaton(1, "x<=2|x>2", edge(0, 1, "", "")), 1)
	checkReach(t, automaton(1, "x<2|", edge(0, 1, "x>=2", "")), 1)
	checkReach(t, automaton(1, "x<2|", edge(0, 1, "x>1 x<2", "")), 3)
	checkReach(t, automaton(1, "|", edge(0, 1, "x>1 x<1", "")), 1)
	checkReach(t, automaton(1, "|", edge(0, 1, "x<0", "")), 1)
	checkReach(t, automaton(1, "|x<=0", edge(0, 1, "x>=3", "x")), 3)
	checkReach(t, automaton(1, "|x<=0", edge(0, 1, "x>=3", "")), 1)
	// The invariant of the location that is left counts where it is left.
	checkReach(t, automaton(2, "y<=1|", edge(0, 1, "x>=1 y>=1", "")), 3)
	checkReach(t, automaton(2, "y<=1|", edge(0, 1, "x>1", "")), 1)
	checkReach(t, automaton(2, "y<=1|", edge(0, 1, "x>1", ""), edge(0, 0, "", "y")), 3)
}

// P5.4: guards at -10 and 10 and with None, 5 locations, 8 edges and 6 guards,
// and edges that reset several clocks.
func TestReachLimits(t *testing.T) {
	a := full()
	checkReach(t, a, 15)
	for loc, edges := range []int{0, 2, 4, 6, -1} {
		checkWitness(t, a, loc, edges)
	}
	checkReach(t, automaton(1, "x<=10|x>10|", edge(0, 1, "x==10", ""), edge(0, 2, "x==10", "")), 5)
	checkReach(t, automaton(1, "|", edge(0, 1, "x>10", "")), 3)
	checkReach(t, automaton(1, "x<10|", edge(0, 1, "x>=10", "")), 1)
	checkReach(t, automaton(1, "x<10|", edge(0, 1, "x>9", "")), 3)
	// Far above 10 clocks are still apart only as far as guards tell.
	checkReach(t, automaton(2, "||", edge(0, 0, "x>10", "x"), edge(0, 1, "x==0 y>10", ""), edge(1, 2, "x==10 y<10", "")), 3)
	// Several clocks at once, and one after the other.
	both := automaton(3, "|x<=0 y<=0 z<=0", edge(0, 1, "x>5 y>5 z>5", "xyz"))
	checkReach(t, both, 3)
	for set := 2; set < 14; set += 2 {
		both.Edges[0].Resets = set
		checkReach(t, both, 1)
	}
	apart := automaton(3, "||||", edge(0, 1, "x>0", "x"), edge(1, 2, "x>0 y>=1", "yx"), edge(2, 3, "x==1 y==1 z==3", ""), edge(2, 4, "z<1", ""))
	checkReach(t, apart, 15)
	checkWitness(t, apart, 3, 3)
	checkWitness(t, apart, 4, -1)
}

// P5.4: runs with 200 edges and with one more.
func TestWitnessLong(t *testing.T) {
	checkReach(t, run200, 3)
	checkWitness(t, run200, 0, 0)
	checkWitness(t, run200, 1, 200)
	checkReach(t, run201, 3)
	checkWitness(t, run201, 0, 0)
	checkWitness(t, run201, 1, 201)
	checkReach(t, meshed(7, 9, 10, "x==7 y==9 z==10"), 3)
	checkWitness(t, meshed(7, 9, 10, "x==7 y==9 z==10"), 1, 221) // at the time 630: 89, 69 and 62 resets
	checkReach(t, meshed(6, 9, 10, "x==1 y==0 z==1"), 1)
	checkWitness(t, meshed(6, 9, 10, "x==1 y==0 z==1"), 1, -1)
}

// P5.4: waits that cannot be whole numbers, also many that must be different.
func TestWitnessFractions(t *testing.T) {
	checkReach(t, halting, 31)
	checkReach(t, creeping, 7)
	checkReach(t, nested, 31)
	checkReach(t, crowded, 31)
	for loc := range 5 {
		checkWitness(t, halting, loc, loc)
		checkWitness(t, nested, loc, loc)
		checkWitness(t, crowded, loc, loc)
	}
	r := checkWitness(t, creeping, 2, 21)
	if r.Den < 11 {
		t.Error(r)
	}
	for den, want := range map[int]bool{1: false, 4: false, 5: true, 1000: true} {
		loc := 0
		if want {
			loc = 4
		}
		checkRun(t, halting, zone.Run{Den: den, Waits: []int{1, 1, 1, 1}, Edges: []int{0, 1, 2, 3}}, loc, want)
	}
}

// P5.4: CheckRun as runs are defined, with the witnesses, and with changes in
// them, and with runs by chance.
func TestCheckRun(t *testing.T) {
	r := rand.New(rand.NewSource(15))
	yes, no := 0, 0
	check := func(a zone.Automaton, run zone.Run) {
		loc, ok := played(a, run)
		checkRun(t, a, run, loc, ok)
		if ok && len(run.Edges) > 0 {
			yes++
		} else if !ok {
			no++
		}
	}
	for _, s := range automata() {
		for loc := range s.edges {
			run, e := zone.Witness(s.Automaton, loc)
			if e != api.OK {
				continue
			}
			for range 10 {
				check(s.Automaton, varied(r, run))
			}
		}
		for range 10 {
			run := zone.Run{Den: 1 + r.Intn(4)}
			for range r.Intn(4) {
				run.Waits = append(run.Waits, r.Intn(12))
				run.Edges = append(run.Edges, r.Intn(len(s.Edges)+1))
			}
			check(s.Automaton, run)
		}
	}
	if yes < 2000 || no < 2000 {
		t.Error("few samples", yes, no)
	}
}

// varied returns r with a change.
func varied(r *rand.Rand, run zone.Run) zone.Run {
	out := zone.Run{Den: run.Den, Waits: slices.Clone(run.Waits), Edges: slices.Clone(run.Edges)}
	k := r.Intn(len(run.Waits) + 1)
	switch r.Intn(6) {
	case 0:
		out.Den = max(1, out.Den+r.Intn(5)-2)
	case 1:
		for i := range out.Waits { // the same times in other parts
			out.Waits[i] *= 3
		}
		out.Den *= 3
	case 2:
		out.Waits = append(out.Waits, r.Intn(12*run.Den))
		out.Edges = append(out.Edges, r.Intn(8))
	case 3:
		out.Waits, out.Edges = out.Waits[:k], out.Edges[:k]
	default:
		if k < len(out.Waits) {
			out.Waits[k] = max(0, out.Waits[k]+r.Intn(5)-2)
		} else {
			out.Den, out.Waits, out.Edges = 1000, slices.Repeat([]int{0}, k), slices.Clone(run.Edges)
		}
	}
	return out
}

// P5.4: runs with 200 edges and one more, with Den at 1 and 1000, with waits at
// 1,000,000, and what is no run: these are no errors.
func TestCheckRunEdges(t *testing.T) {
	loop := automaton(1, "|", edge(0, 0, "", ""), edge(0, 1, "x>=10", ""))
	of := func(den, count, wait int) zone.Run {
		return zone.Run{Den: den, Waits: slices.Repeat([]int{wait}, count), Edges: make([]int, count)}
	}
	for _, count := range []int{0, 1, 199, 200} {
		for _, den := range []int{1, 2, 999, 1000} {
			for _, wait := range []int{0, 1, 999999, 1000000} {
				checkRun(t, loop, of(den, count, wait), 0, true)
			}
		}
		for _, den := range []int{0, -1, 1001, 1 << 32, math.MaxInt, math.MinInt} {
			checkRun(t, loop, of(den, count, 0), 0, false)
			checkRun(t, loop, of(den, count, 1), 0, false)
		}
		for _, x := range []int{-1, 1000001, 1 << 32, math.MaxInt, math.MinInt} {
			for _, k := range []int{0, count / 2, count - 1} {
				if count > 0 {
					r := of(1000, count, 7)
					r.Waits[k] = x
					checkRun(t, loop, r, 0, false)
				}
			}
		}
		for _, x := range []int{-1, 2, 1 << 32, math.MaxInt, math.MinInt} {
			for _, k := range []int{0, count / 2, count - 1} {
				if count > 0 {
					r := of(1000, count, 7)
					r.Edges[k] = x
					checkRun(t, loop, r, 0, false)
				}
			}
		}
		more, less := of(1, count, 1), of(1, count+1, 1)
		more.Waits, less.Waits = append(more.Waits, 1), less.Waits[1:]
		checkRun(t, loop, more, 0, false)
		checkRun(t, loop, less, 0, false)
	}
	for _, count := range []int{201, 202, 100000} {
		checkRun(t, loop, of(1, count, 0), 0, false)
	}
	end := of(100, 200, 1000000)
	end.Edges[199] = 1
	checkRun(t, loop, end, 1, true)
	end.Edges[198] = 1 // no edge leads from there
	checkRun(t, loop, end, 0, false)
	checkRun(t, loop, zone.Run{Den: 1000, Waits: []int{10000}, Edges: []int{1}}, 1, true)
	checkRun(t, loop, zone.Run{Den: 1000, Waits: []int{9999}, Edges: []int{1}}, 0, false)
	checkRun(t, loop, zone.Run{}, 0, false)
}
