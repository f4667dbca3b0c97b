package zone_test

import (
	"math/rand"
	"strconv"
	"strings"
	"sync"

	"massecuite/api"
	"massecuite/zone"
)

// Automata to try the functions on, and what they can do, as it is defined.

// guards returns the guards of a text in which x, y and z are the clocks 1 to 3,
// as in "x<3 y>=2 z==4"; z==4 makes two guards.
func guards(text string) []zone.Guard {
	var out []zone.Guard
	for _, word := range strings.Fields(text) {
		c := int(word[0]-'x') + 1
		sign := strings.TrimRight(word[1:], "0123456789")
		n, err := strconv.Atoi(word[1+len(sign):])
		if err != nil {
			panic(err)
		}
		switch sign {
		case "<", "<=":
			out = append(out, zone.Guard{I: c, Bound: limit{num: n, open: sign == "<"}.bound()})
		case ">", ">=":
			out = append(out, zone.Guard{J: c, Bound: limit{num: -n, open: sign == ">"}.bound()})
		default:
			out = append(out, guards(word[:1]+"<="+word[3:]+" "+word[:1]+">="+word[3:])...)
		}
	}
	return out
}

// clocks returns the set of the clocks of a text.
func clocks(text string) int {
	set := 0
	for _, c := range text {
		set |= 2 << (c - 'x')
	}
	return set
}

// edge returns an edge.
func edge(from, to int, when, resets string) zone.Edge {
	return zone.Edge{From: from, To: to, Guards: guards(when), Resets: clocks(resets)}
}

// automaton returns an automaton with n clocks and a location for each element
// of a text with strokes between them.
func automaton(n int, invariants string, edges ...zone.Edge) zone.Automaton {
	a := zone.Automaton{Clocks: n, Edges: edges}
	for _, text := range strings.Split(invariants, "|") {
		a.Invariants = append(a.Invariants, guards(text))
	}
	return a
}

// moment is the clocks in parts of 1/den, clock 0 first.
type moment struct {
	at  [4]int
	den int
}

// allows reports whether guards hold, as it is defined.
func (m moment) allows(list []zone.Guard) bool {
	for _, g := range list {
		if !meaning(g.Bound).has(m.at[g.I]-m.at[g.J], m.den) {
			return false
		}
	}
	return true
}

// played returns where r ends, as runs are defined; false if it is none.
func played(a zone.Automaton, r zone.Run) (int, bool) {
	if r.Den < 1 || r.Den > 1000 || len(r.Waits) != len(r.Edges) || len(r.Edges) > 200 {
		return 0, false
	}
	m, loc := moment{den: r.Den}, 0
	if !m.allows(a.Invariants[0]) {
		return 0, false
	}
	for k, wait := range r.Waits {
		if wait < 0 || wait > 1000000 || r.Edges[k] < 0 || r.Edges[k] >= len(a.Edges) {
			return 0, false
		}
		for c := 1; c < 4; c++ {
			m.at[c] += wait
		}
		e := a.Edges[r.Edges[k]]
		if !m.allows(a.Invariants[loc]) || e.From != loc || !m.allows(e.Guards) {
			return 0, false
		}
		for c := 1; c < 4; c++ {
			if e.Resets>>c&1 == 1 {
				m.at[c] = 0
			}
		}
		loc = e.To
		if !m.allows(a.Invariants[loc]) {
			return 0, false
		}
	}
	return loc, true
}

// held returns the points of z at which guards hold; nil if there are none.
func held(z [][]int, list []zone.Guard) [][]int {
	for _, g := range list {
		if z != nil {
			z, _ = zone.And(z, g)
		}
	}
	return z
}

// widened returns z without the bounds that no guard up to 10 needs: those above
// 10, and those below -10 as far as they are below it. By a known theorem no
// other locations can be reached by that, nor by fewer edges, if guards bound
// only single clocks.
func widened(z [][]int) [][]int {
	out := clone(z)
	for i := range z {
		for j, b := range z[i] {
			if b > 21 {
				out[i][j] = none
			} else if b < -20 {
				out[i][j] = -20
			}
		}
	}
	out, _ = zone.Tight(out)
	return out
}

// spot is a zone of clocks at a location, and how many edges lead there.
type spot struct {
	loc   int
	zone  [][]int
	edges int
}

// fewest returns the least number of edges that lead to each location, -1 if
// none do, by the zones that can be reached; false if they are more than most.
func fewest(a zone.Automaton, most int) ([]int, bool) {
	out := make([]int, len(a.Invariants))
	for i := range out {
		out[i] = -1
	}
	var list []spot
	add := func(s spot) {
		s.zone = held(s.zone, a.Invariants[s.loc])
		if s.zone == nil {
			return
		}
		s.zone, _ = zone.Delay(s.zone)
		s.zone = widened(held(s.zone, a.Invariants[s.loc]))
		for _, old := range list {
			if old.loc == s.loc {
				if all, _ := zone.Includes(old.zone, s.zone); all {
					return
				}
			}
		}
		list = append(list, s)
		if out[s.loc] < 0 {
			out[s.loc] = s.edges
		}
	}
	add(spot{zone: filled(a.Clocks, 1)})
	for k := 0; k < len(list) && len(list) <= most; k++ {
		for _, e := range a.Edges {
			if e.From != list[k].loc {
				continue
			}
			if z := held(list[k].zone, e.Guards); z != nil {
				z, _ = zone.Reset(z, e.Resets)
				add(spot{e.To, z, list[k].edges + 1})
			}
		}
	}
	return out, len(list) <= most
}

// randomGuards returns up to so many guards with numbers up to most.
func randomGuards(r *rand.Rand, n, count, most int) []zone.Guard {
	var out []zone.Guard
	for range r.Intn(count + 1) {
		g := zone.Guard{I: 1 + r.Intn(n), Bound: r.Intn(2*most + 2)}
		if r.Intn(2) == 0 {
			g.I, g.J, g.Bound = 0, g.I, 1-g.Bound
		}
		switch r.Intn(30) {
		case 0:
			g.Bound = none
		case 1:
			g.Bound = r.Intn(4*most+2) - 2*most
		case 2:
			g.I, g.J = 0, 0
			g.Bound = max(1, g.Bound)
		}
		out = append(out, g)
	}
	return out
}

// randomAutomaton returns an automaton with guards up to most.
func randomAutomaton(r *rand.Rand, most int) zone.Automaton {
	a := zone.Automaton{Clocks: 1 + r.Intn(3)}
	locations, edges := 1+r.Intn(5), 8-min(r.Intn(9), r.Intn(9))
	many, more := min(r.Intn(7), r.Intn(7)), min(r.Intn(7), r.Intn(7))
	for i := range locations {
		list := randomGuards(r, a.Clocks, many, most)
		if i == 0 && r.Intn(10) > 0 { // so that most have a beginning
			for k := range list {
				list[k].Bound = max(1, list[k].Bound)
			}
		}
		if r.Intn(3) == 0 {
			list = nil
		}
		a.Invariants = append(a.Invariants, list)
	}
	for range edges {
		list := randomGuards(r, a.Clocks, more, most)
		a.Edges = append(a.Edges, zone.Edge{From: r.Intn(locations), To: r.Intn(locations), Guards: list, Resets: 2 * r.Intn(1<<a.Clocks)})
	}
	return a
}

// randomChain returns an automaton whose edges lead from each location to the
// next one, with strict guards of small numbers, so that it is the order of the
// fractions that counts.
func randomChain(r *rand.Rand) zone.Automaton {
	a := zone.Automaton{Clocks: 3, Invariants: make([][]zone.Guard, 5)}
	for i := range 8 {
		var list []zone.Guard
		for range r.Intn(4) {
			g := zone.Guard{I: 1 + r.Intn(3), Bound: 2 * (1 + r.Intn(2))}
			if r.Intn(2) == 0 {
				g = zone.Guard{J: g.I, Bound: -2 * r.Intn(2)}
			}
			list = append(list, g)
		}
		e := zone.Edge{From: i % 5, To: (i + 1) % 5, Guards: list, Resets: 2 << r.Intn(3)}
		if i > 3 {
			e.From, e.To = r.Intn(5), r.Intn(5)
		}
		a.Edges = append(a.Edges, e)
	}
	return a
}

// meshed returns one location with an edge that resets each clock at the end of
// its period, which is not passed, and another location that is reached at some
// time by guards.
func meshed(x, y, z int, goal string) zone.Automaton {
	at := func(c string, n int) string { return c + strconv.Itoa(n) }
	return automaton(3, at("x<=", x)+" "+at("y<=", y)+" "+at("z<=", z)+"|",
		edge(0, 0, at("x==", x), "x"), edge(0, 0, at("y==", y), "y"), edge(0, 0, at("z==", z), "z"), edge(0, 1, goal, ""))
}

var (
	// Example 4.
	leave = automaton(1, "x<=2|", edge(0, 1, "x>1", ""))

	// Location 1 is reached at the time 567, which is the first one that is a
	// multiple of 63 and 7 more than one of 10.
	run200 = meshed(7, 9, 10, "x==7 y==0 z==7")
	run201 = meshed(7, 9, 10, "x==0 y==0 z==7")

	// Between two resets of x, at whole times, there is one of y, always later than
	// the last time, until z is 10.
	creeping = automaton(3, "x<=1|x<=1|", edge(0, 1, "x>0 z<1", "y"), edge(1, 0, "x==1", "x"), edge(0, 1, "x<1 y>1", "y"),
		edge(0, 2, "z==10 x==0 y<1", ""))

	// In the end the fractions of all clocks are different.
	nested = automaton(3, "||||", edge(0, 1, "x>0", "y"), edge(1, 2, "y>0", "z"), edge(2, 3, "x<1 z>0", ""), edge(3, 4, "x>1 y<1", ""))

	// A clock is 0 again while the other two have different fractions, and must be
	// above 0 before the first one is 1.
	crowded = automaton(3, "||||", edge(0, 1, "x>0", "y"), edge(1, 2, "y>0 y<1", "z"), edge(2, 3, "z>0 z<1", "z"), edge(3, 4, "z>0 x<1", ""))

	// Each of the four waits is above 0, all together are below 1.
	halting = automaton(2, "||||", edge(0, 1, "x>0 y<1", "x"), edge(1, 2, "x>0 y<1", "x"), edge(2, 3, "x>0 y<1", "x"), edge(3, 4, "x>0 y<1", "x"))
)

// full has 5 locations, 8 edges and 6 guards in each slice, with the numbers -10
// and 10 and None among them.
func full() zone.Automaton {
	six := []zone.Guard{{I: 1, Bound: 21}, {J: 1, Bound: 21}, {I: 2, Bound: none}, {J: 3, Bound: none}, {Bound: 1}, {I: 3, Bound: 20}}
	late := []zone.Guard{{J: 1, Bound: -19}, {J: 2, Bound: -19}, {J: 1, Bound: -19}, {I: 1, Bound: 21}, {I: 2, Bound: 21}, {Bound: none}}
	a := zone.Automaton{Clocks: 3}
	for i := range 5 {
		a.Invariants = append(a.Invariants, six)
		a.Edges = append(a.Edges, zone.Edge{From: i, To: (i + 1) % 5, Guards: late, Resets: 14})
	}
	for i := range 3 {
		a.Edges = append(a.Edges, zone.Edge{From: i, To: i, Guards: six, Resets: 8})
	}
	return a
}

// sample is an automaton with the least numbers of edges to its locations.
type sample struct {
	zone.Automaton
	edges []int
}

// automata are samples, of all of which the zones are not too many.
var automata = sync.OnceValue(func() []sample {
	list := []zone.Automaton{leave, creeping, halting, nested, crowded, full(), automaton(1, ""), automaton(3, "x>0|"), meshed(2, 3, 5, "x==1 y==2 z==3")}
	r := rand.New(rand.NewSource(14))
	for k := range 3000 {
		list = append(list, randomAutomaton(r, []int{10, 1, 3, 5}[k%4]), randomChain(r))
	}
	var out []sample
	for _, a := range list {
		if edges, ok := fewest(a, 300); ok {
			out = append(out, sample{a, edges})
		}
	}
	return out
})

// reachable returns the set of the locations with a number of edges.
func (s sample) reachable() int {
	set := 0
	for i, n := range s.edges {
		if n >= 0 {
			set |= 1 << i
		}
	}
	return set
}

// errorOf is the error of a witness with so many edges.
func errorOf(edges int) api.Errno {
	switch {
	case edges < 0:
		return api.ErrNone
	case edges > 200:
		return api.ErrSize
	}
	return api.OK
}
