package zone

import (
	"math/bits"
	"slices"
)

// beyond is a clock, in quarters, that no guard can tell from a later one.
const beyond = quarters * (maxGuarded + 1)

// state is a location and clocks in quarters. It stands for all states at the
// location whose clocks have the same whole parts, and fractions in the same
// order: from these the same edges can be taken, now and later. In quarters
// there is one for each order, because there are 3 clocks at most.
type state struct {
	location int
	at       clocks
}

// node is a state to which an edge leads, from a state that comes from another
// node by waiting.
type node struct {
	state
	from, edge int
}

// search is what is found of the states that an automaton can come to.
type search struct {
	automaton Automaton
	most      clocks         // the greatest number that a guard holds against each clock
	nodes     []node         // in the order of the number of edges that lead to them
	locations int            // the set of their locations
	done      map[state]bool // true where all edges from there have been taken
}

// explore returns a search of a that has found all locations of a set, except
// those that cannot be reached.
func explore(a Automaton, set int) *search {
	s := &search{automaton: a, most: bounded(a), done: map[state]bool{}}
	s.enter(node{})
	for k := 0; k < len(s.nodes) && set&^s.locations != 0; k++ {
		s.leave(k)
	}
	return s
}

// bounded returns the greatest number up to which, or from which on, a guard of
// a allows each clock.
func bounded(a Automaton) clocks {
	var most clocks
	all := slices.Concat(a.Invariants...)
	for _, e := range a.Edges {
		all = append(all, e.Guards...)
	}
	for _, g := range all {
		if g.Bound != None {
			most[g.I] = max(most[g.I], g.Bound>>1)
			most[g.J] = max(most[g.J], -(g.Bound >> 1))
		}
	}
	return most
}

// enter adds a node, unless its location does not admit its clocks, or its state
// is known.
func (s *search) enter(n node) {
	n.at = s.settled(n.at)
	_, known := s.done[n.state]
	if known || !hold(s.automaton.Invariants[n.location], n.at, quarters) {
		return
	}
	s.done[n.state] = false
	s.nodes = append(s.nodes, n)
	s.locations |= 1 << n.location
}

// leave takes all edges from a node and from what comes from it by waiting. If
// edges have been taken from one of these states, they have also been taken from
// all that come after it, with no more edges before them.
func (s *search) leave(k int) {
	now := s.nodes[k].state
	for !s.done[now] && hold(s.automaton.Invariants[now.location], now.at, quarters) {
		s.done[now] = true
		for i, e := range s.automaton.Edges {
			if e.From == now.location && hold(e.Guards, now.at, quarters) {
				s.enter(node{state{e.To, now.at.reset(e.Resets)}, k, i})
			}
		}
		now.at = s.later(now.at)
	}
}

// settled returns the clocks that stand for these, of a state: their fractions
// become one, two or three quarters in their order.
func (s *search) settled(at clocks) clocks {
	fractions := 0
	for c := 1; c < maxSide; c++ {
		if at[c] > s.most[c]*quarters {
			at[c] = beyond
		}
		fractions |= 1 << (at[c] % quarters)
	}
	fractions &^= 1 // a whole number is no fraction
	for c, x := range at {
		fraction := x % quarters
		upTo := fractions & (2<<fraction - 1)
		at[c] = x - fraction + bits.OnesCount(uint(upTo))
	}
	return at
}

// later returns the clocks that stand for what comes next by waiting, once it is
// different: whole numbers become fractions less than all others, or, if there
// are none, the greatest fraction becomes a whole number.
func (s *search) later(at clocks) clocks {
	wait := quarters
	for c := 1; c < maxSide; c++ {
		if at[c] == beyond {
			continue
		}
		if fraction := at[c] % quarters; fraction > 0 {
			wait = min(wait, quarters-fraction)
		} else {
			wait = 1
		}
	}
	return s.settled(at.waited(wait))
}

// path returns the edges that lead to the first node at a location; false if
// there is none.
func (s *search) path(location int) ([]int, bool) {
	k := slices.IndexFunc(s.nodes, func(n node) bool { return n.location == location })
	if k < 0 {
		return nil, false
	}
	var edges []int
	for k > 0 {
		edges = append(edges, s.nodes[k].edge)
		k = s.nodes[k].from
	}
	slices.Reverse(edges)
	return edges, true
}
