package zone

import "massecuite/api"

// valid reports whether a is valid.
func valid(a Automaton) bool {
	n := len(a.Invariants)
	if !in(a.Clocks, 1, api.MaxClocks) || !in(n, 1, maxLocations) || len(a.Edges) > maxEdges {
		return false
	}
	for _, list := range a.Invariants {
		if !validGuards(list, a.Clocks) {
			return false
		}
	}
	for _, e := range a.Edges {
		if !in(e.From, 0, n-1) || !in(e.To, 0, n-1) || !validGuards(e.Guards, a.Clocks) || !isSet(e.Resets, a.Clocks) {
			return false
		}
	}
	return true
}

// validGuards reports whether list are guards of an automaton.
func validGuards(list []Guard, clocks int) bool {
	if len(list) > maxGuards {
		return false
	}
	for _, g := range list {
		if !validGuard(g, clocks, maxGuarded) || g.I != 0 && g.J != 0 {
			return false
		}
	}
	return true
}

// validGuard reports whether g has clocks up to this one, and a bound with a
// number from -most to most.
func validGuard(g Guard, clocks, most int) bool {
	return in(g.I, 0, clocks) && in(g.J, 0, clocks) && isBound(g.Bound, most)
}

// isSet reports whether set is a set of clocks from 1 to this one.
func isSet(set, clocks int) bool {
	return in(set, 0, 1<<(clocks+1)-1) && set&1 == 0
}

// clocks are the values of all clocks.
type clocks [maxSide]int

// hold reports whether guards hold at clocks in parts of 1/den.
func hold(guards []Guard, at clocks, den int) bool {
	for _, g := range guards {
		if at[g.I]-at[g.J] > greatest(g.Bound, den) {
			return false
		}
	}
	return true
}

// waited returns the clocks some time later.
func (at clocks) waited(time int) clocks {
	for c := 1; c < maxSide; c++ {
		at[c] += time
	}
	return at
}

// reset returns the clocks with those of a set 0.
func (at clocks) reset(set int) clocks {
	for c := range at {
		if set>>c&1 == 1 {
			at[c] = 0
		}
	}
	return at
}
