package zone

// timed returns a run with these edges, which there must be. It takes each of
// them as early as possible, in as many parts of 1 as there are times: these are
// enough, because around a cycle of differences that must be below their bounds
// each of them costs one part, and the bounds leave 1 in all.
func timed(a Automaton, path []int) Run {
	r := Run{Den: len(path) + 1, Edges: path}
	times := least(len(path)+1, r.Den, conditions(a, path))
	for k := range path {
		r.Waits = append(r.Waits, times[k+1]-times[k])
	}
	return r
}

// conditions returns what the times of a run with these edges must fulfil, as
// guards whose clocks are times: time 0 is the beginning, time k + 1 that of
// edge k. A clock is what has passed since it was 0, so that a clock less
// another one is the time when the other one was 0 less the time when it was.
func conditions(a Automaton, path []int) []Guard {
	var out []Guard
	var zero clocks // the last time at which each clock was 0
	add := func(guards []Guard) {
		for _, g := range guards {
			out = append(out, Guard{zero[g.J], zero[g.I], g.Bound})
		}
	}
	for k, i := range path {
		e := a.Edges[i]
		zero[0] = k + 1
		out = append(out, Guard{k, k + 1, atMostZero})
		add(a.Invariants[e.From])
		add(e.Guards)
		for c := range zero {
			if e.Resets>>c&1 == 1 {
				zero[c] = k + 1
			}
		}
		add(a.Invariants[e.To])
	}
	return out
}

// least returns the least n values from 0 on, in parts of 1/den, at which guards
// hold. There must be some.
func least(n, den int, guards []Guard) []int {
	v := make([]int, n)
	for changed := true; changed; {
		changed = false
		for _, g := range guards {
			if low := v[g.I] - greatest(g.Bound, den); v[g.J] < low {
				v[g.J] = low
				changed = true
			}
		}
	}
	return v
}

// follow returns where r ends; false if it is no run of a.
func follow(a Automaton, r Run) (location int, ok bool) {
	if !in(r.Den, 1, maxDen) || len(r.Edges) > maxRun || len(r.Waits) != len(r.Edges) {
		return 0, false
	}
	var at clocks
	if !hold(a.Invariants[0], at, r.Den) {
		return 0, false
	}
	for k, i := range r.Edges {
		if !in(i, 0, len(a.Edges)-1) || !in(r.Waits[k], 0, maxWait) {
			return 0, false
		}
		e := a.Edges[i]
		at = at.waited(r.Waits[k])
		if e.From != location || !hold(a.Invariants[location], at, r.Den) || !hold(e.Guards, at, r.Den) {
			return 0, false
		}
		at = at.reset(e.Resets)
		location = e.To
		if !hold(a.Invariants[location], at, r.Den) {
			return 0, false
		}
	}
	return location, true
}
