package flow

import "massecuite/api"

// loads returns how many loads are on l after so many firings.
func (l Link) loads(fired counts) int {
	return l.Stock + l.Give*fired[l.From] - l.Take*fired[l.To]
}

// fires reports whether an actor is due in the period and can fire after so
// many firings of it.
func (g Graph) fires(actor int, fired, repeat counts) bool {
	if fired[actor] >= repeat[actor] {
		return false
	}
	for _, l := range g.Links {
		if l.To == actor && l.loads(fired) < l.Take {
			return false
		}
	}
	return true
}

// scheduled returns the repetition vector and the first schedule: the errors of
// repetition, then ErrLoop if there is no schedule.
func (g Graph) scheduled() (counts, []int, api.Errno) {
	repeat, e := g.repetition()
	if e != api.OK {
		return counts{}, nil, e
	}
	s, ok := g.first(repeat)
	if !ok {
		return counts{}, nil, api.ErrLoop
	}
	return repeat, s, api.OK
}

// first returns the first schedule, if there is one. It never has to take a
// firing back: a firing hinders no other actor, so that every beginning can be
// completed if anything can.
func (g Graph) first(repeat counts) ([]int, bool) {
	var s []int
	var fired counts
next:
	for fired != repeat {
		for a := range g.N {
			if g.fires(a, fired, repeat) {
				fired[a]++
				s = append(s, a)
				continue next
			}
		}
		return nil, false
	}
	return s, true
}

// peaks returns the peak of each link in s, if s is a schedule.
func (g Graph) peaks(s []int, repeat counts) ([]int, bool) {
	var fired counts
	peaks := make([]int, len(g.Links))
	for i, l := range g.Links {
		peaks[i] = l.Stock
	}
	for _, a := range s {
		if a < 0 || a >= g.N || !g.fires(a, fired, repeat) {
			return nil, false
		}
		fired[a]++
		for i, l := range g.Links {
			peaks[i] = max(peaks[i], l.loads(fired))
		}
	}
	return peaks, fired == repeat
}

// leastPeak returns the least peak of l over all schedules, of which there is
// one, unless they lead over too many vectors of firings.
func (g Graph) leastPeak(l Link, repeat counts) (int, bool) {
	// The least peak over the beginnings that lead to a vector. A vector is
	// found after all that have fewer firings, so that its peak is settled when
	// its turn comes.
	peak := map[counts]int{{}: l.Stock}
	found := []counts{{}}
	for at := 0; at < len(found); at++ {
		from := found[at]
		for a := range g.N {
			if !g.fires(a, from, repeat) {
				continue
			}
			to := from
			to[a]++
			reached := max(peak[from], l.loads(to))
			if known, ok := peak[to]; ok {
				peak[to] = min(known, reached)
				continue
			}
			if len(found) == maxVectors {
				return 0, false
			}
			peak[to] = reached
			found = append(found, to)
		}
	}
	return peak[repeat], true
}
