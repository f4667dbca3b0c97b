package logic

import "slices"

// alike returns for each depth, as far as it makes a difference, and each state
// the set of the states that are alike for that depth: at the last depth those
// that are bisimilar.
func (s Structure) alike() [][]int {
	levels := [][]int{s.refined(s.alone())}
	for {
		last := levels[len(levels)-1]
		next := s.refined(last)
		if slices.Equal(next, last) {
			return levels
		}
		levels = append(levels, next)
	}
}

// alone returns sets by which no two states differ.
func (s Structure) alone() []int {
	return slices.Repeat([]int{s.all()}, len(s.Next))
}

// refined returns for each state the set of the states with the same label whose
// Next leads to the same sets. Being alike for one depth is being of the same
// set, so these are alike for one depth more.
func (s Structure) refined(sets []int) []int {
	out := make([]int, len(sets))
	for x := range out {
		for y := range out {
			if s.Label[x] == s.Label[y] && s.reach(x, sets) == s.reach(y, sets) {
				out[x] |= 1 << y
			}
		}
	}
	return out
}

// reach returns the union of the sets of the states that may follow x.
func (s Structure) reach(x int, sets []int) int {
	union := 0
	for next := range elements(s.Next[x]) {
		union |= sets[next]
	}
	return union
}

// classes returns for each state the least state that is bisimilar to it.
func (s Structure) classes() []int {
	levels := s.alike()
	out := make([]int, len(s.Next))
	for x, set := range levels[len(levels)-1] {
		out[x] = least(set)
	}
	return out
}

// quotient returns the structure of the classes.
func (s Structure) quotient() Structure {
	var q Structure
	number := make([]int, len(s.Next)) // of the class of each state
	classes := s.classes()
	for x, first := range classes {
		if first == x {
			number[x] = len(q.Next)
			q.Next = append(q.Next, 0)
			q.Label = append(q.Label, s.Label[x])
		}
		number[x] = number[first]
	}
	for x, set := range s.Next {
		for next := range elements(set) {
			q.Next[number[x]] |= 1 << number[next]
		}
	}
	return q
}
