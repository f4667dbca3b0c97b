package logic

import (
	"iter"
	"math/bits"
)

// in reports whether x is a number from low to high.
func in(x, low, high int) bool { return low <= x && x <= high }

// has reports whether x is in a set.
func has(set, x int) bool { return set>>x&1 == 1 }

// least returns the least element of a set that is not empty.
func least(set int) int { return bits.TrailingZeros(uint(set)) }

// elements ranges over the elements of a set, rising.
func elements(set int) iter.Seq[int] {
	return func(yield func(int) bool) {
		for rest := set; rest != 0; rest &= rest - 1 {
			if !yield(least(rest)) {
				return
			}
		}
	}
}

// all returns the set of all states.
func (s Structure) all() int { return 1<<len(s.Next) - 1 }

// not returns the set of the states that are not in x.
func (s Structure) not(x int) int { return s.all() &^ x }

// isState reports whether x is a state.
func (s Structure) isState(x int) bool { return in(x, 0, len(s.Next)-1) }

// with returns the set of the states whose label has a letter.
func (s Structure) with(letter int) int {
	set := 0
	for x, label := range s.Label {
		if has(label, letter) {
			set |= 1 << x
		}
	}
	return set
}

// before returns the set of the states that a state of x may follow.
func (s Structure) before(x int) int {
	set := 0
	for from, next := range s.Next {
		if next&x != 0 {
			set |= 1 << from
		}
	}
	return set
}

// until returns the set of the states from which a path leads to y, with only
// states of x before: the least one that it makes of itself.
func (s Structure) until(x, y int) int {
	return settled(0, func(set int) int { return y | x&s.before(set) })
}

// always returns the set of the states from which a path has only states of x:
// the greatest one that it makes of itself.
func (s Structure) always(x int) int {
	return settled(s.all(), func(set int) int { return x & s.before(set) })
}

// settled returns the first set, of those that a step makes one after another,
// that is the same as the one before it.
func settled(set int, step func(int) int) int {
	for {
		next := step(set)
		if next == set {
			return set
		}
		set = next
	}
}
