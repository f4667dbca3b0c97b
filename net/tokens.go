package net

import (
	"iter"
	"slices"

	"massecuite/api"
)

const (
	maxArc      = 3       // tokens that a transition takes from a place or puts on it
	maxStart    = 5       // tokens on a place at the start
	maxAsked    = 1 << 30 // tokens on a place of a marking that is an argument
	maxEquation = 500     // tokens on a place of the marking of an equation
)

// tokens is a marking, or a row of Pre or Post, with zeros for the places that
// the net has not got: as an array it can be the key of a map.
type tokens [api.MaxPlaces]int

// system is a valid net whose rows are arrays.
type system struct {
	size      int // number of places
	pre, post []tokens
	start     tokens
}

// systemOf returns a valid net as a system.
func systemOf(n Net) system {
	s := system{size: len(n.Start), start: tokensOf(n.Start)}
	for t := range n.Pre {
		s.pre = append(s.pre, tokensOf(n.Pre[t]))
		s.post = append(s.post, tokensOf(n.Post[t]))
	}
	return s
}

// firings ranges over the transitions that are enabled at m, in order, each
// with the marking that firing it makes.
func (s system) firings(m tokens) iter.Seq2[int, tokens] {
	return func(yield func(int, tokens) bool) {
		for t, row := range s.pre {
			if row.atMost(m) && !yield(t, s.fired(m, t)) {
				return
			}
		}
	}
}

// fired returns the marking that firing t, which is enabled, makes of m.
func (s system) fired(m tokens, t int) tokens {
	for p := range m {
		if m[p] != api.Many {
			m[p] += s.post[t][p] - s.pre[t][p]
		}
	}
	return m
}

// marking returns m in new memory, with a number for each place of the net.
func (s system) marking(m tokens) api.Marking {
	return slices.Clone(m[:s.size])
}

// rising returns markings, sorted, in new memory.
func (s system) rising(markings []tokens) []api.Marking {
	out := make([]api.Marking, len(markings))
	for i, m := range markings {
		out[i] = s.marking(m)
	}
	slices.SortFunc(out, slices.Compare)
	return out
}

// tokensOf returns the array of a row with at most MaxPlaces numbers.
func tokensOf(row []int) tokens {
	var m tokens
	copy(m[:], row)
	return m
}

// atMost reports whether each number of m is at most the one of other.
func (m tokens) atMost(other tokens) bool {
	for p := range m {
		if m[p] > other[p] {
			return false
		}
	}
	return true
}

// places returns the set of the places at which m is not zero.
func (m tokens) places() int {
	return support(m[:])
}

// support returns the set of the indices at which a number of row is not zero.
func support(row []int) int {
	set := 0
	for i, x := range row {
		if x != 0 {
			set |= 1 << i
		}
	}
	return set
}

// fits reports whether row has n numbers from 0 to most.
func fits(row []int, n, most int) bool {
	if len(row) != n {
		return false
	}
	for _, x := range row {
		if x < 0 || x > most {
			return false
		}
	}
	return true
}

// allFit reports whether each of the rows has n numbers from 0 to most.
func allFit(rows [][]int, n, most int) bool {
	for _, row := range rows {
		if !fits(row, n, most) {
			return false
		}
	}
	return true
}

// fitsOrMany reports whether row has n numbers, from 0 to most or Many.
func fitsOrMany(row []int, n, most int) bool {
	if len(row) != n {
		return false
	}
	for _, x := range row {
		if x != api.Many && (x < 0 || x > most) {
			return false
		}
	}
	return true
}
