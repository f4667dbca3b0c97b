package heat

import (
	"iter"
	"slices"
)

// in reports whether x is from low to high.
func in(x, low, high int) bool {
	return low <= x && x <= high
}

// valid reports whether s is valid.
func (s Stream) valid() bool {
	return in(s.In, 0, maxEnd) && in(s.Out, 0, maxEnd) && s.In != s.Out && in(s.Rate, 1, maxRate)
}

// hot reports whether s is cooled.
func (s Stream) hot() bool {
	return s.In > s.Out
}

// span is a stream with the shifted temperatures between which it is.
type span struct {
	Stream
	upper, lower int
}

// shifted returns the span of a stream.
func shifted(s Stream, gap int) span {
	if s.hot() {
		return span{s, s.In - gap, s.Out - gap}
	}
	return span{s, s.Out, s.In}
}

// heat returns the heat of s between two shifted temperatures.
func (s span) heat(upper, lower int) int {
	return s.Rate * max(0, min(upper, s.upper)-max(lower, s.lower))
}

// system is valid streams with their levels.
type system struct {
	spans  []span
	levels []int
}

// read returns the system of streams; false if they, or the gap, are not valid.
func read(l []Stream, gap int) (system, bool) {
	if !in(len(l), 1, maxStreams) || !in(gap, 0, maxGap) {
		return system{}, false
	}
	var s system
	for _, one := range l {
		if !one.valid() {
			return system{}, false
		}
		x := shifted(one, gap)
		s.spans = append(s.spans, x)
		s.levels = append(s.levels, x.upper, x.lower)
	}
	slices.Sort(s.levels)
	slices.Reverse(s.levels)
	s.levels = slices.Compact(s.levels)
	return s, true
}

// pairs goes through the upper and the lower one of neighbouring levels,
// downward.
func (s system) pairs() iter.Seq2[int, int] {
	return func(yield func(upper, lower int) bool) {
		for k, lower := range s.levels[1:] {
			if !yield(s.levels[k], lower) {
				return
			}
		}
	}
}

// surplus returns the heat of all hot streams between two shifted temperatures
// less that of all cold ones.
func (s system) surplus(upper, lower int) int {
	sum := 0
	for _, x := range s.spans {
		if x.hot() {
			sum += x.heat(upper, lower)
		} else {
			sum -= x.heat(upper, lower)
		}
	}
	return sum
}

// cascade returns the cascade with heat h from above.
func (s system) cascade(h int) []int {
	out := []int{h}
	for upper, lower := range s.pairs() {
		h += s.surplus(upper, lower)
		out = append(out, h)
	}
	return out
}

// hotUtility returns the least hot utility: it makes up for what the cascade with
// heat 0 lacks most, which is never below 0, as that begins with 0.
func (s system) hotUtility() int {
	return -slices.Min(s.cascade(0))
}

// pinches returns the pinches.
func (s system) pinches() []int {
	var out []int
	c := s.cascade(s.hotUtility())
	for k := 1; k < len(c)-1; k++ {
		if c[k] == 0 {
			out = append(out, s.levels[k])
		}
	}
	return out
}
