package flow

import "massecuite/api"

// counts is how often each actor fires; those of no actor are 0.
type counts [api.MaxActors]int

func (c counts) sum() int {
	sum := 0
	for _, x := range c {
		sum += x
	}
	return sum
}

// fraction is a positive number in lowest terms, so that equal numbers are
// equal structs. The zero value stands for a number that is not known.
type fraction struct{ num, den int }

// times returns the fraction f·num/den.
func (f fraction) times(num, den int) fraction {
	num, den = f.num*num, f.den*den
	d := divisor(num, den)
	return fraction{num / d, den / d}
}

// divisor returns the greatest common divisor of two positive numbers.
func divisor(a, b int) int {
	for b != 0 {
		a, b = b, a%b
	}
	return a
}

// valid reports whether g is a graph.
func (g Graph) valid() bool {
	if g.N < 1 || g.N > api.MaxActors || len(g.Links) > api.MaxLinks {
		return false
	}
	for _, l := range g.Links {
		if !within(l.From, 0, g.N-1) || !within(l.To, 0, g.N-1) ||
			!within(l.Give, 1, maxRate) || !within(l.Take, 1, maxRate) || !within(l.Stock, 0, maxStock) {
			return false
		}
	}
	return true
}

func within(x, low, high int) bool { return low <= x && x <= high }

// repetition returns the repetition vector: ErrArg if g is not valid, ErrNone
// if there is none, ErrSize if a period has too many firings.
func (g Graph) repetition() (counts, api.Errno) {
	if !g.valid() {
		return counts{}, api.ErrArg
	}
	var repeat counts
	for first := range g.N {
		// A part of the graph is counted when its first actor comes.
		if repeat[first] > 0 {
			continue
		}
		rates := g.rates(first)
		if !g.balanced(rates) {
			return counts{}, api.ErrNone
		}
		common := denominator(rates)
		for a, r := range rates {
			if r != (fraction{}) {
				repeat[a] = r.num * (common / r.den)
			}
		}
	}
	if repeat.sum() > maxPeriod {
		return counts{}, api.ErrSize
	}
	return repeat, api.OK
}

// rates returns how often the actors of one part of the graph fire for each
// firing of its first actor, as far as one way of links to each of them says.
func (g Graph) rates(first int) []fraction {
	rates := make([]fraction, g.N)
	rates[first] = fraction{1, 1}
	for changed := true; changed; {
		changed = false
		for _, l := range g.Links {
			from, to := rates[l.From], rates[l.To]
			// Either both ends are known or none is: nothing to learn here.
			if (from == fraction{}) == (to == fraction{}) {
				continue
			}
			if from == (fraction{}) {
				rates[l.From] = to.times(l.Take, l.Give)
			} else {
				rates[l.To] = from.times(l.Give, l.Take)
			}
			changed = true
		}
	}
	return rates
}

// balanced reports whether as many loads are taken as are given on every link
// of the part of the graph whose rates are known.
func (g Graph) balanced(rates []fraction) bool {
	for _, l := range g.Links {
		from := rates[l.From]
		if from != (fraction{}) && from.times(l.Give, l.Take) != rates[l.To] {
			return false
		}
	}
	return true
}

// denominator returns the least common denominator of the known rates. Times
// it, the rates have no common divisor, because one of them is 1.
func denominator(rates []fraction) int {
	common := 1
	for _, r := range rates {
		if r != (fraction{}) {
			common *= r.den / divisor(common, r.den)
		}
	}
	return common
}
