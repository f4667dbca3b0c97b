package flow

import "slices"

// dependencies returns which firings of a period take loads of which ones, of
// this period or an earlier one, rising.
func (g Graph) dependencies(repeat counts) [][3]int {
	var index counts // of the first firing of each actor
	for a := 1; a < g.N; a++ {
		index[a] = index[a-1] + repeat[a-1]
	}
	var out [][3]int
	for _, l := range g.Links {
		for taking := range repeat[l.To] {
			for load := taking * l.Take; load < (taking+1)*l.Take; load++ {
				putting := l.put(load)
				earlier := -quotient(putting, repeat[l.From])
				putting += earlier * repeat[l.From]
				out = append(out, [3]int{index[l.From] + putting, index[l.To] + taking, earlier})
			}
		}
	}
	slices.SortFunc(out, func(a, b [3]int) int { return slices.Compare(a[:], b[:]) })
	return slices.Compact(out)
}

// put returns which firing of From puts the load that is taken after so many
// others: firings since the beginning count from 0, those before it back
// from -1.
func (l Link) put(load int) int { return quotient(load-l.Stock, l.Give) }

// quotient returns a/b, b above 0, rounded down.
func quotient(a, b int) int {
	if a < 0 {
		return -((b - 1 - a) / b)
	}
	return a / b
}

// validTimes reports whether times has a valid number for each of n actors.
func validTimes(times []int, n int) bool {
	return len(times) == n && !slices.ContainsFunc(times, func(x int) bool { return !within(x, 0, maxTime) })
}

// starts returns when the firings of so many periods begin. The schedule s only
// tells an order in which each firing comes after those that it waits for.
func (g Graph) starts(s, times []int, periods int) [][]int {
	starts := make([][]int, g.N)
	for range periods {
		for _, a := range s {
			at := g.earliest(a, starts, times)
			starts[a] = append(starts[a], at)
		}
	}
	return starts
}

// earliest returns when the next firing of an actor begins, if the firings that
// it waits for begin at starts.
func (g Graph) earliest(actor int, starts [][]int, times []int) int {
	at, k := 0, len(starts[actor])
	if k > 0 {
		at = starts[actor][k-1]
	}
	for _, l := range g.Links {
		if l.To != actor {
			continue
		}
		// The last load that it takes is there last, as the firings of From end
		// in the order in which they begin.
		if last := l.put((k+1)*l.Take - 1); last >= 0 {
			at = max(at, starts[l.From][last]+times[l.From])
		}
	}
	return at
}
