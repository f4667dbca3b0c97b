package flow_test

import (
	"math/rand"
	"slices"
	"strconv"
	"strings"
	"sync"

	"massecuite/api"
	"massecuite/flow"
)

// What the tests hold the results against: the terms of the chapter, written
// down as they are defined, and graphs to try them on.

// row returns the numbers of a string.
func row(text string) []int {
	var out []int
	for _, word := range strings.Fields(text) {
		x, err := strconv.Atoi(word)
		if err != nil {
			panic(err)
		}
		out = append(out, x)
	}
	return out
}

// of returns the graph with n actors and links: from, to, give, take, stock.
func of(n int, links ...string) flow.Graph {
	g := flow.Graph{N: n}
	for _, text := range links {
		x := row(text)
		g.Links = append(g.Links, flow.Link{From: x[0], To: x[1], Give: x[2], Take: x[3], Stock: x[4]})
	}
	return g
}

var (
	two    = of(2, "0 1 2 3 0")              // example 1
	ring   = of(2, "0 1 1 1 0", "1 0 1 1 0") // example 2
	turned = of(2, "0 1 1 1 0", "1 0 1 1 1") // example 2 with a load
	apart  = of(2, "0 1 1 1 0", "0 1 1 2 0") // example 3

	// Periods of just 60 and of 61 firings: 1, 6, 30, 12, 6 and 5 or 6.
	firings60 = of(6, "0 1 6 1 0", "1 2 5 1 0", "1 3 2 1 0", "0 4 6 1 0", "0 5 5 1 0")
	firings61 = of(6, "0 1 6 1 0", "1 2 5 1 0", "1 3 2 1 0", "0 4 6 1 0", "0 5 6 1 0")

	// The same with links back: 61 firings that cannot begin.
	stuck61 = of(6, "0 1 6 1 0", "1 2 5 1 0", "1 3 2 1 0", "0 4 6 1 0", "0 5 6 1 0", "5 0 1 6 5")

	// Periods of just 12 and of 13 firings.
	firings12 = of(6, "0 1 5 1 3", "1 2 2 5 7", "3 3 4 4 9", "4 3 6 3 20", "5 5 1 1 20")
	firings13 = of(6, "0 1 5 1 3", "1 2 3 5 7", "3 3 4 4 9", "4 3 6 3 20", "5 5 1 1 20")

	// Periods of 20, 31 and 21 firings: 400 in 20 periods, 403 in 13, 420 in 20.
	firings20 = of(6, "0 1 6 1 5", "0 2 4 1 0", "0 3 4 1 20", "4 0 1 2 1", "5 0 2 6 3", "0 5 6 2 5")
	firings31 = of(6, "0 1 6 1 0", "0 2 6 1 1", "0 3 6 1 2", "0 4 6 1 3", "0 5 6 1 4")
	firings21 = of(6, "0 1 6 1 0", "0 2 6 1 1", "0 3 6 1 2", "0 4 1 1 3", "0 5 1 1 4")

	// Just 20,000 and 20,001 vectors of firings.
	vectors20000 = of(5, "1 2 5 4 16", "2 3 1 2 11", "4 3 1 4 19")
	vectors20001 = of(4, "0 1 6 5 10", "0 2 1 1 4", "0 3 4 6 3")

	// More than 20,000 of them beside a ring that is stuck.
	vectorsStuck = of(6, "0 1 6 5 10", "0 2 1 1 4", "0 3 4 6 3", "4 5 1 1 0", "5 4 1 1 0")

	// At MaxActors and MaxLinks, with links from an actor to itself.
	full = of(6, "0 1 1 2 0", "1 2 2 2 1", "2 0 2 1 4", "3 3 6 6 20", "3 4 3 2 5",
		"4 3 2 3 3", "4 4 1 1 1", "5 5 3 3 3", "0 2 3 6 0", "1 1 5 5 5")
)

// named are the graphs above.
func named() []flow.Graph {
	return []flow.Graph{two, ring, turned, apart, firings60, firings61, stuck61, firings12, firings13,
		firings20, firings31, firings21, vectors20000, vectors20001, vectorsStuck, full}
}

func divisor(a, b int) int {
	for b != 0 {
		a, b = b, a%b
	}
	return a
}

// parted returns the number of the connected part of each actor: its least
// actor.
func parted(g flow.Graph) []int {
	part := make([]int, g.N)
	for a := range part {
		part[a] = a
	}
	for range g.N {
		for _, l := range g.Links {
			least := min(part[l.From], part[l.To])
			part[l.From], part[l.To] = least, least
		}
	}
	return part
}

// repetition returns the repetition vector by trying 1, 2, 3 and so on for the
// first actor of each part, and whether there is one. Along at most five links
// the number is at most 6 to the 5th.
func repetition(g flow.Graph) ([]int, bool) {
	out := make([]int, g.N)
	for a, first := range parted(g) {
		if a != first {
			continue
		}
		found := false
		for x := 1; x <= 7776 && !found; x++ {
			found = follow(g, out, a, x)
		}
		if !found {
			return nil, false
		}
	}
	return out, true
}

// follow gives the first actor of a part the number x and the others those that
// follow, if they are whole and no link contradicts.
func follow(g flow.Graph, out []int, first, x int) bool {
	part := parted(g)
	for a := range out {
		if part[a] == first {
			out[a] = 0
		}
	}
	out[first] = x
	for range g.N {
		for _, l := range g.Links {
			if out[l.From] > 0 && out[l.To] == 0 {
				if out[l.From]*l.Give%l.Take != 0 {
					return false
				}
				out[l.To] = out[l.From] * l.Give / l.Take
			}
			if out[l.To] > 0 && out[l.From] == 0 {
				if out[l.To]*l.Take%l.Give != 0 {
					return false
				}
				out[l.From] = out[l.To] * l.Take / l.Give
			}
		}
	}
	for _, l := range g.Links {
		if part[l.From] == first && out[l.From]*l.Give != out[l.To]*l.Take {
			return false
		}
	}
	return true
}

func sum(list []int) int {
	out := 0
	for _, x := range list {
		out += x
	}
	return out
}

// stocks returns the loads on the links at first.
func stocks(g flow.Graph) []int {
	var out []int
	for _, l := range g.Links {
		out = append(out, l.Stock)
	}
	return out
}

// fire returns the loads on the links after a firing of a, if it can fire.
func fire(g flow.Graph, loads []int, a int) ([]int, bool) {
	out := slices.Clone(loads)
	for i, l := range g.Links {
		if l.To == a {
			if loads[i] < l.Take {
				return nil, false
			}
			out[i] -= l.Take
		}
	}
	for i, l := range g.Links {
		if l.From == a {
			out[i] += l.Give
		}
	}
	return out, true
}

// peaked returns the peaks of the links in s, and whether s is a schedule for
// the repetition vector r.
func peaked(g flow.Graph, s, r []int) ([]int, bool) {
	loads, left := stocks(g), slices.Clone(r)
	peaks := slices.Clone(loads)
	for _, a := range s {
		if a < 0 || a >= g.N {
			return nil, false
		}
		next, ok := fire(g, loads, a)
		if !ok {
			return nil, false
		}
		left[a]--
		loads = next
		for i, x := range loads {
			peaks[i] = max(peaks[i], x)
		}
	}
	return peaks, !slices.ContainsFunc(left, func(x int) bool { return x != 0 })
}

type key [api.MaxActors]int

// search looks for schedules, trying everything.
type search struct {
	g           flow.Graph
	r           []int
	link, bound int // no schedule with more loads on the link; -1 for any
	failed      map[key]bool
}

// bounded returns the first schedule in which the peak of the link is at most
// bound, if there is one.
func bounded(g flow.Graph, r []int, link, bound int) ([]int, bool) {
	s := search{g, r, link, bound, map[key]bool{}}
	return s.from(key{}, stocks(g))
}

func (s search) from(done key, loads []int) ([]int, bool) {
	if s.failed[done] || s.link >= 0 && loads[s.link] > s.bound {
		return nil, false
	}
	if slices.Equal(done[:s.g.N], s.r) {
		return []int{}, true
	}
	for a := range s.g.N {
		next, ok := fire(s.g, loads, a)
		if !ok || done[a] == s.r[a] {
			continue
		}
		to := done
		to[a]++
		if rest, ok := s.from(to, next); ok {
			return append([]int{a}, rest...), true
		}
	}
	s.failed[done] = true
	return nil, false
}

// vectors returns how many vectors the beginnings of schedules have, counting
// no further than limit.
func vectors(g flow.Graph, r []int, limit int) int {
	type state struct {
		done  key
		loads []int
	}
	seen := map[key]bool{{}: true}
	work := []state{{key{}, stocks(g)}}
	for len(work) > 0 && len(seen) < limit {
		at := work[len(work)-1]
		work = work[:len(work)-1]
		for a := range g.N {
			next, ok := fire(g, at.loads, a)
			to := at.done
			to[a]++
			if ok && to[a] <= r[a] && !seen[to] {
				seen[to] = true
				work = append(work, state{to, next})
			}
		}
	}
	return len(seen)
}

// expanded returns the dependencies between the firings of a period: on each
// link a queue of loads, each with the firing that put it, those of firings
// before this period with numbers below 0.
func expanded(g flow.Graph, r []int) [][3]int {
	index := func(a int) int { return sum(r[:a]) }
	set := map[[3]int]bool{}
	for _, l := range g.Links {
		var queue []int
		for f := -l.Stock; f < 0; f++ {
			queue = append(queue, slices.Repeat([]int{f}, l.Give)...)
		}
		queue = queue[len(queue)-l.Stock:]
		for f := range r[l.From] {
			queue = append(queue, slices.Repeat([]int{f}, l.Give)...)
		}
		for k := range r[l.To] {
			for _, f := range queue[:l.Take] {
				earlier := 0
				for f < 0 {
					f += r[l.From]
					earlier++
				}
				set[[3]int{index(l.From) + f, index(l.To) + k, earlier}] = true
			}
			queue = queue[l.Take:]
		}
	}
	var out [][3]int
	for x := range set {
		out = append(out, x)
	}
	slices.SortFunc(out, func(a, b [3]int) int { return slices.Compare(a[:], b[:]) })
	return out
}

// begun returns when the firings of so many periods begin: the least times that
// keep all conditions, by moving firings until nothing is too early.
func begun(g flow.Graph, r, times []int, periods int) [][]int {
	out := make([][]int, g.N)
	for a := range out {
		out[a] = make([]int, r[a]*periods)
	}
	for moved := true; moved; {
		moved = false
		move := func(a, k, at int) {
			if out[a][k] < at {
				out[a][k] = at
				moved = true
			}
		}
		for a := range out {
			for k := 1; k < len(out[a]); k++ {
				move(a, k, out[a][k-1])
			}
		}
		for _, l := range g.Links {
			queue := slices.Repeat([]int{-1}, l.Stock)
			for f := range out[l.From] {
				queue = append(queue, slices.Repeat([]int{f}, l.Give)...)
			}
			for k := range out[l.To] {
				for _, f := range queue[k*l.Take : (k+1)*l.Take] {
					if f >= 0 {
						move(l.To, k, out[l.From][f]+times[l.From])
					}
				}
			}
		}
	}
	return out
}

// sample is a graph and what the definitions say of it.
type sample struct {
	g    flow.Graph
	err  api.Errno // of Repeat
	r    []int     // the repetition vector, if there is no error
	s    []int     // the first schedule
	runs bool      // whether there is a schedule
}

// known returns the samples with what the definitions say of them.
var known = sync.OnceValue(func() []sample {
	var out []sample
	for _, g := range samples() {
		x := sample{g: g}
		r, ok := repetition(g)
		switch {
		case !ok:
			x.err = api.ErrNone
		case sum(r) > 60:
			x.err = api.ErrSize
		default:
			x.r = r
			x.s, x.runs = bounded(g, r, -1, 0)
		}
		out = append(out, x)
	}
	return out
})

// scheduled returns the samples that have schedules.
func scheduled() []sample {
	return slices.DeleteFunc(slices.Clone(known()), func(x sample) bool { return !x.runs })
}

// samples returns the graphs that the tests try.
var samples = sync.OnceValue(func() []flow.Graph {
	out := named()
	for n := range api.MaxActors {
		out = append(out, flow.Graph{N: n + 1})
	}
	for give := 1; give <= 6; give++ {
		for take := 1; take <= 6; take++ {
			for _, stock := range []int{0, 1, give, take, 20} {
				l := flow.Link{From: 0, To: 1, Give: give, Take: take, Stock: stock}
				out = append(out, flow.Graph{N: 2, Links: []flow.Link{l}})
				l.From, l.To = 1, 0
				out = append(out, flow.Graph{N: 2, Links: []flow.Link{l}})
				l.From = 0
				out = append(out, flow.Graph{N: 1, Links: []flow.Link{l}})
			}
		}
	}
	r := rand.New(rand.NewSource(3))
	for i := range 2400 {
		switch i % 4 {
		case 0:
			out = append(out, balanced(r, 1+r.Intn(6), 2, 10))
		case 1:
			out = append(out, balanced(r, 1+r.Intn(4), 6, 6))
		case 2:
			out = append(out, balanced(r, 2+r.Intn(2), 12, 5))
		default:
			out = append(out, anyhow(r))
		}
	}
	return out
})

// balanced returns a graph with n actors that fire at most most times in a
// period, and at most so many links.
func balanced(r *rand.Rand, n, most, links int) flow.Graph {
	g := flow.Graph{N: n}
	times := make([]int, n)
	for a := range times {
		times[a] = 1 + r.Intn(most)
	}
	for range r.Intn(links + 1) {
		l := flow.Link{From: r.Intn(n), To: r.Intn(n)}
		d := divisor(times[l.From], times[l.To])
		l.Give, l.Take = times[l.To]/d, times[l.From]/d
		if max(l.Give, l.Take) > 6 {
			continue
		}
		m := 1 + r.Intn(6/max(l.Give, l.Take))
		l.Give, l.Take = l.Give*m, l.Take*m
		l.Stock = r.Intn(min(20, 2*(l.Give+l.Take)) + 1)
		if r.Intn(3) == 0 && l.From < l.To {
			l.Stock = 0
		}
		g.Links = append(g.Links, l)
	}
	return g
}

// anyhow returns a graph with a few links of any rates.
func anyhow(r *rand.Rand) flow.Graph {
	g := flow.Graph{N: 1 + r.Intn(6)}
	for range r.Intn(6) {
		g.Links = append(g.Links, flow.Link{From: r.Intn(g.N), To: r.Intn(g.N),
			Give: 1 + r.Intn(6), Take: 1 + r.Intn(6), Stock: r.Intn(21)})
	}
	return g
}
