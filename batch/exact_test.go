package batch_test

import (
	"math"
	"math/rand"
	"slices"

	"massecuite/batch"
)

// What the tests hold the results against: the terms of the chapter, written
// down as they are defined, and shops and tasks to try them on.

type (
	shop  = batch.Shop
	op    = batch.Op
	proof = batch.Proof
	pair  [2]int
)

// opsOf returns the operations of s by their numbers, and the pairs of the jobs'
// orders.
func opsOf(s shop) ([]op, []pair) {
	var pairs []pair
	for _, job := range s.Jobs {
		for k := range len(job) - 1 {
			pairs = append(pairs, pair{countOf(s, job) + k, countOf(s, job) + k + 1})
		}
	}
	return slices.Concat(s.Jobs...), pairs
}

// countOf returns how many operations are before those of a job of s.
func countOf(s shop, job []op) int {
	n := 0
	for _, other := range s.Jobs {
		if &other[0] == &job[0] {
			break
		}
		n += len(other)
	}
	return n
}

// onMachine returns the numbers of the operations of a machine.
func onMachine(s shop, m int) []int {
	var out []int
	for x, o := range slices.Concat(s.Jobs...) {
		if o.Machine == m {
			out = append(out, x)
		}
	}
	return out
}

// arcsOf returns the arcs of an order.
func arcsOf(s shop, order [][]int) []pair {
	_, pairs := opsOf(s)
	for _, l := range order {
		for k := range len(l) - 1 {
			pairs = append(pairs, pair{l[k], l[k+1]})
		}
	}
	return pairs
}

// hasCycle reports whether pairs have a cycle.
func hasCycle(pairs []pair) bool {
	leads := map[pair]bool{}
	for _, p := range pairs {
		leads[p] = true
	}
	for k := range 9 {
		for i := range 9 {
			for j := range 9 {
				if leads[pair{i, k}] && leads[pair{k, j}] {
					leads[pair{i, j}] = true
				}
			}
		}
	}
	for i := range 9 {
		if leads[pair{i, i}] {
			return true
		}
	}
	return false
}

// startsOf returns when the operations start: at 0, or at the greatest end of
// those from which an arc leads to them. The arcs have no cycle.
func startsOf(s shop, arcs []pair) []int {
	ops, _ := opsOf(s)
	var start func(x int) int
	start = func(x int) int {
		t := 0
		for _, p := range arcs {
			if p[1] == x {
				t = max(t, start(p[0])+ops[p[0]].Time)
			}
		}
		return t
	}
	out := make([]int, len(ops))
	for x := range out {
		out[x] = start(x)
	}
	return out
}

// spanOf returns the makespan of operations with these starts.
func spanOf(s shop, starts []int) int {
	most := 0
	for x, o := range slices.Concat(s.Jobs...) {
		most = max(most, starts[x]+o.Time)
	}
	return most
}

// tailsOf returns the tails: the greatest sum of Times on ways that begin behind
// each operation, by going all these ways.
func tailsOf(s shop, pairs []pair) []int {
	ops, _ := opsOf(s)
	out := make([]int, len(ops))
	for x := range out {
		var walk func(y, sum int)
		walk = func(y, sum int) {
			out[x] = max(out[x], sum)
			for _, p := range pairs {
				if p[0] == y {
					walk(p[1], sum+ops[p[1]].Time)
				}
			}
		}
		walk(x, 0)
	}
	return out
}

// permutations returns all orders of some numbers.
func permutations(l []int) [][]int {
	if len(l) == 0 {
		return [][]int{nil}
	}
	var out [][]int
	for k, x := range l {
		for _, rest := range permutations(slices.Delete(slices.Clone(l), k, k+1)) {
			out = append(out, append([]int{x}, rest...))
		}
	}
	return out
}

// ordersOf returns all orders of s.
func ordersOf(s shop) [][][]int {
	out := [][][]int{nil}
	for m := range s.Machines {
		var longer [][][]int
		for _, order := range out {
			for _, l := range permutations(onMachine(s, m)) {
				longer = append(longer, append(slices.Clone(order), l))
			}
		}
		out = longer
	}
	return out
}

// leastOf returns the least makespan of s, by trying all orders.
func leastOf(s shop) int {
	least := math.MaxInt
	for _, order := range ordersOf(s) {
		if arcs := arcsOf(s, order); !hasCycle(arcs) {
			least = min(least, spanOf(s, startsOf(s, arcs)))
		}
	}
	return least
}

// boundOf returns the bound of a set of tasks.
func boundOf(heads, times, tails, set []int) int {
	head, sum, tail := math.MaxInt, 0, math.MaxInt
	for _, x := range set {
		head, sum, tail = min(head, heads[x]), sum+times[x], min(tail, tails[x])
	}
	return head + sum + tail
}

// jacksonOf returns the bound of Jackson's schedule, made time by time.
func jacksonOf(heads, times, tails []int) int {
	left, most := slices.Clone(times), 0
	for now := 0; slices.Max(left) > 0; now++ {
		best := -1
		for x := range left {
			if left[x] > 0 && heads[x] <= now && (best < 0 || tails[x] > tails[best]) {
				best = x
			}
		}
		if best < 0 {
			continue
		}
		left[best]--
		if left[best] == 0 {
			most = max(most, now+1+tails[best])
		}
	}
	return most
}

// groupOf returns the set that Group returns, and its bound, by trying all sets
// of each size, in order.
func groupOf(heads, times, tails []int) ([]int, int) {
	var best []int
	most := -1
	for n := 1; n <= len(heads); n++ {
		var walk func(set []int, next int)
		walk = func(set []int, next int) {
			if len(set) == n {
				if b := boundOf(heads, times, tails, set); b > most {
					best, most = slices.Clone(set), b
				}
				return
			}
			for x := next; x < len(heads); x++ {
				walk(append(set, x), x+1)
			}
		}
		walk(nil, 0)
	}
	return best, most
}

// areTogether reports whether l are different operations of one machine.
func areTogether(s shop, l ...int) bool {
	for m := range s.Machines {
		if !slices.ContainsFunc(l, func(x int) bool { return !slices.Contains(onMachine(s, m), x) }) {
			return len(slices.Compact(slices.Sorted(slices.Values(l)))) == len(l)
		}
	}
	return false
}

// nodesOf returns the number of the nodes of p, and how deep it is.
func nodesOf(p proof) (nodes, deep int) {
	for _, sub := range p.Sub {
		n, d := nodesOf(sub)
		nodes, deep = nodes+n, max(deep, d)
	}
	return nodes + 1, deep + 1
}

// isProof reports whether p is a proof that the makespan is at least v.
func isProof(s shop, v int, p proof) bool {
	nodes, deep := nodesOf(p)
	_, pairs := opsOf(s)
	return nodes <= 2000 && deep <= 30 && proves(s, pairs, v, p)
}

// proves reports whether p proves it for a set of pairs, those of the jobs among
// them.
func proves(s shop, pairs []pair, v int, p proof) bool {
	if hasCycle(pairs) {
		return true
	}
	if len(p.Sub) == 0 {
		if p.A != 0 || p.B != 0 || len(p.Set) == 0 || !areTogether(s, p.Set...) {
			return false
		}
		var times []int
		for _, o := range slices.Concat(s.Jobs...) {
			times = append(times, o.Time)
		}
		return boundOf(startsOf(s, pairs), times, tailsOf(s, pairs), p.Set) >= v
	}
	with := func(x, y int) []pair {
		if slices.Contains(pairs, pair{x, y}) {
			return pairs
		}
		return append(slices.Clone(pairs), pair{x, y})
	}
	return len(p.Set) == 0 && len(p.Sub) == 2 && areTogether(s, p.A, p.B) &&
		proves(s, with(p.A, p.B), v, p.Sub[0]) && proves(s, with(p.B, p.A), v, p.Sub[1])
}

// drawn returns a shop with at most so many machines and jobs, and Times up to
// high.
func drawn(r *rand.Rand, machines, jobs, high int) shop {
	for {
		s := shop{Machines: 1 + r.Intn(machines)}
		for range 1 + r.Intn(jobs) {
			var job []op
			for _, m := range r.Perm(s.Machines)[:1+r.Intn(s.Machines)] {
				job = append(job, op{m, 1 + r.Intn(high)})
			}
			s.Jobs = append(s.Jobs, job)
		}
		if len(slices.Concat(s.Jobs...)) <= 9 {
			return s
		}
	}
}

// large returns a shop of 9 operations: 3 jobs with 3 each, or 4, 4 and 1, or 4, 3
// and 2.
func large(r *rand.Rand, high int) shop {
	sizes := [][]int{{3, 3, 3}, {4, 4, 1}, {1, 4, 4}, {4, 3, 2}, {2, 3, 4}}[r.Intn(5)]
	s := shop{Machines: max(3+r.Intn(2), slices.Max(sizes))}
	for _, n := range sizes {
		var job []op
		for _, m := range r.Perm(s.Machines)[:n] {
			job = append(job, op{m, 1 + r.Intn(high)})
		}
		s.Jobs = append(s.Jobs, job)
	}
	return s
}

// two is the shop of examples 1 and 3.
func two() shop {
	return shop{2, [][]op{{{0, 3}, {1, 2}}, {{0, 2}, {1, 4}}}}
}

// named returns shops that the tests have in common.
func named() []shop {
	same := func(machines, jobs int, job ...op) shop {
		return shop{machines, slices.Repeat([][]op{job}, jobs)}
	}
	apart := func(s shop) shop {
		for k := range s.Jobs {
			s.Jobs[k] = slices.Clone(s.Jobs[k])
		}
		return s
	}
	all := []shop{
		two(),
		same(1, 1, op{0, 1}), same(1, 1, op{0, 20}), same(4, 1, op{3, 1}), same(4, 1, op{0, 20}),
		same(1, 3, op{0, 20}), same(1, 3, op{0, 1}), same(4, 3, op{2, 7}), same(2, 2, op{0, 5}, op{1, 5}),
		same(4, 1, op{3, 20}, op{1, 1}, op{2, 20}, op{0, 1}), same(4, 2, op{0, 1}, op{1, 20}, op{2, 1}, op{3, 20}),
		same(3, 3, op{0, 20}, op{1, 20}, op{2, 20}), same(4, 3, op{3, 1}, op{1, 2}, op{2, 3}), same(3, 3, op{0, 1}, op{1, 1}, op{2, 1}),
		// Jobs that go through the machines in opposite directions.
		{2, [][]op{{{0, 3}, {1, 2}}, {{1, 2}, {0, 4}}}},
		{2, [][]op{{{0, 1}, {1, 20}}, {{1, 20}, {0, 1}}, {{1, 1}, {0, 20}}}},
		{4, [][]op{{{0, 3}, {1, 2}, {2, 5}, {3, 1}}, {{3, 2}, {2, 4}, {1, 1}, {0, 7}}, {{2, 6}}}},
		{3, [][]op{{{0, 4}, {1, 4}, {2, 4}}, {{1, 4}, {2, 4}, {0, 4}}, {{2, 4}, {0, 4}, {1, 4}}}},
		{3, [][]op{{{0, 5}, {1, 3}, {2, 7}}, {{2, 6}, {1, 3}, {0, 4}}, {{1, 9}, {0, 2}, {2, 2}}}},
		{4, [][]op{{{0, 20}, {1, 19}, {2, 18}, {3, 17}}, {{3, 20}, {1, 20}, {0, 20}}, {{1, 20}, {3, 20}}}},
	}
	for k := range all {
		all[k] = apart(all[k])
	}
	return all
}

// shops returns the named shops and some that are drawn.
func shops() []shop {
	out := named()
	r := rand.New(rand.NewSource(8))
	for k := range 300 {
		out = append(out, drawn(r, 4, 3, []int{1, 4, 20}[k%3]))
	}
	for k := range 90 {
		out = append(out, large(r, []int{3, 10, 20}[k%3]))
	}
	return out
}
