package batch_test

import (
	"math"
	"math/rand"
	"reflect"
	"slices"
	"testing"

	"massecuite/api"
	"massecuite/batch"
)

// results are those of all functions of shops.
type results struct {
	starts        []int
	span, least   int
	best, weights [][]int
	proof         proof
	proven        bool
	errs          [6]api.Errno
}

// called returns the results of all functions of shops.
func called(s shop, order [][]int, v int, p proof) results {
	var r results
	r.starts, r.errs[0] = batch.Starts(s, order)
	r.span, r.errs[1] = batch.Makespan(s, order)
	r.best, r.least, r.errs[2] = batch.Best(s)
	r.proof, r.errs[3] = batch.Prove(s, v)
	r.proven, r.errs[4] = batch.Check(s, v, p)
	r.weights, r.errs[5] = batch.Weights(s, order)
	return r
}

// isNothing reports whether r has nothing but errors.
func (r results) isNothing() bool {
	return len(r.starts)+len(r.best)+len(r.weights) == 0 && r.span == 0 && r.least == 0 && isZero(r.proof) && !r.proven
}

// checkInvalid tests that all functions say ErrArg, whatever the other arguments
// are.
func checkInvalid(t *testing.T, s shop) {
	t.Helper()
	want := [6]api.Errno(slices.Repeat([]api.Errno{api.ErrArg}, 6))
	for _, v := range []int{0, 8, 1000, -1, 1001} {
		for k, order := range [][][]int{nil, {{0}}, {{0, 2}, {1, 3}}, {{1, 0}, {3, 2}}, {{2, 0}, {3, 1}, nil}} {
			p := []proof{leaf(0), leaf(1, 3), {}, branch(0, 2, leaf(1, 3), leaf(1, 3)), leaf(-1)}[k]
			if r := called(s, order, v, p); !r.isNothing() || r.errs != want {
				t.Errorf("%.200v %v %v %v %v", s, order, v, p, r)
			}
		}
	}
}

// checkValid tests that all functions say OK, for an order of their own.
func checkValid(t *testing.T, s shop) {
	t.Helper()
	order, least, e := batch.Best(s)
	if e != api.OK {
		t.Error("Best", s, e)
	}
	p, _ := batch.Prove(s, least)
	r := called(s, order, least, p)
	large := len(r.starts) > 6
	if large && r.errs[5] == api.ErrArg {
		r.errs[5] = api.OK
	}
	if r.errs != [6]api.Errno{} || r.span != least || !r.proven || large != (len(r.weights) == 0) {
		t.Error(s, order, least, r)
	}
}

// repeated returns a shop of so many jobs with so many operations each, on the
// machines from the last one on.
func repeated(machines, jobs, long int) shop {
	s := shop{Machines: machines}
	for range jobs {
		var job []op
		for k := range long {
			job = append(job, op{machines - 1 - k, 1 + k})
		}
		s.Jobs = append(s.Jobs, job)
	}
	return s
}

// P8.1 to P8.5: ErrArg for what is no shop, at each limit and one beyond it: its
// machines, jobs and operations.
func TestInvalidSizes(t *testing.T) {
	for machines := -1; machines <= 6; machines++ {
		for jobs := 0; jobs <= 5; jobs++ {
			for long := 0; long <= 6; long++ {
				s := repeated(machines, jobs, long)
				ok := 1 <= machines && machines <= 4 && 1 <= jobs && jobs <= 3 && 1 <= long && long <= machines && jobs*long <= 9
				if ok {
					checkValid(t, s)
				} else {
					checkInvalid(t, s)
				}
			}
		}
	}
	// 9 operations together and 10, of jobs that are not as long.
	long := func(n int) []op { return repeated(4, 1, n).Jobs[0] }
	checkValid(t, shop{4, [][]op{long(4), long(4), long(1)}})
	checkValid(t, shop{4, [][]op{long(2), long(3), long(4)}})
	checkInvalid(t, shop{4, [][]op{long(4), long(4), long(2)}})
	checkInvalid(t, shop{4, [][]op{long(3), long(3), long(4)}})
	checkInvalid(t, shop{4, [][]op{long(4), long(4), long(4)}})
	checkInvalid(t, shop{4, [][]op{long(1), long(1), long(1), long(1)}})
	// A job without operations beside others.
	checkInvalid(t, shop{4, [][]op{nil}})
	checkInvalid(t, shop{4, [][]op{{}, long(2)}})
	checkInvalid(t, shop{4, [][]op{long(2), nil, long(2)}})
	checkInvalid(t, shop{4, [][]op{long(2), long(2), {}}})
	// Many of all.
	checkInvalid(t, shop{4, make([][]op, 100_000)})
	checkInvalid(t, shop{4, slices.Repeat([][]op{long(1)}, 100_000)})
	checkInvalid(t, shop{4, [][]op{slices.Repeat(long(1), 100_000)}})
	checkInvalid(t, shop{})
	for _, x := range []int{5, 0, -1, 100, 1 << 32, 2 + 1<<32, -1 << 32, math.MaxInt, math.MinInt} {
		s := two()
		s.Machines = x
		checkInvalid(t, s)
	}
}

// P8.1 to P8.5: the same for the Machine and the Time of each operation.
func TestInvalidOperations(t *testing.T) {
	for _, s := range named() {
		for j, job := range s.Jobs {
			for k, o := range job {
				for _, m := range []int{-1, s.Machines, s.Machines + 1, 4, -4, 64, 1 << 32, 1<<32 + o.Machine, math.MaxInt, math.MinInt} {
					job[k].Machine = m
					checkInvalid(t, s)
				}
				job[k].Machine = o.Machine
				for _, x := range []int{0, 21, -1, -20, 1 << 32, 1<<32 + 1, math.MaxInt, math.MinInt} {
					job[k].Time = x
					checkInvalid(t, s)
				}
				for _, x := range []int{1, 20} {
					job[k].Time = x
					checkValid(t, s)
				}
				job[k].Time = o.Time
				for other := range job {
					if other != k {
						// A job with two operations on one machine.
						job[k].Machine = job[other].Machine
						checkInvalid(t, s)
						job[k].Machine = o.Machine
					}
				}
			}
			if len(job) < s.Machines {
				s.Jobs[j] = append(slices.Clone(job), job[0])
				checkInvalid(t, s)
				s.Jobs[j] = append([]op{job[len(job)-1]}, job...)
				checkInvalid(t, s)
				s.Jobs[j] = job
			}
		}
		checkValid(t, s)
	}
}

// P8.4: ErrArg for a v that is not from 0 to 1000, and for no other p.
func TestInvalidBounds(t *testing.T) {
	for _, s := range named() {
		for _, v := range []int{-1, 1001, -1000, 1 << 32, 1<<32 + 1, -1 << 32, math.MaxInt, math.MinInt} {
			if p, e := batch.Prove(s, v); !isZero(p) || e != api.ErrArg {
				t.Error("Prove", s, v, p, e)
			}
			for _, p := range []proof{{}, leaf(0), branch(0, 2, leaf(1, 3), leaf(1, 3)), leaf(-1)} {
				if ok, e := batch.Check(s, v, p); ok || e != api.ErrArg {
					t.Error("Check", s, v, p, ok, e)
				}
			}
		}
		if p, e := batch.Prove(s, 1000); !isZero(p) || e != api.ErrNone {
			t.Error("Prove", s, p, e)
		}
		checkProof(t, s, 1000, leaf(0), false)
		checkProof(t, s, 0, leaf(0), true)
		checkProof(t, s, 0, leaf(), false)
	}
}

// copied returns a shop that shares no memory with s.
func copied(s shop) shop {
	c := shop{Machines: s.Machines}
	for _, job := range s.Jobs {
		c.Jobs = append(c.Jobs, slices.Clone(job))
	}
	return c
}

// numbersOf returns all slices of numbers in r.
func numbersOf(r results) [][]int {
	return slices.Concat([][]int{r.starts}, r.best, r.weights, setsOf(r.proof))
}

// setsOf returns the sets of a proof.
func setsOf(p proof) [][]int {
	out := [][]int{p.Set}
	for _, sub := range p.Sub {
		out = append(out, setsOf(sub)...)
	}
	return out
}

// Rules 2 and 4: the same results each time, no argument changed, and no memory
// shared by two of the arguments and results.
func TestRules(t *testing.T) {
	r := rand.New(rand.NewSource(12))
	for _, s := range shops() {
		all := ordersOf(s)
		order := all[r.Intn(len(all))]
		v := max(0, leastBy(t, s)-r.Intn(4))
		p, _ := batch.Prove(s, v)
		q, _ := batch.Prove(s, v)
		c, other := copied(s), slices.Clone(order)
		for m := range order {
			// What is behind the end of a slice is no part of it.
			other[m] = append(slices.Clone(order[m]), 5, 5, 5)[:len(order[m])]
		}
		first, second := called(c, other, v, p), called(c, other, v, p)
		if !reflect.DeepEqual(c, s) || !slices.EqualFunc(other, order, slices.Equal) || !reflect.DeepEqual(p, q) {
			t.Fatal("changed", s, order, c, other, p, q)
		}
		if !reflect.DeepEqual(first, second) {
			t.Fatal("not the same", s, first, second)
		}
		checkNotShared(t, slices.Concat(numbersOf(first), numbersOf(second), other)...)
		if third := called(s, order, v, q); third.span != second.span || third.least != second.least || !reflect.DeepEqual(third.proof, q) {
			t.Fatal("kept", s, third, q)
		}
	}
}

// checkNotShared tests that no two of the slices share memory.
func checkNotShared(t *testing.T, all ...[]int) {
	t.Helper()
	for k, x := range all {
		whole := x[:cap(x)]
		for i := range whole {
			whole[i] = 777 + k
		}
	}
	for k, x := range all {
		for _, y := range x[:cap(x)] {
			if y != 777+k {
				t.Fatal("shared", k)
			}
		}
	}
}

// Rules 2 and 4 for tasks.
func TestRulesOfTasks(t *testing.T) {
	r := rand.New(rand.NewSource(13))
	for range 200 {
		n := 1 + r.Intn(8)
		var lists [3][]int
		for k := range lists {
			for range n {
				lists[k] = append(lists[k], 1+r.Intn(9))
			}
			lists[k] = append(lists[k], 5, 5, 5)[:n]
		}
		before := [3][]int{slices.Clone(lists[0]), slices.Clone(lists[1]), slices.Clone(lists[2])}
		x, e := batch.Jackson(lists[0], lists[1], lists[2])
		first, e2 := batch.Group(lists[0], lists[1], lists[2])
		y, e3 := batch.Jackson(lists[0], lists[1], lists[2])
		second, e4 := batch.Group(lists[0], lists[1], lists[2])
		if x != y || !slices.Equal(first, second) || max(e, e2, e3, e4) != api.OK {
			t.Fatal("not the same", lists, x, y, first, second)
		}
		for k := range lists {
			if !slices.Equal(lists[k][:n+3], append(before[k], 5, 5, 5)) {
				t.Fatal("changed", lists, before)
			}
		}
		checkNotShared(t, first, second, lists[0], lists[1], lists[2])
	}
}

// Rule 4: a nil slice and an empty one are the same.
func TestNil(t *testing.T) {
	for _, none := range [][]int{nil, {}} {
		s := shop{3, [][]op{{{1, 4}, {2, 5}}}}
		checkStarts(t, s, [][]int{none, {0}, {1}}, 9, 0, 4)
		if m, e := batch.Weights(s, [][]int{none, {0}, {1}}); len(m) != 6 || m[0][1] != 4 || e != api.OK {
			t.Error(m, e)
		}
		checkNoStarts(t, s, [][]int{none, none, none}, api.ErrForm)
		checkNoTasks(t, none, none, none)
		for _, sub := range [][]proof{nil, {}} {
			checkGood(t, two(), 8, proof{Set: []int{1, 3}, Sub: sub})
			checkProof(t, two(), 0, proof{Set: none, Sub: sub}, false)
			checkGood(t, two(), 8, proof{A: 0, B: 2, Set: none, Sub: []proof{{Set: []int{1, 3}, Sub: sub}, leaf(1, 3)}})
		}
	}
	checkNoStarts(t, two(), [][]int{}, api.ErrForm)
	checkInvalid(t, shop{1, nil})
	checkInvalid(t, shop{1, [][]op{}})
}
