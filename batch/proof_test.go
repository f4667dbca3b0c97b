package batch_test

import (
	"fmt"
	"math"
	"math/rand"
	"slices"
	"testing"

	"massecuite/api"
	"massecuite/batch"
)

// checkProof tests that Check accepts p or not.
func checkProof(t *testing.T, s shop, v int, p proof, want bool) {
	t.Helper()
	if ok, e := batch.Check(s, v, p); ok != want || e != api.OK {
		t.Errorf("Check %v %v %v %v want %v of %.300s", s, v, ok, e, want, fmt.Sprint(p))
	}
}

// checkGood tests that Check accepts p for v, and not for more.
func checkGood(t *testing.T, s shop, v int, p proof) {
	t.Helper()
	for _, x := range []int{0, v - 1, v, v + 1, v + 100, 1000} {
		if x >= 0 && x <= 1000 {
			checkProof(t, s, x, p, x <= v)
		}
	}
}

// isZero reports whether p has nothing.
func isZero(p proof) bool {
	return p.A == 0 && p.B == 0 && len(p.Sub) == 0 && len(p.Set) == 0
}

// leaf returns a leaf.
func leaf(set ...int) proof { return proof{Set: set} }

// branch returns a branch.
func branch(a, b int, first, second proof) proof {
	return proof{A: a, B: b, Sub: []proof{first, second}}
}

// Example 3.
func TestExampleOfProofs(t *testing.T) {
	p, e := batch.Prove(two(), 8)
	if e != api.OK || !slices.Equal(p.Set, []int{1, 3}) || len(p.Sub) > 0 || p.A != 0 || p.B != 0 {
		t.Error(p, e)
	}
	checkGood(t, two(), 8, leaf(1, 3))
}

// P8.4, P8.6: Prove is OK just for the v up to the least makespan, and Check
// accepts its proofs, as the chapter defines them.
func TestProve(t *testing.T) {
	branches, deepest := 0, 0
	for _, s := range shops() {
		least := leastOf(s)
		for _, v := range []int{0, 1, least / 2, least - 2, least - 1, least, least + 1, least + 2, 2 * least, 180, 181, 1000} {
			if v < 0 {
				continue
			}
			p, e := batch.Prove(s, v)
			if v > least {
				if e != api.ErrNone || !isZero(p) {
					t.Error("Prove", s, v, p, e, "want none above", least)
				}
				continue
			}
			nodes, deep := nodesOf(p)
			if e != api.OK || !isProof(s, v, p) {
				t.Error("Prove", s, v, p, e)
			}
			checkProof(t, s, v, p, true)
			checkProof(t, s, least+1, p, false)
			if nodes > 1 {
				branches++
			}
			deepest = max(deepest, deep)
		}
	}
	if branches < 80 || deepest < 7 {
		t.Error("too few branches", branches, deepest)
	}
}

// P8.4: each v for some shops.
func TestProveAll(t *testing.T) {
	for _, s := range named() {
		least := leastOf(s)
		for v := range 1001 {
			p, e := batch.Prove(s, v)
			if (e == api.OK) != (v <= least) || e != api.OK && (e != api.ErrNone || !isZero(p)) {
				t.Fatal("Prove", s, v, p, e, least)
			}
			if e == api.OK {
				checkProof(t, s, v, p, true)
			}
		}
	}
}

// drawnProof returns branches and leaves for s, at most so deep, that may be a proof
// or not.
func drawnProof(r *rand.Rand, s shop, deep int) proof {
	n := len(slices.Concat(s.Jobs...))
	all := onMachine(s, r.Intn(s.Machines))
	if len(all) == 0 {
		all = []int{r.Intn(n)}
	}
	r.Shuffle(len(all), func(i, j int) { all[i], all[j] = all[j], all[i] })
	if deep == 1 || len(all) < 2 || r.Intn(5) == 0 {
		return leaf(all[:1+r.Intn(len(all))]...)
	}
	return branch(all[0], all[1], drawnProof(r, s, deep-1), drawnProof(r, s, deep-1))
}

// changed returns p with something else in one of its nodes.
func changed(r *rand.Rand, s shop, p proof) proof {
	if len(p.Sub) > 0 && r.Intn(3) > 0 {
		p.Sub = slices.Clone(p.Sub)
		k := r.Intn(len(p.Sub))
		p.Sub[k] = changed(r, s, p.Sub[k])
		return p
	}
	x := r.Intn(len(slices.Concat(s.Jobs...))+2) - 1
	switch r.Intn(9) {
	case 0:
		p.A = x
	case 1:
		p.B = x
	case 2:
		p.A, p.B = p.B, p.A
	case 3:
		p.Set = append(slices.Clone(p.Set), x)
	case 4:
		p.Set = slices.Delete(slices.Clone(p.Set), 0, min(len(p.Set), 1))
	case 5:
		p.Sub = append(slices.Clone(p.Sub), leaf(max(x, 0)))
	case 6:
		p.Sub = slices.Delete(slices.Clone(p.Sub), 0, min(len(p.Sub), 1))
	case 7:
		p.Sub = slices.Clone(p.Sub)
		slices.Reverse(p.Sub)
	case 8:
		p = drawnProof(r, s, 1+r.Intn(3))
	}
	return p
}

// P8.4: Check as the chapter defines it, for proofs that are drawn, and for those
// of Prove in which something has changed. P8.6: no proof that it accepts is for
// more than the least makespan.
func TestCheck(t *testing.T) {
	r := rand.New(rand.NewSource(11))
	right, wrong := 0, 0
	for _, s := range shops() {
		least := leastOf(s)
		for k := range 60 {
			v := max(0, least-r.Intn(5))
			p := drawnProof(r, s, 1+r.Intn(5))
			if k%2 == 0 {
				p, _ = batch.Prove(s, v)
			}
			if k%4 > 0 {
				p = changed(r, s, p)
			}
			v = []int{0, least / 4, least / 2, v, v, v + 1, least + 1}[r.Intn(7)]
			want := isProof(s, v, p)
			if want && v > least {
				t.Fatal("proof above the least makespan", s, v, p, least)
			}
			checkProof(t, s, v, p, want)
			if want {
				right++
			} else {
				wrong++
			}
		}
	}
	if right < 3000 || wrong < 3000 {
		t.Error("too few", right, wrong)
	}
}

// P8.4: the heads and tails of the pairs, and the bound of a set.
func TestCheckBound(t *testing.T) {
	for x, v := range []int{5, 5, 6, 6} {
		checkGood(t, two(), v, leaf(x))
	}
	checkGood(t, two(), 7, leaf(0, 2))
	checkGood(t, two(), 7, leaf(2, 0))
	checkGood(t, two(), 8, leaf(3, 1))
	// With 0 before 2, operation 3 begins at 5; with 2 before 0, 1 begins at 5.
	checkGood(t, two(), 7, branch(0, 2, leaf(3), leaf(1)))
	checkGood(t, two(), 7, branch(2, 0, leaf(1), leaf(3)))
	checkGood(t, two(), 5, branch(0, 2, leaf(1), leaf(3)))
	checkGood(t, two(), 5, branch(2, 0, leaf(3), leaf(1)))
	checkGood(t, two(), 8, branch(0, 2, leaf(1, 3), leaf(1, 3)))
	// With 1 before 3 the tail of 0 is 6, with 3 before 1 that of 2 is.
	checkGood(t, two(), 8, branch(1, 3, leaf(0), leaf(2)))
	checkGood(t, two(), 7, branch(1, 3, leaf(0), leaf(0, 2)))
	checkGood(t, two(), 5, branch(1, 3, leaf(2), leaf(0)))
	// Both pairs: orders of 13, 9, 8 and 9.
	checkGood(t, two(), 8, branch(0, 2, branch(1, 3, leaf(3), leaf(1)), branch(1, 3, leaf(3), leaf(1))))
}

// opposite is a shop whose jobs go through the machines in opposite directions.
func opposite() shop {
	return shop{2, [][]op{{{0, 3}, {1, 2}}, {{1, 2}, {0, 4}}}}
}

// noProofs returns what is no proof of anything, if there is no cycle.
func noProofs() []proof {
	good := leaf(1, 3)
	return []proof{
		{}, {A: 0, B: 2}, {A: 1, B: 3}, {Set: []int{}}, {Sub: []proof{}}, // nothing below a branch, and no operation
		leaf(1, 1), leaf(1, 3, 1), leaf(3, 3, 3), leaf(1, 3, 1, 3), // twice
		leaf(0, 1), leaf(1, 2), leaf(0, 1, 2, 3), leaf(2, 3), leaf(1, 3, 0), // of different machines
		leaf(-1), leaf(4), leaf(9), leaf(1, 3, 4), leaf(1, 3, -1), leaf(-1, 1), leaf(4, 0), leaf(64), leaf(65), // no numbers
		leaf(math.MaxInt), leaf(math.MinInt), leaf(1 << 32), leaf(1+1<<32, 3), leaf(1, 3, math.MinInt), leaf(slices.Repeat([]int{1, 3}, 100_000)...),
		{A: 1, Set: []int{1, 3}}, {B: 1, Set: []int{1, 3}}, {A: 1, B: 3, Set: []int{1, 3}}, {A: -1, Set: []int{1, 3}}, {B: math.MinInt, Set: []int{1, 3}},
		branch(0, 0, good, good), branch(1, 1, good, good), branch(3, 3, good, good), // the same operation
		branch(0, 1, good, good), branch(1, 0, good, good), branch(0, 3, good, good), branch(2, 3, good, good), branch(1, 2, good, good), // of different machines
		branch(-1, 1, good, good), branch(1, -1, good, good), branch(-1, -2, good, good), branch(1, 4, good, good), branch(4, 3, good, good), branch(4, 5, good, good), branch(0, 9, good, good),
		branch(math.MaxInt, 1, good, good), branch(1, math.MinInt, good, good), branch(1<<32, 2, good, good), branch(0, 2+1<<32, good, good), branch(64, 2, good, good),
		{A: 0, B: 2, Sub: []proof{good, good}, Set: []int{1, 3}}, {A: 0, B: 2, Sub: []proof{good, good}, Set: []int{0}}, // a set
		{A: 0, B: 2, Sub: []proof{good}}, {A: 0, B: 2, Sub: []proof{good, good, good}}, {A: 0, B: 2, Sub: slices.Repeat([]proof{good}, 4)}, // other numbers below
		{Sub: []proof{good, good}}, {Sub: []proof{good}}, {Sub: []proof{good}, Set: []int{1, 3}}, {Sub: []proof{good, good}, Set: []int{1, 3}},
	}
}

// P8.4: what is no proof, alone and below a branch, whatever v is; but below a
// pair that makes a cycle it is one.
func TestNoProofs(t *testing.T) {
	good := leaf(1, 3)
	for _, x := range noProofs() {
		for _, p := range []proof{
			x, branch(0, 2, x, good), branch(0, 2, good, x), branch(1, 3, x, good), branch(0, 2, good, branch(1, 3, good, x)),
			branch(0, 2, branch(0, 2, x, good), good), branch(0, 2, branch(2, 0, good, x), good), branch(0, 2, good, branch(0, 2, good, x)),
		} {
			for _, v := range []int{0, 1, 8} {
				checkProof(t, two(), v, p, false)
			}
		}
		checkGood(t, two(), 8, branch(0, 2, branch(2, 0, x, good), good))
		checkGood(t, two(), 8, branch(0, 2, branch(0, 2, good, x), good))
		checkGood(t, two(), 8, branch(0, 2, good, branch(0, 2, x, good)))
		checkGood(t, two(), 8, branch(0, 2, good, branch(2, 0, good, x)))
		// A cycle with the jobs' orders: 3 before 0, and 1 before 2.
		checkGood(t, opposite(), 7, branch(0, 3, leaf(3), branch(1, 2, x, leaf(1))))
		checkGood(t, opposite(), 7, branch(3, 0, branch(2, 1, leaf(1), x), leaf(0)))
		checkGood(t, opposite(), 7, branch(1, 2, branch(3, 0, x, leaf(0)), leaf(0, 3)))
	}
	checkProof(t, opposite(), 0, branch(0, 3, leaf(), branch(1, 2, leaf(), leaf(1))), false)
	checkProof(t, opposite(), 0, branch(0, 3, leaf(3), branch(1, 2, leaf(1), leaf())), false)
	checkProof(t, opposite(), 0, branch(0, 3, branch(1, 2, leaf(), leaf(0)), leaf(3)), false)
	checkProof(t, opposite(), 0, branch(0, 3, leaf(3), branch(2, 1, leaf(), leaf(1))), false)
}

// chain returns a proof below the pair 0 before 2 that is so deep, in which each
// branch has what is no proof beside the next one.
func chain(deep int) proof {
	if deep == 1 {
		return leaf(3)
	}
	if deep%2 == 0 {
		return branch(0, 2, chain(deep-1), proof{})
	}
	return branch(2, 0, leaf(7), chain(deep-1))
}

// line returns what is so deep, with one node below each.
func line(deep int) proof {
	if deep == 1 {
		return proof{}
	}
	return proof{Sub: []proof{line(deep - 1)}}
}

// P8.4: a proof is at most 30 deep, also below a pair that makes a cycle.
func TestDeepProofs(t *testing.T) {
	good := leaf(1, 3)
	for _, deep := range []int{3, 4, 28, 29, 30, 31, 32, 33, 40, 100, 900} {
		for _, p := range []proof{
			branch(0, 2, chain(deep-1), good), branch(2, 0, good, chain(deep-1)),
			branch(0, 2, branch(2, 0, line(deep-2), good), good), branch(0, 2, good, branch(0, 2, line(deep-2), good)),
		} {
			if _, d := nodesOf(p); d != deep {
				t.Fatal(p, d, deep)
			}
			checkProof(t, two(), 8, p, deep <= 30)
			checkProof(t, two(), 0, p, deep <= 30)
			checkProof(t, two(), 9, p, false)
		}
	}
}

// P8.4: a proof has at most 2000 nodes, those below a pair that makes a cycle
// among them.
func TestLargeProofs(t *testing.T) {
	good := leaf(1, 3)
	for _, n := range []int{7, 100, 1998, 1999, 2000, 2001, 2002, 4000, 100_000} {
		// Both have n - 4 nodes.
		wide := proof{Sub: make([]proof, n-5)}
		high := proof{Sub: []proof{{Sub: make([]proof, (n-7)/2)}, {Sub: make([]proof, n-7-(n-7)/2)}}}
		for _, x := range []proof{wide, high} {
			for _, p := range []proof{branch(0, 2, branch(2, 0, x, good), good), branch(0, 2, good, branch(2, 0, good, x))} {
				if nodes, _ := nodesOf(p); nodes != n {
					t.Fatal(n, nodes)
				}
				checkProof(t, two(), 8, p, n <= 2000)
				checkProof(t, two(), 0, p, n <= 2000)
				checkProof(t, two(), 9, p, false)
			}
		}
	}
	// Branches of which none is needed: 1023 and 2047 nodes.
	s := shop{1, [][]op{{{0, 1}}, {{0, 2}}, {{0, 3}}}}
	full := leaf(0, 1, 2)
	for deep := 1; deep <= 12; deep++ {
		if deep <= 10 {
			checkGood(t, s, 6, full)
		} else {
			checkProof(t, s, 6, full, false)
		}
		full = branch(deep%3, (deep+1)%3, full, full)
	}
}

// Rule 1: Check returns also for what contains itself.
func TestEndlessProofs(t *testing.T) {
	one, both := make([]proof, 1), make([]proof, 2)
	one[0] = proof{Sub: one}
	both[0], both[1] = branch(0, 2, leaf(1, 3), leaf(1, 3)), branch(0, 2, leaf(1, 3), leaf(1, 3))
	both[0].Sub, both[1].Sub = both, both
	for _, v := range []int{0, 8, 9} {
		checkProof(t, two(), v, one[0], false)
		checkProof(t, two(), v, both[0], false)
		checkProof(t, two(), v, branch(0, 2, branch(2, 0, both[0], leaf(1, 3)), leaf(1, 3)), false)
	}
	checkProof(t, two(), 0, proof{Sub: make([]proof, 10_000_000)}, false)
}
