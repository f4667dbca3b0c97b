package logic_test

import (
	"math/rand"
	"testing"

	"massecuite/api"
	"massecuite/logic"
)

// checkSat tests which states satisfy a formula.
func checkSat(t *testing.T, s structure, f formula, want int) {
	t.Helper()
	if x, e := logic.Sat(s, f); x != want || e != api.OK {
		t.Error("Sat", s, printed(f), x, e, want)
	}
}

// read returns the formula of a string.
func read(t *testing.T, text string) formula {
	t.Helper()
	f, e := logic.Parse(text)
	if e != api.OK {
		t.Fatal(text, e)
	}
	return f
}

// P6.2: example 1, and others that are easily seen.
func TestSat(t *testing.T) {
	two := structure{Next: []int{2, 2}, Label: []int{0, 1}}
	for text, want := range map[string]int{"EF a": 3, "AG a": 2, "EX a": 3, "EG !a": 0, "true": 3, "a": 2, "!a": 1, "b": 0, "AX a": 3, "AF a": 3, "EG a": 2,
		"E[!a U a]": 3, "A[!a U a]": 3, "E[b U a]": 2, "A[b U a]": 2, "E[true U b]": 0, "(a & !a)": 0, "(a | !a)": 3} {
		checkSat(t, two, read(t, text), want)
	}
	// State 0 stays or leaves for 1, which goes to 2 or 3; these stay.
	fork := structure{Next: []int{3, 12, 4, 8}, Label: []int{1, 2, 4, 8}}
	for text, want := range map[string]int{"EX a": 1, "AX a": 0, "EX b": 1, "AX b": 0, "EX c": 6, "AX c": 4, "EF c": 7, "AF c": 4, "EG a": 1, "AG a": 0,
		"EG (a | b)": 1, "AG (c | d)": 12, "AF (c | d)": 14, "EG !c": 11, "E[a U b]": 3, "A[a U b]": 2, "E[a U c]": 4, "E[(a | b) U c]": 7, "A[(a | b) U c]": 4,
		"A[b U (c | d)]": 14, "A[(a | b) U (c | d)]": 14, "AG EF (c | d)": 15, "EF AG c": 7, "AF AG (c | d)": 14, "EX EX EX d": 11, "A[true U true]": 15, "E[!true U a]": 1} {
		checkSat(t, fork, read(t, text), want)
	}
}

// P6.2: structures of one state and of MaxStates states, with all labels.
func TestSatOfLimits(t *testing.T) {
	for label := range 64 {
		one := structure{Next: []int{1}, Label: []int{label}}
		for k, letter := range leaves[1:] {
			want := label >> k & 1
			checkSat(t, one, node(letter), want)
			checkSat(t, one, node("!", node(letter)), 1-want)
			for _, op := range unary[1:] {
				checkSat(t, one, node(op, node(letter)), want)
			}
		}
	}
	long := chain(16, 63)
	for _, letter := range leaves[1:] {
		checkSat(t, long, node(letter), 1<<15)
		checkSat(t, long, node("AF", node(letter)), 1<<16-1)
		checkSat(t, long, node("EG", node(letter)), 1<<15)
		f := node(letter)
		for k := 14; k >= 0; k-- {
			f = node("EX", f)
			checkSat(t, long, f, 1<<16-1<<k)
		}
	}
	checkSat(t, long, node("true"), 1<<16-1)
	checkSat(t, ring(16, 1), node("AG", node("EF", node("a"))), 1<<16-1)
	checkSat(t, long, tall(60), set(far(long, tall(60))))
	checkSat(t, long, wide(200), set(far(long, wide(200))))
	checkSat(t, ring(16, 1), largest(), set(far(ring(16, 1), largest())))
}

// P6.2: all that the chapter defines, by all paths of small structures and by
// long walks in others.
func TestSatOfMany(t *testing.T) {
	for _, s := range small() {
		paths := lassos(s)
		for k, f := range simple() {
			want := meaning(s, paths, f)
			checkSat(t, s, f, set(want))
			if k%10 == 0 && set(far(s, f)) != set(want) {
				t.Fatal("the two terms of the tests differ", s, printed(f))
			}
		}
	}
	r := rand.New(rand.NewSource(6))
	for _, s := range large() {
		for range 100 {
			f := chosen(r, 1+r.Intn(40), 20)
			checkSat(t, s, f, set(far(s, f)))
		}
		f := chosen(r, 200, 60)
		checkSat(t, s, f, set(far(s, f)))
	}
}

// checkSame tests that two formulas are satisfied by the same states.
func checkSame(t *testing.T, s structure, f, g formula) {
	t.Helper()
	x, e := logic.Sat(s, f)
	y, e2 := logic.Sat(s, g)
	if x != y || e != api.OK || e2 != api.OK {
		t.Error(s, printed(f), x, e, printed(g), y, e2)
	}
}

// checkLaws tests P6.7 and P6.8 for two Kids.
func checkLaws(t *testing.T, s structure, f, g formula) {
	t.Helper()
	not := func(f formula) formula { return node("!", f) }
	checkSame(t, s, node("AX", f), not(node("EX", not(f))))
	checkSame(t, s, node("AF", f), not(node("EG", not(f))))
	checkSame(t, s, node("AG", f), not(node("EF", not(f))))
	checkSame(t, s, node("EF", f), node("EU", node("true"), f))
	checkSame(t, s, node("EF", f), node("|", f, node("EX", node("EF", f))))
	checkSame(t, s, node("EG", f), node("&", f, node("EX", node("EG", f))))
	until := node("EU", f, g)
	checkSame(t, s, until, node("|", g, node("&", f, node("EX", until))))
}

// P6.7, P6.8.
func TestLaws(t *testing.T) {
	for _, s := range small() {
		for _, f := range simple()[:8] {
			for _, g := range simple()[:8] {
				checkLaws(t, s, f, g)
			}
		}
	}
	r := rand.New(rand.NewSource(7))
	for _, s := range large() {
		for range 10 {
			checkLaws(t, s, chosen(r, 1+r.Intn(30), 20), chosen(r, 1+r.Intn(30), 20))
		}
	}
}
