package scan_test

import (
	"math/rand"
	"reflect"
	"slices"
	"testing"

	"massecuite/api"
	"massecuite/scan"
)

// checkRespond tests that Respond says this.
func checkRespond(t *testing.T, m machine, word []int, want ...int) {
	t.Helper()
	if l, e := scan.Respond(m, word); !slices.Equal(l, want) || e != api.OK {
		t.Error("Respond", m, word, l, e, "want", want)
	}
}

// checkExtract tests that Extract says this.
func checkExtract(t *testing.T, p program, want machine) {
	t.Helper()
	if m, e := scan.Extract(p); !reflect.DeepEqual(m, want) || e != api.OK {
		t.Error("Extract", p, m, e, "want", want)
	}
}

// checkMinimize tests that Minimize says this, also of itself.
func checkMinimize(t *testing.T, m, want machine) {
	t.Helper()
	for _, n := range []machine{m, want} {
		if q, e := scan.Minimize(n); !reflect.DeepEqual(q, want) || e != api.OK {
			t.Error("Minimize", n, q, e, "want", want)
		}
	}
}

// checkApart tests that Apart says this; ErrNone if there is no word.
func checkApart(t *testing.T, m, n machine, want ...int) {
	t.Helper()
	e := api.OK
	if len(want) == 0 {
		e = api.ErrNone
	}
	if l, f := scan.Apart(m, n); !slices.Equal(l, want) || f != e {
		t.Error("Apart", m, n, l, f, "want", want)
	}
}

// P9.4, P9.5, P9.6: examples 1 and 3.
func TestExampleOfMachines(t *testing.T) {
	checkExtract(t, toggle, onOff)
	two, one := machine{1, [][]int{{1}, {0}}, [][]int{{0}, {0}}}, machine{1, [][]int{{0}}, [][]int{{0}}}
	checkMinimize(t, two, one)
	checkApart(t, two, machine{1, [][]int{{0}}, [][]int{{1}}}, 0)
	checkApart(t, two, one)
	checkMinimize(t, onOff, onOff)
	checkRespond(t, onOff, []int{1, 1, 0, 1}, 0, 1, 0, 0)
}

// P9.4: the states are those values of the registers that can be reached, also if
// some are equivalent, numbered as they are first reached.
func TestExtractByHand(t *testing.T) {
	checkExtract(t, lines(line{"a", -1, "true"}), machine{1, [][]int{{0}}, [][]int{{1}}})
	checkExtract(t, lines(line{"a", 0, "not a"}), machine{1, [][]int{{1}, {0}}, [][]int{{0}, {1}}})
	checkExtract(t, lines(line{"a", 1, "true"}, line{"b", 0, "false"}), machine{1, [][]int{{0}}, [][]int{{1}}})
	checkExtract(t, lines(line{"a", -1, "true"}, line{"b", 0, "not b"}, line{"c", 0, "b"}), machine{1, [][]int{{1}, {2}, {1}}, [][]int{{1}, {1}, {1}}})
	free := program{[]string{"x", "y"}, []string{"a", "b"}, []line{{"a", 0, "y"}, {"b", 1, "x"}}}
	row := []int{1, 0, 2, 3}
	checkExtract(t, free, machine{4, [][]int{row, row, row, row}, [][]int{{2, 2, 2, 2}, {0, 0, 0, 0}, {1, 1, 1, 1}, {3, 3, 3, 3}}})
	same := free
	same.Outputs = []string{"x"}
	none := []int{0, 1, 0, 1}
	checkExtract(t, same, machine{4, [][]int{row, row, row, row}, [][]int{none, none, none, none}})
}

// P9.4: programs with 1 to 16 values of their registers, which are all that 4
// registers can have, so that none has too many. P9.10: Respond of Extract is
// Scan.
func TestExtract(t *testing.T) {
	r := rand.New(rand.NewSource(8))
	sizes := map[int]int{}
	for _, p := range causals() {
		want := extracted(p)
		sizes[len(want.Next)]++
		checkExtract(t, p, want)
		m, _ := scan.Extract(p)
		for _, n := range []int{0, 1, 2, r.Intn(100), 100} {
			word := drawnWord(r, n, m.Inputs)
			l, e := scan.Scan(p, word)
			checkRespond(t, m, word, l...)
			if e != api.OK {
				t.Error("Scan", p, word, e)
			}
		}
	}
	if len(sizes) < 12 || sizes[16] < 5 {
		t.Error("too few", sizes)
	}
	if n := len(extracted(counter(4)).Next); n != 16 {
		t.Error(n)
	}
}

// P9.5: words of no letter, of 1000 and of 1001; letters from 0 to the greatest
// one.
func TestRespond(t *testing.T) {
	r := rand.New(rand.NewSource(9))
	for k, m := range machines() {
		word := drawnWord(r, []int{0, 1, 20, 1000}[k%4], m.Inputs)
		checkRespond(t, m, word, responded(m, 0, word)...)
	}
	for _, m := range []machine{onOff, chain(16, 8), ring(0, 1, 2, 3)} {
		checkRespond(t, m, nil)
		checkRespond(t, m, []int{})
		for _, letter := range []int{0, m.Inputs - 1} {
			word := slices.Repeat([]int{letter}, 1000)
			checkRespond(t, m, word, responded(m, 0, word)...)
		}
		wrong := [][]int{make([]int, 1001), make([]int, 1e5)}
		for _, letter := range append([]int{m.Inputs, -1, 8, 64}, bounds...) {
			wrong = append(wrong, []int{letter}, []int{0, letter}, []int{letter, 0}, append(make([]int, 999), letter))
		}
		for _, word := range wrong {
			if l, e := scan.Respond(m, word); len(l) > 0 || e != api.ErrArg {
				t.Error("Respond", m, word, l, e)
			}
		}
	}
}

// P9.5: states that cannot be reached, equivalent ones, and other numbers.
func TestMinimizeByHand(t *testing.T) {
	alone := machine{2, [][]int{{0, 0}, {0, 1}, {2, 1}}, [][]int{{1, 2}, {3, 3}, {4, 4}}}
	checkMinimize(t, alone, machine{2, [][]int{{0, 0}}, [][]int{{1, 2}}})
	// State 2 is equivalent to state 0, and state 1, which cannot be reached, to 3.
	pairs := machine{1, [][]int{{3}, {2}, {3}, {2}}, [][]int{{0}, {5}, {0}, {5}}}
	checkMinimize(t, pairs, machine{1, [][]int{{1}, {0}}, [][]int{{0}, {5}}})
	// Minimal, but numbered in another order.
	checkMinimize(t, machine{2, [][]int{{2, 1}, {0, 1}, {2, 2}}, [][]int{{0, 0}, {0, 1}, {1, 0}}}, machine{2, [][]int{{1, 2}, {1, 1}, {0, 2}}, [][]int{{0, 0}, {1, 0}, {0, 1}}})
	checkMinimize(t, ring(7, make([]int, 16)...), ring(0, 0))
	checkMinimize(t, ring(0, slices.Repeat([]int{1, 2, 3, 4}, 4)...), ring(0, 1, 2, 3, 4))
	checkMinimize(t, ring(2, 1, 1, 1, 2, 1, 2, 1, 2), ring(2, 1, 1, 1, 2))
}

// P9.5, P9.11: the minimal machine is minimal and in normal form, and its state 0
// equivalent; there is no other one.
func TestMinimize(t *testing.T) {
	r := rand.New(rand.NewSource(10))
	changed := 0
	for _, m := range machines() {
		q, e := scan.Minimize(m)
		if e != api.OK {
			t.Fatal("Minimize", m, e)
		}
		if !isMinimal(q) || !isNormal(q) || q.Inputs != m.Inputs || distances(m, q)[0][0] != never {
			t.Error("Minimize", m, q)
		}
		changed += bit(!reflect.DeepEqual(m, q))
		checkMinimize(t, m, q)
		checkMinimize(t, renumbered(r, m), q)
		if len(m.Next) < 16 {
			checkMinimize(t, doubled(r, m), q)
		}
		checkApart(t, m, q)
		checkApart(t, q, m)
	}
	if changed < 300 {
		t.Error("too few", changed)
	}
}

// P9.6: machines that differ at the first letter, and only after as many letters
// as there may be; the first one of several words.
func TestApartByHand(t *testing.T) {
	checkApart(t, onOff, onOff)
	other := copied(onOff)
	other.Out[0] = []int{0, 1}
	checkApart(t, onOff, other, 1)
	other.Out[0] = []int{4, 1}
	checkApart(t, onOff, other, 0)
	other = copied(onOff)
	other.Out[1] = []int{1, 2}
	checkApart(t, onOff, other, 1, 1)
	other.Next[1] = []int{1, 1}
	checkApart(t, onOff, other, 1, 1)
	other.Out = copied(onOff).Out
	checkApart(t, onOff, other, 1, 1, 0)
	// Two states after one letter, and both part: the first letter counts.
	x := machine{2, [][]int{{1, 2}, {0, 0}, {0, 0}}, [][]int{{0, 0}, {0, 1}, {1, 0}}}
	y := machine{2, [][]int{{1, 2}, {0, 0}, {0, 0}}, [][]int{{0, 0}, {0, 2}, {2, 0}}}
	checkApart(t, x, y, 0, 1)
	// Fourteen letters 0, a 1, and again; and with one 0 more between: these are
	// apart as late as machines of 15 and 16 states can be, the next ones as late
	// as two of 16.
	ones := append(make([]int, 14), 1)
	checkApart(t, ring(0, ones...), ring(0, append(ones, 0)...), make([]int, 30)...)
	shifted := ring(1, append([]int{0}, ones...)...)
	checkApart(t, shifted, ring(0, append([]int{0}, ones...)...), make([]int, 31)...)
	for n := 2; n <= 16; n++ {
		long := chain(n, 3)
		wrong := copied(long)
		wrong.Out[n-1][2] = 0
		checkApart(t, long, wrong, slices.Repeat([]int{2}, n)...)
		checkApart(t, long, chain(n-1, 3), slices.Repeat([]int{2}, n-1)...)
	}
}

// P9.6, P9.11: drawn machines: the shortest words, the first of them, no longer
// than they may be; ErrNone just where Minimize is the same.
func TestApart(t *testing.T) {
	r := rand.New(rand.NewSource(11))
	all := machines()
	lengths := map[int]int{}
	for _, m := range all {
		for range 3 {
			n := all[r.Intn(len(all))]
			if r.Intn(2) == 0 {
				n = renumbered(r, m)
				s, i := r.Intn(len(n.Next)), r.Intn(n.Inputs)
				n.Next[s][i] = r.Intn(len(n.Next))
			}
			if n.Inputs != m.Inputs {
				if l, e := scan.Apart(m, n); len(l) > 0 || e != api.ErrArg {
					t.Error("Apart", m, n, l, e)
				}
				continue
			}
			word := firstApart(m, 0, n, 0, distances(m, n))
			lengths[len(word)]++
			checkApart(t, m, n, word...)
			checkApart(t, n, m, word...)
			if len(word) > len(m.Next)+len(n.Next)-1 {
				t.Error("too long", m, n, word)
			}
			x, e := scan.Minimize(m)
			y, e2 := scan.Minimize(n)
			if reflect.DeepEqual(x, y) != (len(word) == 0) || e != api.OK || e2 != api.OK {
				t.Error("Minimize", m, n, x, y, word)
			}
		}
	}
	if len(lengths) < 6 {
		t.Error("too few", lengths)
	}
}

// P9.6: small machines, by trying all words.
func TestApartOfSmall(t *testing.T) {
	r := rand.New(rand.NewSource(12))
	for k := range 1500 {
		letters := 1 + r.Intn(3)
		m, n := drawnMachine(r, 1+r.Intn(3), letters, 2, true), drawnMachine(r, 1+r.Intn(3), letters, 2, k%2 == 0)
		var want []int
		for _, word := range allWords(letters, 5) {
			if !slices.Equal(responded(m, 0, word), responded(n, 0, word)) {
				want = word
				break
			}
		}
		checkApart(t, m, n, want...)
	}
}
