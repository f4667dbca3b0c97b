package scan_test

import (
	"math/rand"
	"slices"
	"testing"

	"massecuite/api"
	"massecuite/scan"
)

// checkTests tests that CheckTests says this.
func checkTests(t *testing.T, m machine, extra int, list [][]int, want bool) {
	t.Helper()
	if ok, e := scan.CheckTests(m, extra, list); ok != want || e != api.OK {
		t.Error("CheckTests", m, extra, list, ok, e)
	}
}

// checkNoTests tests that Tests and CheckTests say e.
func checkNoTests(t *testing.T, m machine, extra int, e api.Errno) {
	t.Helper()
	if l, f := scan.Tests(m, extra); len(l) > 0 || f != e {
		t.Error("Tests", m, extra, l, f, "want", e)
	}
	for _, list := range [][][]int{nil, {{0}}, {{-1}}, allWords(3, 3)} {
		if ok, f := scan.CheckTests(m, extra, list); ok || f != e {
			t.Error("CheckTests", m, extra, ok, f, "want", e)
		}
	}
}

// tested returns what Tests does, after testing that CheckTests accepts it, and
// that it should (P9.12).
func tested(t *testing.T, m machine, extra int) [][]int {
	t.Helper()
	list, e := scan.Tests(m, extra)
	if e != api.OK || !accepted(m, extra, list) {
		t.Fatal("Tests", m, extra, list, e)
	}
	checkTests(t, m, extra, list, true)
	return list
}

// P9.7: example 4.
func TestExampleOfTests(t *testing.T) {
	all := [][]int{{0}, {0, 0}, {1, 0}, {1, 0, 0}, {1, 1, 0}}
	checkTests(t, onOff, 0, all, true)
	for _, k := range []int{1, 3, 4} {
		checkTests(t, onOff, 0, slices.Concat(all[:k], all[k+1:]), false)
	}
	checkTests(t, onOff, 0, [][]int{all[1], all[3], all[4]}, true)
	tested(t, onOff, 0)
	tested(t, onOff, 1)
}

// P9.7: the words of a machine of one state: no word parts states.
func TestOneState(t *testing.T) {
	for letters := 1; letters <= 4; letters++ {
		m := chain(1, letters)
		for extra := range 2 {
			all := allWords(letters, extra+1)
			checkTests(t, m, extra, all, true)
			longest := slices.DeleteFunc(slices.Clone(all), func(word []int) bool { return len(word) <= extra })
			checkTests(t, m, extra, longest, true)
			for k := range longest {
				checkTests(t, m, extra, slices.Concat(longest[:k], longest[k+1:]), false)
			}
			tested(t, m, extra)
		}
	}
}

// P9.7: states are reached, and parted, by the first of the shortest words alone.
func TestFirstWords(t *testing.T) {
	// Both letters lead to state 1, and both part it from state 0.
	m := machine{2, [][]int{{1, 1}, {0, 0}}, [][]int{{0, 0}, {1, 1}}}
	checkTests(t, m, 0, [][]int{{0, 0, 0}, {0, 1, 0}, {1, 0}}, true)
	checkTests(t, m, 0, [][]int{{0, 0, 0}, {0, 1, 0}, {1, 1}}, false)
	checkTests(t, m, 0, [][]int{{0, 0, 1}, {0, 1, 1}, {1, 1}, {0, 1}}, false)
	checkTests(t, m, 0, [][]int{{1, 0, 0}, {1, 1, 0}, {0, 0}}, false)
}

// families returns minimal machines that can be tested: drawn ones, and such with
// long words.
func families() []machine {
	r := rand.New(rand.NewSource(13))
	out := append(minimals(r, 40, 6, 2), minimals(r, 12, 6, 4)...)
	for n := 1; n <= 6; n++ {
		for letters := 1; letters <= 4; letters++ {
			out = append(out, renumbered(r, chain(n, letters)))
		}
	}
	return out
}

// P9.7, P9.12: for many machines, in normal form or not. Each of the words asked
// for that begins no other one must be there; others may be, in any order, and
// words may go on.
func TestTests(t *testing.T) {
	r := rand.New(rand.NewSource(14))
	odd := 0
	for _, m := range families() {
		odd += bit(!isNormal(m))
		for extra := range 2 {
			tested(t, m, extra)
			all := asked(m, extra)
			r.Shuffle(len(all), func(i, j int) { all[i], all[j] = all[j], all[i] })
			list := shortened(all)
			checkTests(t, m, extra, list, true)
			for range 4 {
				changed := slices.Clone(list)
				k := r.Intn(len(list))
				// Another letter at the end, one letter less, one more; no word.
				last := len(changed[k]) - 1
				other := append(slices.Clone(changed[k][:last]), r.Intn(m.Inputs))
				for _, word := range [][]int{other, changed[k][:last], append(slices.Clone(list[k]), 0), nil} {
					changed[k] = word
					checkTests(t, m, extra, changed, accepted(m, extra, changed))
				}
				checkTests(t, m, extra, changed, false)
			}
		}
	}
	if odd < 10 {
		t.Error("too few", odd)
	}
}

// shortened returns the words that are no beginnings of other ones.
func shortened(list [][]int) [][]int {
	begun := map[string]bool{}
	for _, word := range list {
		for k := range word {
			begun[key(word[:k])] = true
		}
	}
	var out [][]int
	for _, word := range list {
		if !begun[key(word)] {
			begun[key(word)] = true
			out = append(out, word)
		}
	}
	return out
}

// P9.7: 2000 words and 2001; words of 40 letters and of 41; letters that are
// none.
func TestWordsOfTests(t *testing.T) {
	for _, m := range []machine{onOff, chain(6, 4), chain(3, 1)} {
		list := tested(t, m, 1)
		full := slices.Concat(list, slices.Repeat([][]int{{}}, 2000-len(list)))
		checkTests(t, m, 1, full, true)
		checkTests(t, m, 1, append(full, nil), false)
		checkTests(t, m, 1, append(full, list[0]), false)
		checkTests(t, m, 1, slices.Repeat(full, 100), false)
		for k := range list {
			for _, letter := range []int{0, m.Inputs - 1} {
				longer := slices.Clone(list)
				longer[k] = append(slices.Clone(list[k]), slices.Repeat([]int{letter}, 40-len(list[k]))...)
				checkTests(t, m, 1, longer, true)
				longer[k] = append(longer[k], letter)
				checkTests(t, m, 1, longer, false)
			}
			if k > 40 {
				break
			}
		}
		checkTests(t, m, 1, append(list, make([]int, 40)), true)
		checkTests(t, m, 1, append(list, make([]int, 41)), false)
		checkTests(t, m, 1, append(list, make([]int, 1e5)), false)
		for _, letter := range append([]int{m.Inputs, -1, 4, 64}, bounds...) {
			for _, word := range [][]int{{letter}, {0, letter}, {letter, 0}, append(make([]int, 39), letter)} {
				checkTests(t, m, 1, append(list, word), false)
				checkTests(t, m, 1, append([][]int{word}, list...), false)
			}
		}
		for _, none := range [][][]int{nil, {}, {nil}, {{}}, {{0}}} {
			checkTests(t, m, 0, none, false)
		}
	}
}

// P9.7: extra from 0 to 1, minimal machines of at most 6 states, at most 4 input
// letters. ErrArg precedes ErrSize.
func TestNotTestable(t *testing.T) {
	alone, twice := machine{5, chain(1, 5).Next, chain(1, 5).Out}, machine{1, [][]int{{1}, {0}}, [][]int{{0}, {0}}}
	for _, extra := range append([]int{-2, -1, 2, 3}, bounds...) {
		checkNoTests(t, onOff, extra, api.ErrArg)
		checkNoTests(t, chain(3, 4), extra, api.ErrArg)
		checkNoTests(t, alone, extra, api.ErrArg)
	}
	for extra := range 2 {
		for letters := 1; letters <= 8; letters++ {
			for n := 1; n <= 16; n++ {
				switch m := chain(n, letters); {
				case n > 6:
					checkNoTests(t, m, extra, api.ErrArg)
				case letters > 4:
					checkNoTests(t, m, extra, api.ErrSize)
					checkNoTests(t, doubled(rand.New(rand.NewSource(int64(n))), m), extra, api.ErrArg)
				case n == 6:
					tested(t, m, extra)
				}
			}
		}
		checkNoTests(t, twice, extra, api.ErrArg)
		lost := machine{1, [][]int{{0}, {0}}, [][]int{{0}, {1}}}
		checkNoTests(t, lost, extra, api.ErrArg)
		lost = copied(chain(6, 4))
		lost.Next[4][3] = 3
		checkNoTests(t, lost, extra, api.ErrArg)
	}
}

// allMachines calls try for all machines with so many states, input letters and
// output letters. They are in the same memory.
func allMachines(states, letters, outs int, try func(machine)) {
	m := machine{Inputs: letters}
	for range states {
		m.Next, m.Out = append(m.Next, make([]int, letters)), append(m.Out, make([]int, letters))
	}
	var choose func(k int)
	choose = func(k int) {
		if k == states*letters {
			try(m)
			return
		}
		for to := range states {
			for out := range outs {
				m.Next[k/letters][k%letters], m.Out[k/letters][k%letters] = to, out
				choose(k + 1)
			}
		}
	}
	choose(0)
}

// alike reports whether two machines respond alike to all words of a list.
func alike(m, n machine, list [][]int) bool {
	for _, word := range list {
		s, u := 0, 0
		for _, i := range word {
			if m.Out[s][i] != n.Out[u][i] {
				return false
			}
			s, u = m.Next[s][i], n.Next[u][i]
		}
	}
	return true
}

// P9.7, P9.12: all machines with at most extra states more that respond alike to
// the words are equivalent.
func TestWrongMachines(t *testing.T) {
	r := rand.New(rand.NewSource(15))
	missed := 0
	for _, m := range append(minimals(r, 24, 3, 2), onOff, chain(2, 2), chain(3, 1)) {
		for extra := range 2 {
			states := len(m.Next) + extra
			if states > 3 && m.Inputs > 1 {
				continue
			}
			list := tested(t, m, extra)
			fewer := list[1:]
			allMachines(states, m.Inputs, 2, func(n machine) {
				equal := alike(m, n, list)
				if (equal || alike(m, n, fewer)) && distances(m, n)[0][0] != never {
					missed++
					if equal {
						t.Error("not found", m, extra, n)
					}
				}
			})
		}
	}
	// Fewer words are not always enough.
	if missed == 0 {
		t.Error("all found")
	}
}

// P9.12: machines that are nearly the same, and have up to 7 states.
func TestNearlyRight(t *testing.T) {
	r := rand.New(rand.NewSource(16))
	wrong := 0
	for _, m := range families() {
		for extra := range 2 {
			list := tested(t, m, extra)
			for range 150 {
				n := copied(m)
				if extra == 1 {
					n = doubled(r, m)
				}
				for range 1 + r.Intn(2) {
					s, i := r.Intn(len(n.Next)), r.Intn(n.Inputs)
					if r.Intn(4) == 0 {
						n.Out[s][i] ^= 1
					} else {
						n.Next[s][i] = r.Intn(len(n.Next))
					}
				}
				if distances(m, n)[0][0] != never {
					wrong++
					if alike(m, n, list) {
						t.Error("not found", m, extra, n)
					}
				}
			}
		}
	}
	if wrong < 3000 {
		t.Error("too few", wrong)
	}
}
