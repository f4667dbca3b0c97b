package scan_test

import (
	"math/rand"
	"reflect"
	"slices"
	"testing"

	"massecuite/api"
	"massecuite/logic"
	"massecuite/scan"
)

// checkModel tests that Model says this.
func checkModel(t *testing.T, m machine, next, label []int) {
	t.Helper()
	if s, e := scan.Model(m); !slices.Equal(s.Next, next) || !slices.Equal(s.Label, label) || e != api.OK || !logic.Valid(s) {
		t.Error("Model", m, s, e, "want", next, label)
	}
}

// P9.8: by hand. States that cannot be reached have no pairs.
func TestModelByHand(t *testing.T) {
	checkModel(t, onOff, []int{3, 12, 12, 3}, []int{0, 0, 1, 1})
	checkModel(t, machine{1, [][]int{{0}}, [][]int{{7}}}, []int{1}, []int{7})
	checkModel(t, machine{1, [][]int{{2}, {0}, {2}}, [][]int{{1}, {2}, {4}}}, []int{2, 2}, []int{1, 4})
	// 0 and 3 can be reached, and 1 and 2 cannot.
	checkModel(t, machine{2, [][]int{{3, 0}, {1, 2}, {0, 3}, {3, 3}}, [][]int{{0, 1}, {2, 3}, {4, 5}, {6, 7}}}, []int{12, 3, 12, 12}, []int{0, 1, 6, 7})
	// Ordered by state, not as they are first reached.
	checkModel(t, machine{2, [][]int{{2, 1}, {1, 2}, {2, 0}}, [][]int{{0, 1}, {2, 3}, {4, 5}}}, []int{48, 12, 12, 48, 48, 3}, []int{0, 1, 2, 3, 4, 5})
}

// modelOf returns the Next and the Label of the Model of m.
func modelOf(m machine) (next, label []int) {
	var pairs [][2]int
	by := reachable(m)
	for s := range m.Next {
		for i := range m.Inputs {
			if by[s] != nil {
				pairs = append(pairs, [2]int{s, i})
				label = append(label, m.Out[s][i])
			}
		}
	}
	for _, p := range pairs {
		set := 0
		for k, q := range pairs {
			if q[0] == m.Next[p[0]][p[1]] {
				set |= 1 << k
			}
		}
		next = append(next, set)
	}
	return next, label
}

// P9.8: ErrSize for more than 16 pairs with states that can be reached. (There
// are none with just 17 of them: the next number is 18.)
func TestModel(t *testing.T) {
	r := rand.New(rand.NewSource(17))
	sizes := map[int]int{}
	all := slices.Clone(machines())
	for states := 1; states <= 16; states++ {
		for letters := 1; letters <= 8; letters++ {
			m := drawnMachine(r, 16, letters, 8, false)
			for s := range states {
				// Only these states can be reached.
				for i := range letters {
					m.Next[s][i] = (s + i%2) % states
				}
				m.Next[s][letters-1] = (s + 1) % states
			}
			all = append(all, m, renumbered(r, m))
		}
	}
	for _, m := range all {
		next, label := modelOf(m)
		sizes[len(next)]++
		if len(next) > 16 {
			if s, e := scan.Model(m); len(s.Next) > 0 || len(s.Label) > 0 || e != api.ErrSize {
				t.Error("Model", m, s, e)
			}
			continue
		}
		checkModel(t, m, next, label)
	}
	if sizes[16] < 20 || sizes[18] < 8 || sizes[15] < 8 {
		t.Error("too few", sizes)
	}
}

// drawnFormula returns a formula that is at most this deep.
func drawnFormula(r *rand.Rand, deep int) logic.Formula {
	ops := []string{"a", "b", "c", "true", "!", "EX", "EF", "EG", "AX", "AF", "AG", "EX", "AX", "&", "|", "EU", "AU"}
	k := r.Intn(len(ops))
	if deep == 1 {
		k = r.Intn(3)
	}
	f := logic.Formula{Op: ops[k]}
	if k >= 4 {
		f.Kids = append(f.Kids, drawnFormula(r, deep-1))
	}
	if k >= 13 {
		f.Kids = append(f.Kids, drawnFormula(r, deep-1))
	}
	return f
}

// P9.13: the Models of a machine and of its Minimize satisfy the same formulas at
// the pairs of state 0.
func TestSameFormulas(t *testing.T) {
	r := rand.New(rand.NewSource(18))
	different := 0
	for _, m := range machines() {
		q, _ := scan.Minimize(m)
		x, e := scan.Model(m)
		y, e2 := scan.Model(q)
		if e != api.OK || e2 != api.OK {
			continue
		}
		different += bit(!reflect.DeepEqual(x, y))
		first := 1<<m.Inputs - 1
		for range 30 {
			f := drawnFormula(r, 6)
			a, e := logic.Sat(x, f)
			b, e2 := logic.Sat(y, f)
			if a&first != b&first || e != api.OK || e2 != api.OK {
				t.Error("Model", m, q, f, a, b, e, e2)
			}
		}
	}
	if different < 50 {
		t.Error("too few", different)
	}
}
