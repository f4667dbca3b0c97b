package scan_test

import (
	"math/rand"
	"slices"
	"strings"
	"testing"

	"massecuite/api"
	"massecuite/scan"
)

// checkScan tests that Scan says this.
func checkScan(t *testing.T, p program, word []int, want ...int) {
	t.Helper()
	if l, e := scan.Scan(p, word); !slices.Equal(l, want) || e != api.OK {
		t.Error("Scan", p, word, l, e, "want", want)
	}
}

// checkExec tests that Exec says this.
func checkExec(t *testing.T, p program, list []code, next, word []int, want ...int) {
	t.Helper()
	if l, e := scan.Exec(p, list, next, word); !slices.Equal(l, want) || e != api.OK {
		t.Error("Exec", p, list, next, word, l, e, "want", want)
	}
}

// checkNoExec tests that Exec says ErrArg.
func checkNoExec(t *testing.T, p program, list []code, next, word []int) {
	t.Helper()
	if l, e := scan.Exec(p, list, next, word); len(l) > 0 || e != api.ErrArg {
		t.Error("Exec", p, list, next, word, l, e)
	}
}

// compiled returns the code of p, which is causal, after testing what it has to
// be like.
func compiled(t *testing.T, p program) (list []code, next []int) {
	t.Helper()
	list, next, e := scan.Compile(p)
	if e != api.OK || len(list) > 600 || len(next) != len(p.Lines) {
		t.Fatal("Compile", p, len(list), next, e)
	}
	for _, c := range list {
		if !isInstruction(c) {
			t.Error("Compile", p, c)
		}
	}
	for j, l := range p.Lines {
		if l.Init == -1 && next[j] != -1 || l.Init >= 0 && !isSlot(next[j]) {
			t.Error("Compile", p, next)
		}
	}
	return list, next
}

func isSlot(x int) bool { return 0 <= x && x <= 599 }

// isInstruction reports whether c is an instruction.
func isInstruction(c code) bool {
	y := c.Op == 0 && (c.Y == 0 || c.Y == 1) || c.Op >= 1 && isSlot(c.Y)
	return 0 <= c.Op && c.Op <= 5 && isSlot(c.X) && y && (c.Op < 3 || isSlot(c.Z))
}

// checkRun tests Scan, and that Compile's code responds likewise (P9.9).
func checkRun(t *testing.T, p program, word []int) {
	t.Helper()
	want := scans(p, word)
	checkScan(t, p, word, want...)
	list, next := compiled(t, p)
	checkExec(t, p, list, next, word, want...)
	if l := executed(p, list, next, word); !slices.Equal(l, want) {
		t.Error("Compile", p, list, next, word, l, "want", want)
	}
}

// P9.2, P9.3: example 1, and a wire and a register that need each other.
func TestExampleOfScans(t *testing.T) {
	checkScan(t, toggle, []int{1, 1, 0, 1}, 0, 1, 0, 0)
	checkRun(t, toggle, []int{1, 1, 0, 1})
	p := lines(line{"a", -1, "not b"}, line{"b", 0, "a"})
	checkScan(t, p, []int{0, 0, 0}, 1, 0, 1)
	checkRun(t, p, []int{0, 0, 0})
}

// P9.2: an input letter has the first Input in its lowest bit, an output letter
// the first Output, which may be an Input, a wire, a register, or occur twice.
func TestLetters(t *testing.T) {
	p := program{[]string{"x", "y", "z"}, []string{"z", "x", "y"}, []line{{"w", -1, "not x"}, {"r", 1, "w"}}}
	checkScan(t, p, []int{0, 1, 2, 3, 4, 5, 6, 7}, 0, 2, 4, 6, 1, 3, 5, 7)
	p.Outputs = []string{"w", "r", "w"}
	checkScan(t, p, []int{0, 1, 2, 3, 4, 5, 6, 7}, 7, 2, 5, 2, 5, 2, 5, 2)
	p.Outputs = []string{"r"}
	checkScan(t, p, []int{0, 1, 2, 3, 4, 5, 6, 7}, 1, 1, 0, 1, 0, 1, 0, 1)
	p.Outputs = []string{"y", "y"}
	checkScan(t, p, []int{0, 1, 2, 3, 4, 5, 6, 7}, 0, 0, 3, 3, 0, 0, 3, 3)
	checkScan(t, counter(3), []int{1, 1, 0, 1}, 2, 1, 3, 2)
}

// P9.2: all registers are given their values at the same time, from the values of
// the scan, also if they stand in for each other.
func TestRegisters(t *testing.T) {
	swap := program{[]string{"go"}, []string{"a", "b", "w"}, []line{{"a", 1, "if go b a"}, {"b", 0, "if go a b"}, {"w", -1, "xor a go"}}}
	checkScan(t, swap, []int{1, 1, 0, 1, 0}, 1, 6, 5, 1, 2)
	round := lines(line{"a", 0, "c"}, line{"b", 0, "a"}, line{"c", 1, "b"})
	round.Outputs = []string{"a", "b", "c"}
	checkScan(t, round, []int{0, 0, 0, 0}, 4, 1, 2, 4)
	for _, p := range []program{swap, round} {
		checkRun(t, p, make([]int, 100))
	}
	// A register does not take part in the order of the wires.
	checkScan(t, lines(line{"w", -1, "v"}, line{"v", -1, "r"}, line{"r", 0, "not w"}), []int{0, 0, 0}, 0, 1, 0)
}

// P9.2, P9.3: every operator with all values of its operands.
func TestOperators(t *testing.T) {
	inputs := []string{"x", "y", "z"}
	for _, expr := range []string{"x", "true", "false", "not x", "and x y", "or x y", "xor x y", "if x y z", "if z y x", "if y z x", "if x true z", "if x y false", "if true x y", "if false x y",
		"and x true", "xor true y", "not not x", "if if x y z y if z y x", "and or x y xor y z", "or and x not y and not x y", "if not x not y not z"} {
		for _, init := range []int{-1, 0, 1} {
			p := program{inputs, []string{"q"}, []line{{"q", init, expr}}}
			checkRun(t, p, []int{0, 1, 2, 3, 4, 5, 6, 7, 0})
		}
	}
	checkScan(t, program{inputs, []string{"q"}, []line{{"q", -1, "if x y z"}}}, []int{0, 1, 2, 3, 4, 5, 6, 7}, 0, 0, 0, 1, 1, 0, 1, 1)
	checkScan(t, program{inputs, []string{"q"}, []line{{"q", -1, "and x not y"}}}, []int{0, 1, 2, 3}, 0, 1, 0, 0)
}

// P9.2, P9.3, P9.9: drawn programs.
func TestScan(t *testing.T) {
	r := rand.New(rand.NewSource(5))
	for _, p := range causals() {
		checkRun(t, p, drawnWord(r, r.Intn(101), 1<<len(p.Inputs)))
	}
}

// P9.3: programs with as much code as there may be: 12 Lines of 30 tokens.
func TestLongest(t *testing.T) {
	r := rand.New(rand.NewSource(6))
	leaves := []string{" true", " false", " x", " aa"}
	for _, expr := range []string{
		"not not" + strings.Repeat(" if", 9), strings.Repeat("if # # ", 9) + "not not", strings.Repeat("not ", 29),
		strings.Repeat("and ", 14) + "not", strings.Repeat("if # ", 9) + "and", strings.Repeat("if not # ", 6) + "if #",
	} {
		for _, wires := range []int{12, 11, 8} {
			for _, leaf := range leaves {
				p := program{[]string{"x", "y", "z"}, []string{"aa", "al", "ad"}, nil}
				for j := range 12 {
					init := -1
					if j >= wires {
						init = j % 2
					}
					p.Lines = append(p.Lines, line{"a" + string(rune('a'+j)), init, filled(expr, leaf)})
				}
				if leaf == " aa" {
					p.Lines[0].Expr = filled(expr, " y")
				}
				checkRun(t, p, drawnWord(r, 20, 8))
			}
		}
	}
}

// filled returns an expression of 28 to 30 tokens that begins with these, in
// which the leaves that are missing or # are of one kind.
func filled(begin, leaf string) string {
	text := strings.TrimSpace(strings.ReplaceAll(begin, " #", leaf))
	for strings.Count(text, " ") < 29 && !isExpr(text, func(string) bool { return true }) {
		text += leaf
	}
	if n := strings.Count(text, " "); n < 27 || n > 29 {
		panic(text)
	}
	return text
}

// P9.2, P9.3: words of no letter, of 100 and of 101; letters from 0 to the
// greatest one.
func TestWordsOfPrograms(t *testing.T) {
	for _, p := range []program{toggle, lines(line{"a", 0, "not a"}), {[]string{"x", "y", "z"}, []string{"x", "y", "z"}, toggle.Lines}, {[]string{"x", "y"}, []string{"x"}, toggle.Lines}} {
		list, next := compiled(t, p)
		checkScan(t, p, nil)
		checkScan(t, p, []int{})
		checkExec(t, p, list, next, nil)
		checkExec(t, p, list, next, []int{})
		greatest := 1<<len(p.Inputs) - 1
		for _, letter := range []int{0, greatest} {
			for _, n := range []int{1, 99, 100} {
				checkRun(t, p, slices.Repeat([]int{letter}, n))
			}
		}
		wrong := [][]int{make([]int, 101), make([]int, 1e5)}
		for _, letter := range append([]int{greatest + 1, -1, 64, 8}, bounds...) {
			wrong = append(wrong, []int{letter}, []int{0, greatest, letter}, []int{letter, 0}, append(make([]int, 99), letter))
		}
		for _, word := range wrong {
			if l, e := scan.Scan(p, word); len(l) > 0 || e != api.ErrArg {
				t.Error("Scan", p, word, l, e)
			}
			checkNoExec(t, p, list, next, word)
		}
	}
}

// P9.3: code by hand. Each instruction does what its Op says, with any slots, and
// from the front.
func TestExecByHand(t *testing.T) {
	p := program{[]string{"x", "y"}, []string{"w", "x", "r"}, []line{{"w", -1, "x"}, {"r", 1, "x"}}} // slots 0 to 3
	all := []int{0, 1, 2, 3}
	checkExec(t, p, nil, []int{-1, 3}, all, 4, 6, 4, 6)
	checkExec(t, p, []code{}, []int{-1, 0}, all, 4, 2, 4, 2)
	checkExec(t, p, []code{{0, 2, 1, 0}}, []int{-1, 2}, all, 5, 7, 5, 7)
	checkExec(t, p, []code{{0, 2, 1, 0}, {0, 2, 0, 0}}, []int{-1, 2}, all, 4, 2, 0, 2)
	checkExec(t, p, []code{{1, 2, 1, 0}}, []int{-1, 1}, all, 4, 2, 1, 7)
	checkExec(t, p, []code{{2, 2, 0, 0}}, []int{-1, 3}, all, 5, 6, 5, 6)
	checkExec(t, p, []code{{3, 2, 0, 1}}, []int{-1, 3}, all, 4, 6, 4, 7)
	checkExec(t, p, []code{{4, 2, 0, 1}}, []int{-1, 3}, all, 4, 7, 5, 7)
	checkExec(t, p, []code{{5, 2, 0, 1}}, []int{-1, 3}, all, 4, 7, 5, 6)
	checkExec(t, p, []code{{5, 2, 0, 1}, {3, 2, 2, 1}, {2, 2, 2, 0}}, []int{-1, 3}, all, 5, 7, 4, 7)
	// The slots of Inputs, wires and registers are written, and then read.
	checkExec(t, p, []code{{2, 0, 0, 0}, {1, 2, 0, 0}, {0, 3, 0, 0}}, []int{-1, 0}, all, 3, 0, 3, 0)
	checkExec(t, p, []code{{1, 3, 1, 0}, {1, 1, 0, 0}}, []int{-1, 1}, all, 0, 2, 4, 6)
	// What is in other slots is 0 in each scan, whatever was in them before.
	checkExec(t, p, []code{{1, 2, 599, 0}, {0, 599, 1, 0}, {4, 598, 598, 0}}, []int{-1, 599}, all, 4, 6, 4, 6)
	checkExec(t, p, []code{{2, 2, 2, 0}, {2, 500, 500, 0}}, []int{-1, 500}, all, 5, 7, 5, 7)
	checkExec(t, p, nil, []int{-1, 599}, all, 4, 2, 0, 2)
	// Registers have their next values all at once.
	round := lines(line{"a", 0, "a"}, line{"b", 0, "a"}, line{"c", 1, "a"})
	round.Outputs = []string{"a", "b", "c"}
	checkExec(t, round, nil, []int{2, 0, 1}, make([]int, 5), 4, 1, 2, 4, 1)
	checkExec(t, round, nil, []int{2, 2, 2}, make([]int, 3), 4, 7, 7)
}

// P9.3: drawn code. It may be that of any program, also of one that is not
// causal, and does not depend on the Exprs.
func TestExec(t *testing.T) {
	r := rand.New(rand.NewSource(7))
	for k := range 800 {
		p := drawnProgram(r, k%2 == 0)
		list, next := drawnCode(r, p, r.Intn(30))
		word := drawnWord(r, r.Intn(20), 1<<len(p.Inputs))
		checkExec(t, p, list, next, word, executed(p, list, next, word)...)
	}
	p := lines(line{"a", -1, "a"}, line{"r", 0, "a"})
	checkExec(t, p, []code{{2, 0, 1, 0}}, []int{-1, 0}, []int{0, 0, 0}, 1, 0, 1)
}

// P9.3: 600 instructions and 601.
func TestNumberOfInstructions(t *testing.T) {
	list := slices.Repeat([]code{{2, 0, 0, 0}}, 601)
	checkExec(t, toggle, list[:600], []int{0}, []int{0, 1, 1}, 0, 0, 1)
	checkExec(t, toggle, list[:599], []int{0}, []int{0, 1, 1}, 0, 1, 0)
	checkNoExec(t, toggle, list, []int{0}, []int{0, 1, 1})
	checkNoExec(t, toggle, list, []int{0}, nil)
	checkNoExec(t, toggle, slices.Repeat([]code{{0, 0, 0, 0}}, 1e5), []int{0}, nil)
}

// P9.3: ErrArg for what is no code: slots beyond 0 and 599, other Ops, another Y
// than 0 or 1 for Op 0. Fields that an Op does not use may be anything.
func TestNoCode(t *testing.T) {
	numbers := append([]int{-2, -1, 0, 1, 2, 3, 5, 6, 7, 598, 599, 600, 601}, bounds...)
	right := code{4, 2, 1, 0}
	count := 0
	for _, op := range []int{-1, 0, 1, 2, 3, 4, 5, 6} {
		for _, x := range numbers {
			for _, y := range numbers {
				for _, z := range numbers {
					c := code{op, x, y, z}
					list := [][]code{{c}, {right, c}, {c, right}}[count%3]
					count++
					if isInstruction(c) {
						checkExec(t, toggle, list, []int{1}, []int{1}, executed(toggle, list, []int{1}, []int{1})...)
					} else {
						checkNoExec(t, toggle, list, []int{1}, []int{1})
					}
				}
			}
		}
	}
	for _, op := range append([]int{-2, 7, 8, 255, 256}, bounds...) {
		checkNoExec(t, toggle, []code{right, {op, 0, 0, 0}}, []int{1}, nil)
	}
}

// P9.3: ErrArg for what are no slots of next values: an element too few or too
// many, -1 for a register, a slot for a wire.
func TestNoNext(t *testing.T) {
	p := lines(line{"a", -1, "true"}, line{"b", 0, "a"}, line{"c", -1, "a"}, line{"d", 1, "b"})
	right := []int{-1, 0, -1, 599}
	checkExec(t, p, nil, right, []int{0, 0}, 0, 0)
	wrong := [][]int{nil, {}, {0}, {-1}, right[:3], right[1:], append(slices.Clone(right), -1), append(slices.Clone(right), 0), append([]int{-1}, right...), make([]int, 1e5)}
	for j := range right {
		for _, x := range append([]int{-2, -1, 0, 1, 598, 599, 600, 601}, bounds...) {
			next := slices.Clone(right)
			next[j] = x
			if j%2 == 0 && x == -1 || j%2 == 1 && isSlot(x) {
				checkExec(t, p, nil, next, []int{0, 0}, executed(p, nil, next, []int{0, 0})...)
			} else {
				wrong = append(wrong, next)
			}
		}
	}
	for _, next := range wrong {
		checkNoExec(t, p, nil, next, nil)
		checkNoExec(t, p, nil, next, []int{0})
	}
}
