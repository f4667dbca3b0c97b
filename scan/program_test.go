package scan_test

import (
	"math/rand"
	"slices"
	"strings"
	"testing"

	"massecuite/api"
	"massecuite/scan"
)

// checkValid tests that Valid says this.
func checkValid(t *testing.T, p program, want bool) {
	t.Helper()
	if ok := scan.Valid(p); ok != want {
		t.Error("Valid", p, ok)
	}
}

// checkCausal tests that Causal says this.
func checkCausal(t *testing.T, p program, want ...string) {
	t.Helper()
	if l, e := scan.Causal(p); !slices.Equal(l, want) || e != api.OK {
		t.Error("Causal", p, l, e, "want", want)
	}
}

// checkNotCausal tests that all functions that say so say ErrLoop for p, but
// ErrArg if the word is not valid.
func checkNotCausal(t *testing.T, p program) {
	t.Helper()
	checkValid(t, p, true)
	if l, e := scan.Causal(p); len(l) > 0 || e != api.ErrLoop {
		t.Error("Causal", p, l, e)
	}
	if l, e := scan.Scan(p, []int{0}); len(l) > 0 || e != api.ErrLoop {
		t.Error("Scan", p, l, e)
	}
	if l, e := scan.Scan(p, []int{1 << len(p.Inputs)}); len(l) > 0 || e != api.ErrArg {
		t.Error("Scan", p, l, e)
	}
	if l, next, e := scan.Compile(p); len(l) > 0 || len(next) > 0 || e != api.ErrLoop {
		t.Error("Compile", p, l, next, e)
	}
	if m, e := scan.Extract(p); m.Inputs != 0 || len(m.Next) > 0 || len(m.Out) > 0 || e != api.ErrLoop {
		t.Error("Extract", p, m, e)
	}
}

// with returns the program of one register q and one Output, with this Expr.
func with(expr string) program {
	return program{[]string{"x", "y"}, []string{"q"}, []line{{"q", 0, expr}}}
}

// lines returns a program without Inputs of wires and registers; the first one
// is its Output.
func lines(l ...line) program {
	return program{nil, []string{l[0].Name}, l}
}

// renamed returns programs in which name is the name of an Input, of a wire, and
// of a register.
func renamed(name string) []program {
	return []program{
		{[]string{"x", name}, []string{"x"}, []line{{"q", 0, "x"}}},
		{[]string{name}, []string{"q"}, []line{{"q", 0, "q"}}},
		{[]string{"x"}, []string{"x"}, []line{{name, -1, "x"}}},
		{[]string{"x"}, []string{"x"}, []line{{"q", 0, "x"}, {name, 1, "x"}}},
	}
}

// P9.1: names of 1 to 8 letters.
func TestNames(t *testing.T) {
	valid := append([]string{"a", "m", "z", "abcdefgh", "zzzzzzzz", "n", "no", "nott", "ando", "ore", "xo", "iff", "fi", "truer", "tru", "fals", "falsey"}, names...)
	for _, name := range valid {
		for _, p := range renamed(name) {
			checkValid(t, p, true)
		}
	}
	invalid := append([]string{"", " ", "abcdefghi", "zzzzzzzzz", "A", "Z", "aB", "Ab", "a1", "1", "0", "a_", "-", "`", "{", "a{", "`a", "@", "[", "a b", " a", "a ", "a\n", "\x00", "\xff",
		"é", "aé", "a\u0061\u0301", "ａ", "ß", "not ", "Not", "TRUE", strings.Repeat("a", 264), strings.Repeat("a", 100_000)}, words...)
	for c := range 256 {
		if c < 'a' || c > 'z' {
			invalid = append(invalid, string([]byte{byte(c)}), "a"+string([]byte{byte(c)})+"b")
		}
	}
	for _, name := range invalid {
		for _, p := range renamed(name) {
			checkValid(t, p, false)
		}
		checkValid(t, program{[]string{"x"}, []string{name}, []line{{"q", 0, "x"}}}, false)
		checkValid(t, program{[]string{"x"}, []string{"x", name}, []line{{"q", 0, "x"}}}, false)
	}
}

// P9.1: names that occur twice among Inputs, among Lines, or in both.
func TestNamesTwice(t *testing.T) {
	q, r, s := line{"q", 0, "x"}, line{"r", -1, "x"}, line{"s", 1, "x"}
	for _, p := range []program{
		{[]string{"x", "x"}, []string{"x"}, []line{q}},
		{[]string{"x", "y", "x"}, []string{"x"}, []line{q}},
		{[]string{"x"}, []string{"x"}, []line{q, q}},
		{[]string{"x"}, []string{"x"}, []line{q, r, s, {"q", -1, "x"}}},
		{[]string{"x"}, []string{"x"}, []line{q, r, {"r", 0, "x"}, s}},
		{[]string{"x", "q"}, []string{"x"}, []line{q}},
		{[]string{"x", "y", "s"}, []string{"x"}, []line{q, r, s}},
	} {
		checkValid(t, p, false)
	}
	checkValid(t, program{[]string{"x", "y", "z"}, []string{"x"}, []line{q, r, s}}, true)
}

// P9.1: 0 to 3 Inputs, 1 to 3 Outputs, 1 to 12 Lines.
func TestSizes(t *testing.T) {
	many := []line{}
	for _, name := range names {
		many = append(many, line{name, -1, "true"})
	}
	inputs := []string{"x", "y", "xx", "yy", "xy"}
	for n := range 6 {
		checkValid(t, program{inputs[:n], []string{"a"}, many[:1]}, n <= 3)
		checkValid(t, program{inputs[:3], slices.Repeat([]string{"a"}, n), many[:1]}, 1 <= n && n <= 3)
		checkValid(t, program{inputs[:3], []string{"a", "a", "x", "y", "xx"}[:n], many[:1]}, 1 <= n && n <= 3)
	}
	for n := range 16 {
		checkValid(t, program{inputs[:3], []string{"x"}, many[:n]}, 1 <= n && n <= 12)
		checkValid(t, program{nil, []string{"x"}, many[:n]}, false)
	}
	checkValid(t, program{}, false)
	checkValid(t, program{slices.Repeat([]string{"a"}, 1e6), []string{"a"}, many[:1]}, false)
	checkValid(t, program{nil, slices.Repeat([]string{"a"}, 1e6), many[:1]}, false)
	checkValid(t, program{nil, []string{"a"}, slices.Repeat(many[:1], 1e6)}, false)
}

// P9.1: Init -1, 0 or 1, and at most 4 registers.
func TestInits(t *testing.T) {
	for _, init := range append([]int{-3, -2, -1, 0, 1, 2, 3, 255, 256}, bounds...) {
		ok := -1 <= init && init <= 1
		checkValid(t, lines(line{"a", init, "true"}), ok)
		checkValid(t, lines(line{"a", 0, "true"}, line{"b", -1, "a"}, line{"c", init, "a"}), ok)
	}
	for kinds := range 1 << 7 {
		var l []line
		registers := 0
		for j := range 7 {
			init := -1
			if kinds>>j&1 == 1 {
				init = j % 2
				registers++
			}
			l = append(l, line{names[j], init, "true"})
		}
		checkValid(t, lines(l...), registers <= 4)
	}
	l := slices.Clone(counter(4).Lines)
	checkValid(t, lines(append(l[1:], line{"go", -1, "true"})...), true)
	checkValid(t, lines(append(l[1:], line{"go", 1, "true"})...), false)
}

// P9.1: expressions by hand.
func TestExprs(t *testing.T) {
	for _, x := range []string{"q", "x", "y", "true", "false", "not q", "not not x", "and x y", "or q q", "xor true x", "if x y q",
		"if if x y q and x y not q", "and and and x x x x", "and x and x and x x", "xor xor x y xor q x", "if true false true", "not if x or x y y"} {
		checkValid(t, with(x), true)
		for k := range len(x) + 1 {
			for _, blank := range []string{" ", "  ", "\t", "\n", "\x00", ",", "\u00a0"} {
				y := x[:k] + blank + x[k:]
				checkValid(t, with(y), isExpr(y, isOf("q", "x", "y")))
			}
		}
		for _, y := range []string{" " + x, x + " ", "\n" + x, x + "\n", x + "\x00", x + " " + x, "not", "not " + x + " q", "and " + x, "if " + x + " q", "or " + x + " " + x + " x", "not  " + x, strings.ToUpper(x), "(" + x + ")"} {
			checkValid(t, with(y), false)
		}
	}
	for _, x := range []string{"", " ", "  ", "and", "if", "and x", "and x y q", "if x y", "if x y q x", "not x y", "x y", "x not", "x and y", "true false", "z", "qq", "X", "nor x y", "nand x y", "0", "1", "xnor x y", "then", "else"} {
		checkValid(t, with(x), false)
	}
}

// isOf returns whether a name is one of these.
func isOf(known ...string) func(string) bool {
	return func(name string) bool { return slices.Contains(known, name) }
}

// P9.1: 1 to 30 tokens, also deeply nested.
func TestTokens(t *testing.T) {
	for n := range 40 {
		for _, token := range []string{"not", "and", "if"} {
			// Operators in front of all operands, and each behind the others.
			front := strings.Repeat(token+" ", n) + "x" + strings.Repeat(" y", n*(arity[token]-1))
			behind := strings.Repeat(token+strings.Repeat(" x", arity[token]-1)+" ", n) + "q"
			checkValid(t, with(front), 1+n*arity[token] <= 30)
			checkValid(t, with(behind), 1+n*arity[token] <= 30)
			checkValid(t, with("not "+front), 2+n*arity[token] <= 30)
			checkValid(t, with("xor true "+behind), 3+n*arity[token] <= 30)
			checkValid(t, with(strings.TrimSuffix(front, " y")), n == 0 || token == "not" && n < 30)
		}
	}
	checkValid(t, with(strings.Repeat("not ", 1e6)+"x"), false)
	checkValid(t, with(strings.Repeat(" ", 1e6)), false)
	checkValid(t, with(strings.Repeat("x", 1e6)), false)
	long := program{[]string{"abcdefgh"}, []string{"ijklmnop"}, []line{{"ijklmnop", 0, "not " + strings.Repeat("and ijklmnop ", 14) + "abcdefgh"}}}
	checkValid(t, long, true)
}

// P9.1: all short strings of tokens, and drawn ones, held against a second
// recognizer.
func TestAllExprs(t *testing.T) {
	tokens := append([]string{"x", "q", "z", ""}, words...)
	var texts []string
	last := []string{""}
	for range 4 {
		var longer []string
		for _, text := range last {
			for _, token := range tokens {
				longer = append(longer, text+" "+token)
			}
		}
		last = longer
		texts = append(texts, last...)
	}
	r := rand.New(rand.NewSource(3))
	for range 3000 {
		l := strings.Split(" "+drawnExpr(r, 1+r.Intn(32), []string{"x", "y", "q"}), " ")
		texts = append(texts, strings.Join(l, " "))
		l[1+r.Intn(len(l)-1)] = tokens[r.Intn(len(tokens))]
		texts = append(texts, strings.Join(l, " "))
	}
	right := 0
	for _, text := range texts {
		ok := isExpr(text[1:], isOf("x", "y", "q"))
		checkValid(t, with(text[1:]), ok)
		right += bit(ok)
	}
	if right < 3000 || right > len(texts)-3000 {
		t.Error("too few", right, len(texts))
	}
}

// P9.1: names in Exprs and Outputs are those of Inputs and Lines.
func TestUse(t *testing.T) {
	l := []line{{"w", -1, "x"}, {"r", 1, "w"}}
	for _, name := range []string{"x", "y", "w", "r"} {
		checkValid(t, program{[]string{"x", "y"}, []string{name}, l}, true)
		checkValid(t, program{[]string{"x", "y"}, []string{name, name, name}, l}, true)
		checkValid(t, program{[]string{"x", "y"}, []string{"w", name}, append(l, line{"v", -1, name})}, true)
	}
	for _, name := range []string{"z", "xx", "ww", "rr", "", "W", "true", "false", "not x", "x "} {
		checkValid(t, program{[]string{"x", "y"}, []string{name}, l}, false)
		checkValid(t, program{[]string{"x", "y"}, []string{"x", "w", name}, l}, false)
	}
	for _, name := range []string{"z", "xx", "ww", "rr", "", "W", "x "} {
		checkValid(t, program{[]string{"x", "y"}, []string{"x"}, append(l, line{"v", -1, name})}, false)
		checkValid(t, program{[]string{"x", "y"}, []string{"x"}, append(l, line{"v", 0, "and x " + name})}, false)
	}
	// A name is known in all Lines, also in those before its own.
	checkValid(t, lines(line{"a", -1, "b"}, line{"b", -1, "true"}), true)
	checkValid(t, lines(line{"a", 0, "b"}, line{"b", 0, "a"}), true)
}

// P9.1: example 2, and other wires that need themselves or each other.
func TestNotCausal(t *testing.T) {
	for _, p := range []program{
		lines(line{"a", -1, "not b"}, line{"b", -1, "a"}),
		lines(line{"a", -1, "a"}),
		lines(line{"a", -1, "and false a"}),
		lines(line{"a", -1, "if true false a"}),
		lines(line{"r", 0, "r"}, line{"a", -1, "xor a a"}),
		lines(line{"a", -1, "true"}, line{"b", -1, "a"}, line{"c", -1, "c"}),
		lines(line{"a", -1, "b"}, line{"b", -1, "c"}, line{"c", -1, "a"}),
		lines(line{"c", -1, "a"}, line{"a", -1, "b"}, line{"b", -1, "c"}, line{"d", 1, "a"}),
		lines(line{"d", -1, "a"}, line{"a", -1, "and true b"}, line{"b", -1, "or a false"}),
		lines(line{"a", -1, "not b"}, line{"b", -1, "c"}, line{"c", -1, "or d b"}, line{"d", 0, "a"}),
	} {
		checkNotCausal(t, p)
	}
	checkCausal(t, lines(line{"a", -1, "not b"}, line{"b", 0, "a"}), "a")
	checkCausal(t, lines(line{"a", 1, "not b"}, line{"b", 0, "a"}))
	checkCausal(t, lines(line{"a", 0, "a"}))
	checkCausal(t, lines(line{"a", -1, "not b"}, line{"b", -1, "c"}, line{"c", -1, "or d d"}, line{"d", 0, "a"}), "c", "b", "a")
	// A register is needed, and its Expr has the name of the wire.
	checkCausal(t, lines(line{"w", -1, "r"}, line{"r", 0, "not w"}), "w")
}

// P9.1: of the wires that can come next it is the first of Lines, also if it
// could not come before.
func TestOrder(t *testing.T) {
	checkCausal(t, lines(line{"c", -1, "b"}, line{"a", -1, "true"}, line{"d", -1, "true"}, line{"b", -1, "a"}), "a", "d", "b", "c")
	checkCausal(t, lines(line{"c", -1, "d"}, line{"a", -1, "true"}, line{"d", -1, "true"}, line{"b", -1, "a"}), "a", "d", "c", "b")
	checkCausal(t, lines(line{"d", -1, "true"}, line{"c", -1, "true"}, line{"b", -1, "true"}, line{"a", -1, "true"}), "d", "c", "b", "a")
	var l []line
	var want []string
	for k, name := range names[:12] {
		l = append(l, line{name, -1, names[min(k+1, 11)]})
		want = append([]string{name}, want...)
	}
	l[11].Expr = "not true"
	checkCausal(t, lines(l...), want...)
	l[11].Expr = "or false a"
	checkNotCausal(t, lines(l...))
}

// P9.1: drawn programs, causal or not.
func TestCausal(t *testing.T) {
	r := rand.New(rand.NewSource(4))
	all := slices.Clone(causals())
	for range 1000 {
		all = append(all, drawnProgram(r, false))
	}
	wrong := 0
	for _, p := range all {
		checkValid(t, p, true)
		if loops(p) {
			wrong++
			checkNotCausal(t, p)
			continue
		}
		needs := needed(p)
		var order []string
		for len(order) < len(needs) {
			for _, l := range p.Lines {
				ready := l.Init == -1 && !slices.Contains(order, l.Name)
				for name := range needs[l.Name] {
					ready = ready && slices.Contains(order, name)
				}
				if ready {
					order = append(order, l.Name)
					break
				}
			}
		}
		checkCausal(t, p, order...)
	}
	if wrong < 300 || wrong > 900 {
		t.Error("too few", wrong)
	}
}
