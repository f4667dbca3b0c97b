package logic_test

import (
	"math/rand"
	"reflect"
	"slices"
	"strings"
	"testing"

	"massecuite/api"
	"massecuite/logic"
)

// checkText tests that a formula is printed as a string, and parsed from it.
func checkText(t *testing.T, f formula, want string) {
	t.Helper()
	if x, e := logic.Print(f); x != want || e != api.OK {
		t.Error("Print", f, x, e, want)
	}
	g, e := logic.Parse(want)
	if e != api.OK || !same(f, g) {
		t.Error("Parse", want, g, e)
	}
}

// same reports whether two formulas are equal, no Kids being the same as none.
func same(f, g formula) bool {
	return f.Op == g.Op && slices.EqualFunc(f.Kids, g.Kids, same)
}

// checkNoText tests that a string is no formula.
func checkNoText(t *testing.T, text string, want api.Errno) {
	t.Helper()
	if f, e := logic.Parse(text); e != want || !reflect.DeepEqual(f, formula{}) {
		if len(text) > 100 {
			text = text[:100]
		}
		t.Error("Parse", text, f, e)
	}
}

// P6.1: how each Op is printed; example 2.
func TestText(t *testing.T) {
	a, b, c := node("a"), node("b"), node("c")
	for text, f := range map[string]formula{
		"true": node("true"), "a": a, "b": b, "c": c, "d": node("d"), "e": node("e"), "f": node("f"),
		"!a": node("!", a), "EX a": node("EX", a), "EF b": node("EF", b), "EG c": node("EG", c),
		"AX a": node("AX", a), "AF b": node("AF", b), "AG c": node("AG", c),
		"(a & b)": node("&", a, b), "(b | a)": node("|", b, a), "E[a U b]": node("EU", a, b), "A[b U c]": node("AU", b, c),
		"E[!a U b]":                   node("EU", node("!", a), b),
		"EX (a & b)":                  node("EX", node("&", a, b)),
		"!!a":                         node("!", node("!", a)),
		"!EX !a":                      node("!", node("EX", node("!", a))),
		"AG EF true":                  node("AG", node("EF", node("true"))),
		"((a & b) & c)":               node("&", node("&", a, b), c),
		"(a & (b & c))":               node("&", a, node("&", b, c)),
		"(!a | EX (b | c))":           node("|", node("!", a), node("EX", node("|", b, c))),
		"E[A[a U b] U (EG c & true)]": node("EU", node("AU", a, b), node("&", node("EG", c), node("true"))),
		"A[E[a U b] U E[c U a]]":      node("AU", node("EU", a, b), node("EU", c, a)),
	} {
		checkText(t, f, text)
	}
	empty := formula{Op: "EX", Kids: []formula{{Op: "a", Kids: []formula{}}}}
	checkText(t, empty, "EX a")
}

// P6.1: Parse is the contrary of Print.
func TestTextOfMany(t *testing.T) {
	for _, f := range simple() {
		checkText(t, f, printed(f))
	}
	r := rand.New(rand.NewSource(4))
	for k := range 3000 {
		f := chosen(r, 1+k%200, 1+r.Intn(60))
		checkText(t, f, printed(f))
	}
}

// P6.1: formulas of 200 nodes and 201, 60 deep and 61.
func TestTextLimits(t *testing.T) {
	for size := 1; size <= 200; size++ {
		checkText(t, wide(size), printed(wide(size)))
	}
	for deep := 1; deep <= 60; deep++ {
		checkText(t, tall(deep), printed(tall(deep)))
	}
	for _, f := range tooLarge() {
		if x, e := logic.Print(f); x != "" || e != api.ErrArg {
			t.Error("Print", x, e)
		}
		checkNoText(t, printed(f), api.ErrForm)
	}
	// As deep and as large as it may be, at once.
	f := largest()
	n, deep := nodes(f)
	if n != 200 || deep != 60 {
		t.Fatal(n, deep)
	}
	checkText(t, f, printed(f))
}

// largest returns a formula of 200 nodes that is 60 deep.
func largest() formula { return node("&", tall(59), wide(140)) }

// tooLarge returns formulas that are too deep or have too many nodes.
func tooLarge() []formula {
	out := []formula{wide(201), wide(202), wide(400), wide(20000), tall(61), tall(62), tall(200), tall(1000),
		node("!", wide(200)), node("EX", wide(200)), node("&", wide(99), wide(101)), node("AU", node("a"), wide(199)), node("EU", wide(199), node("a")),
		node("EG", tall(60)), node("AX", tall(60)), node("|", tall(60), node("a")), node("EU", node("a"), tall(60)), node("AU", tall(60), tall(2))}
	for _, leaf := range leaves {
		f := node(leaf)
		for range 60 {
			f = node("!", f)
		}
		out = append(out, f)
	}
	return out
}

// P6.1: strings of 100,000 bytes and one more; the size comes first.
func TestLongText(t *testing.T) {
	for _, piece := range []string{"a", "!", "(", "E[", "EX ", "(a & ", "E[a U ", " ", "\x00", "x", "true", "!a ", "é", "\xff", "AG EF ", "A[A["} {
		long := strings.Repeat(piece, 100_001/len(piece)+1)
		checkNoText(t, long[:100_000], api.ErrForm)
		checkNoText(t, long[:99_999]+"a", api.ErrForm)
		checkNoText(t, long[:100_001], api.ErrSize)
		checkNoText(t, long[:100_000]+"a", api.ErrSize)
		checkNoText(t, long+long, api.ErrSize)
		checkNoText(t, "a"+long[:99_999], api.ErrForm)
		checkNoText(t, "a"+long[:100_000], api.ErrSize)
	}
	checkNoText(t, strings.Repeat("!", 99_999)+"a", api.ErrForm)
	checkNoText(t, strings.Repeat("!", 100_000)+"a", api.ErrSize)
}

// isText reports whether a string is a formula, by making formulas in it smaller
// until it is a single one.
func isText(text string) bool {
	if strings.Contains(text, "0") {
		return false
	}
	shorten := func(from string) { text = strings.ReplaceAll(text, from, "0") }
	for _, leaf := range leaves {
		shorten(leaf)
	}
	for before := ""; before != text; {
		before = text
		for _, from := range []string{"!0", "EX 0", "EF 0", "EG 0", "AX 0", "AF 0", "AG 0", "(0 & 0)", "(0 | 0)", "E[0 U 0]", "A[0 U 0]"} {
			shorten(from)
		}
	}
	return text == "0"
}

// checkIsText tests Parse on a string that need not be a formula.
func checkIsText(t *testing.T, text string) {
	t.Helper()
	f, e := logic.Parse(text)
	if !isText(text) {
		checkNoText(t, text, api.ErrForm)
	} else if e != api.OK || printed(f) != text {
		t.Error("Parse", text, f, e)
	}
}

// P6.1: strings that are nearly formulas; example 2.
func TestNearlyText(t *testing.T) {
	for _, text := range []string{"", " ", "(a)", "a&b", "a & b", "EXa", "EX", "EX ", "EX  a", "EX a ", " a", "a ", "aa", "ab", "A", "g", "True", "tru", "truee", "t", "! a",
		"!", "!!", "()", "(a&b)", "(a &b)", "(a& b)", "(a  & b)", "(a & b", "(a & b))", "((a & b)", "(a & )", "( & b)", "(a && b)", "(a & b & c)", "(a | b | c)", "(a & b | c)",
		"(a U b)", "[a U b]", "E[a U b", "Ea U b]", "E[aUb]", "E[a U b)", "E(a U b)", "E [a U b]", "EU a b", "A[a & b]", "E[a | b]", "E[ a U b]", "E[a U b ]", "E[a  U b]", "E[a u b]",
		"e[a U b]", "ex a", "Ex a", "EX\ta", "EX(a & b)", "EX!a", "EXEX a", "EX EXa", "EFa", "E", "EE a", "AU", "AX", "AXX a", "XE a", "EX a b", "a\n", "\na", "a\x00", "\x00",
		"(a , b)", "(a & b]", "E[a U b U c]", "A[a U b][a U b]", "!(a)", "(!a)", "(true)", "truea", "true true", "0", "1", "a0", "0a", "é", "\xff", "ａ", "(a\u00a0& b)"} {
		if isText(text) {
			t.Error("a formula", text)
		}
		checkNoText(t, text, api.ErrForm)
	}
	r := rand.New(rand.NewSource(5))
	pieces := []string{"", " ", "a", "f", "g", "E", "A", "X", "F", "G", "U", "!", "&", "|", "(", ")", "[", "]", "true", "EX ", "E[", " & ", " U ", "t", "\x00"}
	for range 40000 {
		text := printed(chosen(r, 1+r.Intn(8), 6))
		for range 1 + r.Intn(2) {
			from := r.Intn(len(text) + 1)
			to := min(len(text), from+r.Intn(3))
			text = text[:from] + pieces[r.Intn(len(pieces))] + text[to:]
		}
		checkIsText(t, text)
	}
}

// P6.1: all short strings of what formulas are made of.
func TestShortText(t *testing.T) {
	pieces := []string{"a", "!", "EX", "AG ", "E[", " U ", "]", "(", " & ", " | ", ")", " "}
	var walk func(text string, more int)
	walk = func(text string, more int) {
		checkIsText(t, text)
		if more == 0 {
			return
		}
		for _, piece := range pieces {
			walk(text+piece, more-1)
		}
	}
	walk("", 5)
}

// invalid returns what are no formulas.
func invalid() []formula {
	a := node("a")
	out := tooLarge()
	for _, op := range []string{"", " ", "g", "z", "A", "E", "U", "X", "EU ", "EX ", " a", "ab", "aa", "True", "TRUE", "false", "tru", "true ", "ex", "ax", "XE", "EE", "AE", "EXX", "&&", "||", "!!", "~", "->",
		"E[", "(", "()", "\x00", "a\x00", "é", "\xff", strings.Repeat("a", 100_001)} {
		for k := range 4 {
			out = append(out, node(op, slices.Repeat([]formula{a}, k)...))
		}
	}
	for k, ops := range [][]string{leaves, unary, binary} {
		for _, op := range ops {
			for _, kids := range []int{0, 1, 2, 3, 4, 200, 100_000} {
				if kids != k {
					out = append(out, node(op, slices.Repeat([]formula{a}, kids)...))
				}
			}
		}
	}
	for _, f := range out {
		for _, op := range unary {
			out = append(out, node(op, f))
		}
		for _, op := range binary {
			out = append(out, node(op, f, a), node(op, a, f))
		}
	}
	return append(out, endless()...)
}

// endless returns formulas that are Kids of their own.
func endless() []formula {
	var out []formula
	for _, op := range []string{"!", "EX", "&", "EU"} {
		n := 1
		if slices.Contains(binary, op) {
			n = 2
		}
		kids := make([]formula, n)
		for k := range kids {
			kids[k] = formula{Op: op, Kids: kids}
		}
		out = append(out, kids[0])
	}
	// And one that is twice the same at each depth.
	f := node("a")
	for range 59 {
		f = node("&", f, f)
	}
	return append(out, f)
}

// P6.1: what is no formula is not printed.
func TestPrintInvalid(t *testing.T) {
	for _, f := range invalid() {
		if x, e := logic.Print(f); x != "" || e != api.ErrArg {
			t.Error("Print", f.Op, len(f.Kids), x, e)
		}
	}
}
