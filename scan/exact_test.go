package scan_test

import (
	"maps"
	"math"
	"slices"
	"strings"

	"massecuite/scan"
)

// What the tests hold the results against: the terms of the chapter, written
// down as they are defined.

type (
	program = scan.Program
	line    = scan.Line
	code    = scan.Code
	machine = scan.Machine
)

var (
	words  = []string{"not", "and", "or", "xor", "if", "true", "false"} // that are no names
	arity  = map[string]int{"not": 1, "and": 2, "or": 2, "xor": 2, "if": 3}
	bounds = []int{math.MaxInt, math.MinInt, 1 << 32, -1 << 32, 1<<32 + 1}
)

// bit returns 1 for true.
func bit(x bool) int {
	if x {
		return 1
	}
	return 0
}

// isExpr reports whether text is an expression with names for which known is
// true.
func isExpr(text string, known func(string) bool) bool {
	tokens := strings.Split(text, " ")
	rest, ok := taken(tokens, known)
	return ok && len(rest) == 0 && len(tokens) <= 30
}

// taken takes an expression from the front of tokens, if there is one.
func taken(tokens []string, known func(string) bool) (rest []string, ok bool) {
	if len(tokens) == 0 {
		return nil, false
	}
	token, rest := tokens[0], tokens[1:]
	if !slices.Contains(words, token) && !known(token) {
		return nil, false
	}
	for range arity[token] {
		if rest, ok = taken(rest, known); !ok {
			return nil, false
		}
	}
	return rest, true
}

// valueOf returns the value of the expression that tokens begin with, and the
// tokens behind it.
func valueOf(tokens []string, value func(string) bool) (bool, []string) {
	token, rest := tokens[0], tokens[1:]
	var x [3]bool
	for k := range arity[token] {
		x[k], rest = valueOf(rest, value)
	}
	switch token {
	case "true", "false":
		return token == "true", rest
	case "not":
		return !x[0], rest
	case "and":
		return x[0] && x[1], rest
	case "or":
		return x[0] || x[1], rest
	case "xor":
		return x[0] != x[1], rest
	case "if":
		return x[0] && x[1] || !x[0] && x[2], rest
	}
	return value(token), rest
}

// memory has the values of registers by their names.
type memory map[string]bool

// first returns the values of the registers of p at first.
func first(p program) memory {
	m := memory{}
	for _, l := range p.Lines {
		if l.Init >= 0 {
			m[l.Name] = l.Init == 1
		}
	}
	return m
}

// scanned returns the output letter of a scan of p, which is causal, and what its
// registers have for the next one.
func scanned(p program, m memory, letter int) (int, memory) {
	known := maps.Clone(m)
	for i, name := range p.Inputs {
		known[name] = letter&(1<<i) != 0
	}
	var value func(name string) bool
	value = func(name string) bool {
		if _, ok := known[name]; !ok {
			known[name], _ = valueOf(exprOf(p, name), value)
		}
		return known[name]
	}
	out := 0
	for k, name := range p.Outputs {
		out += bit(value(name)) << k
	}
	after := memory{}
	for name := range m {
		after[name], _ = valueOf(exprOf(p, name), value)
	}
	return out, after
}

// exprOf returns the tokens of the Expr of a Line.
func exprOf(p program, name string) []string {
	k := slices.IndexFunc(p.Lines, func(l line) bool { return l.Name == name })
	return strings.Split(p.Lines[k].Expr, " ")
}

// scans returns the output letters of scans from the beginning.
func scans(p program, word []int) []int {
	out := make([]int, len(word))
	m := first(p)
	for k, letter := range word {
		out[k], m = scanned(p, m, letter)
	}
	return out
}

// needed returns for each wire which wires its Expr has the names of.
func needed(p program) map[string]map[string]bool {
	wires := map[string]map[string]bool{}
	for _, l := range p.Lines {
		if l.Init == -1 {
			wires[l.Name] = map[string]bool{}
		}
	}
	for name, set := range wires {
		for _, token := range exprOf(p, name) {
			if wires[token] != nil {
				set[token] = true
			}
		}
	}
	return wires
}

// loops reports whether p is not causal.
func loops(p program) bool {
	needs := needed(p)
	for range needs {
		for _, set := range needs {
			for name := range maps.Clone(set) {
				maps.Copy(set, needs[name])
			}
		}
	}
	for name, set := range needs {
		if set[name] {
			return true
		}
	}
	return false
}

// executed returns the output letters of scans that code makes.
func executed(p program, list []code, next, word []int) []int {
	registers := map[int]int{} // by their slots
	for j, l := range p.Lines {
		if l.Init >= 0 {
			registers[len(p.Inputs)+j] = l.Init
		}
	}
	var out []int
	for _, letter := range word {
		values := maps.Clone(registers)
		for i := range p.Inputs {
			values[i] = letter >> i % 2
		}
		for _, c := range list {
			values[c.X] = []int{c.Y, values[c.Y], 1 - values[c.Y], values[c.Y] * values[c.Z],
				max(values[c.Y], values[c.Z]), (values[c.Y] + values[c.Z]) % 2}[c.Op]
		}
		for slot := range registers {
			registers[slot] = values[next[slot-len(p.Inputs)]]
		}
		letter := 0
		for k, name := range p.Outputs {
			letter += values[slotOf(p, name)] << k
		}
		out = append(out, letter)
	}
	return out
}

// slotOf returns the slot of a name.
func slotOf(p program, name string) int {
	if k := slices.Index(p.Inputs, name); k >= 0 {
		return k
	}
	return len(p.Inputs) + slices.IndexFunc(p.Lines, func(l line) bool { return l.Name == name })
}

// extracted returns the machine of p, which is causal.
func extracted(p program) machine {
	m := machine{Inputs: 1 << len(p.Inputs)}
	met := []memory{first(p)}
	for k := 0; k < len(met); k++ {
		m.Next, m.Out = append(m.Next, nil), append(m.Out, nil)
		for letter := range m.Inputs {
			out, after := scanned(p, met[k], letter)
			state := slices.IndexFunc(met, func(old memory) bool { return maps.Equal(old, after) })
			if state < 0 {
				state = len(met)
				met = append(met, after)
			}
			m.Next[k], m.Out[k] = append(m.Next[k], state), append(m.Out[k], out)
		}
	}
	return m
}

// ending returns the state at which a word from state s ends.
func ending(m machine, s int, word []int) int {
	for _, letter := range word {
		s = m.Next[s][letter]
	}
	return s
}

// responded returns the response to a word from state s.
func responded(m machine, s int, word []int) []int {
	out := make([]int, len(word))
	for k, letter := range word {
		out[k] = m.Out[s][letter]
		s = m.Next[s][letter]
	}
	return out
}

// allWords returns all words of so many letters with at most this length, by
// length, and those of equal length element by element.
func allWords(letters, most int) [][]int {
	out := [][]int{{}}
	last := out
	for range most {
		var longer [][]int
		for _, word := range last {
			for letter := range letters {
				longer = append(longer, append(slices.Clone(word), letter))
			}
		}
		out = append(out, longer...)
		last = longer
	}
	return out
}

// never stands for the length of words that do not part two states.
const never = 1000

// distances returns for each state of m and each of n how long the shortest words
// are that part them.
func distances(m, n machine) [][]int {
	out := make([][]int, len(m.Next))
	for s := range out {
		out[s] = slices.Repeat([]int{never}, len(n.Next))
	}
	for changed := true; changed; {
		changed = false
		for s := range out {
			for t := range out[s] {
				for i := range m.Inputs {
					d := out[m.Next[s][i]][n.Next[t][i]] + 1
					if m.Out[s][i] != n.Out[t][i] {
						d = 1
					}
					if d < out[s][t] {
						out[s][t] = d
						changed = true
					}
				}
			}
		}
	}
	return out
}

// firstApart returns the first of the shortest words that part s of m and t of n,
// with their distances; nil if there is none.
func firstApart(m machine, s int, n machine, t int, d [][]int) []int {
	if d[s][t] == never {
		return nil
	}
	var word []int
	for d[s][t] > 1 {
		i := 0
		for d[m.Next[s][i]][n.Next[t][i]] != d[s][t]-1 {
			i++
		}
		word = append(word, i)
		s, t = m.Next[s][i], n.Next[t][i]
	}
	for i := range m.Inputs {
		if m.Out[s][i] != n.Out[t][i] {
			return append(word, i)
		}
	}
	panic("not apart")
}

// reachable returns for each state the first of the shortest words that reach it;
// states that cannot be reached are not in it.
func reachable(m machine) map[int][]int {
	out := map[int][]int{0: {}}
	for range m.Next {
		for _, s := range slices.SortedFunc(maps.Keys(out), func(a, b int) int { return slices.Compare(out[a], out[b]) }) {
			for i := range m.Inputs {
				to, word := m.Next[s][i], append(slices.Clone(out[s]), i)
				old, ok := out[to]
				if !ok || len(word) < len(old) || len(word) == len(old) && slices.Compare(word, old) < 0 {
					out[to] = word
				}
			}
		}
	}
	return out
}

// isMinimal reports whether m is minimal.
func isMinimal(m machine) bool {
	for s, row := range distances(m, m) {
		for t, d := range row {
			if s != t && d == never {
				return false
			}
		}
	}
	return len(reachable(m)) == len(m.Next)
}

// isNormal reports whether m, which is minimal, is in normal form.
func isNormal(m machine) bool {
	by := reachable(m)
	for s := 1; s < len(m.Next); s++ {
		x, y := by[s-1], by[s]
		if len(x) > len(y) || len(x) == len(y) && slices.Compare(x, y) >= 0 {
			return false
		}
	}
	return true
}

// asked returns all words that tests have to begin with.
func asked(m machine, extra int) [][]int {
	var out [][]int
	d := distances(m, m)
	for _, reach := range reachable(m) {
		for _, between := range allWords(m.Inputs, extra+1) {
			out = append(out, slices.Concat(reach, between))
			for s := range m.Next {
				for t := range s {
					out = append(out, slices.Concat(reach, between, firstApart(m, s, m, t, d)))
				}
			}
		}
	}
	return out
}

// accepted reports whether words are tests.
func accepted(m machine, extra int, list [][]int) bool {
	if len(list) > 2000 {
		return false
	}
	have := map[string]bool{}
	for _, word := range list {
		if len(word) > 40 {
			return false
		}
		for _, letter := range word {
			if letter < 0 || letter >= m.Inputs {
				return false
			}
		}
		for k := range len(word) + 1 {
			have[key(word[:k])] = true
		}
	}
	for _, word := range asked(m, extra) {
		if !have[key(word)] {
			return false
		}
	}
	return true
}

// key returns a string for a word, a different one for each.
func key(word []int) string {
	var out strings.Builder
	for _, letter := range word {
		out.WriteByte(byte('0' + letter))
	}
	return out.String()
}
