package scan_test

import (
	"math/rand"
	"slices"
	"strings"
	"sync"
)

// Programs, code and machines to try the package on.

// toggle is the program of example 1, and onOff its machine.
var (
	toggle = program{[]string{"x"}, []string{"q"}, []line{{"q", 0, "xor q x"}}}
	onOff  = machine{2, [][]int{{0, 1}, {1, 0}}, [][]int{{0, 0}, {1, 1}}}
)

// names are 15 names, some of which look like other words.
var names = []string{"a", "z", "abcdefgh", "zzzzzzzz", "nots", "ands", "iff", "i", "o", "orx", "xo", "truer", "fals", "no", "fi"}

// drawnExpr returns an expression with this many tokens.
func drawnExpr(r *rand.Rand, size int, names []string) string {
	if size == 1 {
		if len(names) == 0 || r.Intn(8) == 0 {
			return words[5+r.Intn(2)]
		}
		return names[r.Intn(len(names))]
	}
	token := words[r.Intn(5)]
	for arity[token] >= size {
		token = words[r.Intn(5)]
	}
	out := []string{token}
	left := size - 1
	for k := arity[token] - 1; k >= 0; k-- {
		part := left
		if k > 0 {
			part = 1 + r.Intn(left-k)
		}
		out = append(out, drawnExpr(r, part, names))
		left -= part
	}
	return strings.Join(out, " ")
}

// drawnProgram returns a program, which is causal if it is asked for. The wires
// can be evaluated in an order that is not that of the Lines.
func drawnProgram(r *rand.Rand, causal bool) program {
	var p program
	names := slices.Clone(names)
	r.Shuffle(len(names), func(i, j int) { names[i], names[j] = names[j], names[i] })
	inputs, lines := r.Intn(4), 1+r.Intn(12)
	p.Inputs = names[:inputs]
	known := slices.Clone(p.Inputs) // what an Expr may have
	for j := range lines {
		init := -1
		if j < 4 && r.Intn(4) > 0 {
			init = r.Intn(2)
		}
		name := names[inputs+j]
		p.Lines = append(p.Lines, line{name, init, ""})
		if init >= 0 || !causal {
			known = append(known, name)
		}
	}
	for j := range p.Lines {
		if p.Lines[j].Init == -1 {
			p.Lines[j].Expr = drawnExpr(r, 1+r.Intn(30), known)
			known = append(known, p.Lines[j].Name)
		}
	}
	for j := range p.Lines {
		if p.Lines[j].Init >= 0 {
			p.Lines[j].Expr = drawnExpr(r, 1+r.Intn(30), known)
		}
	}
	r.Shuffle(lines, func(i, j int) { p.Lines[i], p.Lines[j] = p.Lines[j], p.Lines[i] })
	for range 1 + r.Intn(3) {
		p.Outputs = append(p.Outputs, names[r.Intn(inputs+lines)])
	}
	return p
}

// causals returns programs that are causal.
var causals = sync.OnceValue(func() []program {
	r := rand.New(rand.NewSource(1))
	shift := []line{{"d", 0, "c"}, {"c", 1, "b"}, {"b", 0, "a"}, {"a", 1, "x"}}
	out := []program{toggle, counter(4), counter(3), counter(1), {[]string{"y", "x"}, []string{"d", "a"}, shift}}
	for range 500 {
		out = append(out, drawnProgram(r, true))
	}
	return out
})

// counter returns a program whose n registers count from 15 on, whenever go is 1.
func counter(n int) program {
	p := program{Inputs: []string{"go"}, Outputs: []string{"b", "a"}, Lines: []line{{"b", -1, "xor a go"}}}
	carry := "go"
	for k := range n {
		name := string(rune('a' + k*2))
		p.Lines = append(p.Lines, line{name, 1, "xor " + name + " " + carry})
		carry = "and " + name + " " + carry
	}
	return p
}

// drawnWord returns a word with this many letters.
func drawnWord(r *rand.Rand, size, letters int) []int {
	out := make([]int, size)
	for k := range out {
		out[k] = r.Intn(letters)
	}
	return out
}

// drawnCode returns code with slots of which few are different, and the slots of
// the next values for p.
func drawnCode(r *rand.Rand, p program, size int) (list []code, next []int) {
	slots := []int{599}
	for slot := range len(p.Inputs) + len(p.Lines) + 3 {
		slots = append(slots, slot)
	}
	slot := func() int { return slots[r.Intn(len(slots))] }
	for range size {
		c := code{r.Intn(6), slot(), slot(), slot()}
		if c.Op == 0 {
			c.Y = r.Intn(2)
		}
		if c.Op < 3 {
			c.Z = r.Intn(2000) - 1000
		}
		list = append(list, c)
	}
	for _, l := range p.Lines {
		k := -1
		if l.Init >= 0 {
			k = slot()
		}
		next = append(next, k)
	}
	return list, next
}

// drawnMachine returns a machine with so many states, input letters and output
// letters. With only the near states behind each, its states are parted later.
func drawnMachine(r *rand.Rand, states, letters, outs int, near bool) machine {
	m := machine{Inputs: letters}
	for s := range states {
		next, out := drawnWord(r, letters, states), drawnWord(r, letters, outs)
		if near {
			for i := range next {
				next[i] = min(next[i], s+1)
			}
			if s > 0 && r.Intn(4) > 0 {
				copy(out, m.Out[s-1])
			}
		}
		m.Next, m.Out = append(m.Next, next), append(m.Out, out)
	}
	return m
}

// chain returns the machine in which the last letter leads from each state to the
// next one, and from the last one to itself, and only there gives out 1; the
// others lead to 0.
func chain(states, letters int) machine {
	m := machine{Inputs: letters}
	for s := range states {
		m.Next, m.Out = append(m.Next, make([]int, letters)), append(m.Out, make([]int, letters))
		m.Next[s][letters-1] = min(s+1, states-1)
	}
	m.Out[states-1][letters-1] = 1
	return m
}

// ring returns the machine of one letter that gives out these letters again and
// again, from the one with this index on.
func ring(from int, outs ...int) machine {
	m := machine{Inputs: 1}
	for s := range outs {
		m.Next = append(m.Next, []int{s + 1})
		m.Out = append(m.Out, []int{outs[s]})
	}
	m.Next[len(outs)-1][0] = from
	return m
}

// copied returns a machine that shares no memory with m.
func copied(m machine) machine {
	out := machine{Inputs: m.Inputs}
	for s := range m.Next {
		out.Next, out.Out = append(out.Next, slices.Clone(m.Next[s])), append(out.Out, slices.Clone(m.Out[s]))
	}
	return out
}

// renumbered returns m with other numbers for all states but 0.
func renumbered(r *rand.Rand, m machine) machine {
	number := append([]int{0}, r.Perm(len(m.Next)-1)...)
	for s := range number[1:] {
		number[s+1]++
	}
	out := copied(m)
	for s, at := range number {
		for i := range m.Inputs {
			out.Next[at][i], out.Out[at][i] = number[m.Next[s][i]], m.Out[s][i]
		}
	}
	return out
}

// doubled returns m with one more state, which is equivalent to one of it, and to
// which some of its states lead instead.
func doubled(r *rand.Rand, m machine) machine {
	out := copied(m)
	s, n := r.Intn(len(m.Next)), len(m.Next)
	out.Next, out.Out = append(out.Next, slices.Clone(out.Next[s])), append(out.Out, slices.Clone(out.Out[s]))
	for _, row := range out.Next {
		for i := range row {
			if row[i] == s && r.Intn(2) == 0 {
				row[i] = n
			}
		}
	}
	return out
}

// machines returns machines of all sizes, many of which have equivalent states or
// states that cannot be reached.
var machines = sync.OnceValue(func() []machine {
	r := rand.New(rand.NewSource(2))
	out := []machine{onOff, {1, [][]int{{0}}, [][]int{{7}}}, {1, [][]int{{1}, {0}}, [][]int{{0}, {0}}}}
	for states := 1; states <= 16; states++ {
		for letters := 1; letters <= 8; letters++ {
			out = append(out, chain(states, letters), drawnMachine(r, states, letters, 8, false))
			for range 4 {
				m := drawnMachine(r, states, letters, 1+r.Intn(2), r.Intn(2) == 0)
				for len(m.Next) < 16 && r.Intn(3) > 0 {
					m = doubled(r, m)
				}
				out = append(out, m, renumbered(r, m))
			}
		}
	}
	return out
})

// minimals returns minimal machines that can be tested, with up to so many
// states and input letters.
func minimals(r *rand.Rand, count, states, letters int) []machine {
	var out []machine
	for len(out) < count {
		m := drawnMachine(r, 1+r.Intn(states), 1+r.Intn(letters), 2+r.Intn(2), r.Intn(2) == 0)
		if isMinimal(m) {
			out = append(out, m)
		}
	}
	return out
}
