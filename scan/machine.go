package scan

import (
	"slices"

	"massecuite/api"
	"massecuite/logic"
)

// valid reports whether m is a machine.
func (m Machine) valid() bool {
	n := len(m.Next)
	if !in(m.Inputs, 1, maxLetters) || !in(n, 1, api.MaxStates) || len(m.Out) != n {
		return false
	}
	for s := range n {
		if !isRow(m.Next[s], m.Inputs, n-1) || !isRow(m.Out[s], m.Inputs, maxOut) {
			return false
		}
	}
	return true
}

// isRow reports whether l has n numbers from 0 to most.
func isRow(l []int, n, most int) bool {
	return len(l) == n && isWord(l, n, most+1)
}

// steps say where a letter leads from a state, and which output letter it gives.
type steps func(state, letter int) (to, out int)

// step returns where a letter leads from state s, and the output letter.
func (m Machine) step(s, letter int) (to, out int) {
	return m.Next[s][letter], m.Out[s][letter]
}

// response returns the output letters of steps from a state with the letters of
// a word.
func response(state int, word []int, step steps) []int {
	list := make([]int, len(word))
	for k, letter := range word {
		state, list[k] = step(state, letter)
	}
	return list
}

// numbered returns the machine of the states that steps lead to from a first
// one, numbered as they are first reached.
func numbered(first, letters int, step steps) Machine {
	found := search(first, letters, func(state, letter int) int {
		to, _ := step(state, letter)
		return to
	})
	number := map[int]int{}
	for k, f := range found {
		number[f.state] = k
	}
	m := Machine{Inputs: letters}
	for _, f := range found {
		var next, outs []int
		for letter := range letters {
			to, out := step(f.state, letter)
			next = append(next, number[to])
			outs = append(outs, out)
		}
		m.Next = append(m.Next, next)
		m.Out = append(m.Out, outs)
	}
	return m
}

// minimized returns the minimal machine: each state stands for those that are
// equivalent to it.
func (m Machine) minimized() Machine {
	classes := m.classes()
	return numbered(classes[0], m.Inputs, func(s, letter int) (to, out int) {
		to, out = m.step(s, letter)
		return classes[to], out
	})
}

// classes returns for each state the least one that is equivalent to it. To the
// empty word all states respond alike.
func (m Machine) classes() []int {
	classes := make([]int, len(m.Next))
	for {
		next := m.refined(classes)
		if slices.Equal(next, classes) {
			return classes
		}
		classes = next
	}
}

// refined returns for each state the least one that responds like it to words
// of one letter more than those to which the states of a class respond alike.
func (m Machine) refined(classes []int) []int {
	out := make([]int, len(classes))
	for s := range out {
		for !m.alike(s, out[s], classes) {
			out[s]++
		}
	}
	return out
}

// alike reports whether each letter has the same output letter at two states,
// and leads to states of one class.
func (m Machine) alike(s, t int, classes []int) bool {
	for letter := range m.Inputs {
		to, out := m.step(s, letter)
		to2, out2 := m.step(t, letter)
		if classes[to] != classes[to2] || out != out2 {
			return false
		}
	}
	return true
}

// minimal reports whether all states can be reached and no two are equivalent.
func (m Machine) minimal() bool {
	return len(m.minimized().Next) == len(m.Next)
}

// reachable returns the states that can be reached, rising.
func (m Machine) reachable() []int {
	var states []int
	for _, f := range m.found() {
		states = append(states, f.state)
	}
	slices.Sort(states)
	return states
}

// model returns the structure of the pairs of one of these states, which are
// rising, and a letter.
func (m Machine) model(states []int) logic.Structure {
	var out logic.Structure
	for _, s := range states {
		for letter := range m.Inputs {
			to, label := m.step(s, letter)
			at, _ := slices.BinarySearch(states, to)
			pairs := (1<<m.Inputs - 1) << (at * m.Inputs)
			out.Next = append(out.Next, pairs)
			out.Label = append(out.Label, label)
		}
	}
	return out
}
