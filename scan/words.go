package scan

import (
	"slices"

	"massecuite/api"
)

// isWord reports whether word has at most this many letters, all of them below
// the number of letters.
func isWord(word []int, most, letters int) bool {
	if len(word) > most {
		return false
	}
	for _, letter := range word {
		if !in(letter, 0, letters-1) {
			return false
		}
	}
	return true
}

// longer returns the word with one more letter. The cut leaves no room behind
// the word, so that this one is new.
func longer(word []int, letter int) []int {
	return append(word[:len(word):len(word)], letter)
}

// finding is a state with the first of the shortest words that lead to it.
type finding[S comparable] struct {
	state S
	word  []int
}

// search returns the states that words lead to from a first one, in the order of
// the words: by length, and those of equal length element by element.
func search[S comparable](first S, letters int, next func(state S, letter int) S) []finding[S] {
	found := []finding[S]{{state: first}}
	met := map[S]bool{first: true}
	for k := 0; k < len(found); k++ {
		from := found[k]
		for letter := range letters {
			to := next(from.state, letter)
			if !met[to] {
				met[to] = true
				found = append(found, finding[S]{to, longer(from.word, letter)})
			}
		}
	}
	return found
}

// found returns the states that can be reached from 0.
func (m Machine) found() []finding[int] {
	return search(0, m.Inputs, func(s, letter int) int { return m.Next[s][letter] })
}

// parting returns the first of the shortest words to which state s of m and state
// t of n respond differently, if there is one.
func parting(m Machine, s int, n Machine, t int) ([]int, bool) {
	both := func(at [2]int, letter int) [2]int {
		return [2]int{m.Next[at[0]][letter], n.Next[at[1]][letter]}
	}
	for _, f := range search([2]int{s, t}, m.Inputs, both) {
		for letter := range m.Inputs {
			if m.Out[f.state[0]][letter] != n.Out[f.state[1]][letter] {
				return longer(f.word, letter), true
			}
		}
	}
	return nil, false
}

// testable returns the error of Tests for a machine.
func (m Machine) testable(extra int) api.Errno {
	if !m.valid() || !in(extra, 0, maxExtra) || len(m.Next) > maxTested || !m.minimal() {
		return api.ErrArg
	}
	if m.Inputs > maxKeys {
		return api.ErrSize
	}
	return api.OK
}

// necessary returns the words that tests have to begin with: one that reaches a
// state, any others, and one that tells at which state that ends.
func (m Machine) necessary(extra int) [][]int {
	var out [][]int
	between := m.short(extra + 1)
	ends := m.ends()
	for _, f := range m.found() {
		for _, middle := range between {
			for _, end := range ends {
				out = append(out, slices.Concat(f.word, middle, end))
			}
		}
	}
	return out
}

// short returns all words with at most this many letters.
func (m Machine) short(most int) [][]int {
	words := [][]int{nil}
	for k := 0; k < len(words); k++ {
		for letter := range m.Inputs {
			if len(words[k]) < most {
				words = append(words, longer(words[k], letter))
			}
		}
	}
	return words
}

// ends returns the empty word and the parting set, in which a word may occur more
// than once.
func (m Machine) ends() [][]int {
	words := [][]int{nil}
	for t := range m.Next {
		for s := range t {
			word, _ := parting(m, s, m, t)
			words = append(words, word)
		}
	}
	return words
}

// areTests reports whether words are words of m, and not too many or too long.
func (m Machine) areTests(words [][]int) bool {
	return len(words) <= maxTests && !slices.ContainsFunc(words, func(word []int) bool {
		return !isWord(word, maxTest, m.Inputs)
	})
}

// sorted returns words in order. A beginning of one of them comes before it, and
// only words with the same beginning come between.
func sorted(words [][]int) [][]int {
	return slices.SortedFunc(slices.Values(words), slices.Compare[[]int])
}

// begins reports whether word begins with first.
func begins(word, first []int) bool {
	return len(first) <= len(word) && slices.Equal(word[:len(first)], first)
}

// longest returns, in order, those words that are no beginnings of others, each
// once.
func longest(words [][]int) [][]int {
	var out [][]int
	for _, word := range sorted(words) {
		if n := len(out); n > 0 && begins(word, out[n-1]) {
			out = out[:n-1]
		}
		out = append(out, word)
	}
	return out
}

// haveAll reports whether each of the firsts is a beginning of one of the words.
func haveAll(words, firsts [][]int) bool {
	list := sorted(words)
	for _, first := range firsts {
		// If one begins with it, so does the next one in order.
		k, _ := slices.BinarySearchFunc(list, first, slices.Compare)
		if k == len(list) || !begins(list[k], first) {
			return false
		}
	}
	return true
}
