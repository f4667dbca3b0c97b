package plant

import (
	"strconv"
	"strings"

	"massecuite/api"
)

// command is a change or a question.
type command struct {
	words string // one letter for each word behind the first: n for a number, g for the name of a grower
	run   func(s *state, a args) (reply, api.Errno)
}

// args are the words behind the first one.
type args struct {
	name    string
	numbers []int
}

// changes returns the commands that change the state. On an error they may have
// changed some of it.
func changes() map[string]command {
	return map[string]command{
		"grower":  {"g", (*state).grower},
		"deliver": {"gn", (*state).deliver},
		"tick":    {"n", (*state).tick},
		"ship":    {"n", (*state).ship},
		"pay":     {"n", (*state).pay},
	}
}

// questions returns the commands that leave the state as it is.
func questions(places int) map[string]command {
	return map[string]command{
		"marking":   {"", (*state).tokens},
		"registers": {"", (*state).registers},
		"growers":   {"", (*state).names},
		"owed":      {"g", (*state).owed},
		"paid":      {"g", (*state).paid},
		"can":       {strings.Repeat("n", places), (*state).can},
	}
}

// read returns the command of a line, and what follows it, if it is one of these.
func read(line string, commands map[string]command) (command, args, bool) {
	if !isLine(line) {
		return command{}, args{}, false
	}
	words := strings.Split(line, " ")
	c, ok := commands[words[0]]
	if !ok {
		return command{}, args{}, false
	}
	a, ok := c.read(words[1:])
	return c, a, ok
}

// read returns the words behind the first one, if they are what is expected.
func (c command) read(words []string) (args, bool) {
	var a args
	if len(words) != len(c.words) {
		return a, false
	}
	for k, word := range words {
		if c.words[k] == 'g' {
			if !isName(word) {
				return a, false
			}
			a.name = word
			continue
		}
		n, ok := number(word, maxNumber)
		if !ok {
			return a, false
		}
		a.numbers = append(a.numbers, n)
	}
	return a, true
}

// isLine reports whether s is a line.
func isLine(s string) bool {
	if !in(len(s), 1, maxLine) || s[0] == ' ' || s[len(s)-1] == ' ' || strings.Contains(s, "  ") {
		return false
	}
	for k := range len(s) {
		if s[k] < ' ' || s[k] > '~' {
			return false
		}
	}
	return true
}

// isName reports whether s is the name of a grower.
func isName(s string) bool {
	if !in(len(s), 1, maxName) {
		return false
	}
	for k := range len(s) {
		if s[k] < 'a' || s[k] > 'z' {
			return false
		}
	}
	return true
}

// number returns the number that s stands for, if it is decimal, without leading
// zeros or a sign, and at most most.
func number(s string, most int) (int, bool) {
	n, err := strconv.Atoi(s)
	if err != nil || !in(n, 0, most) || strconv.Itoa(n) != s {
		return 0, false
	}
	return n, true
}
