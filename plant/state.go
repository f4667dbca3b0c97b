package plant

import (
	"slices"
	"strings"

	"massecuite/api"
	"massecuite/net"
)

// state is what the lines of a log lead to.
type state struct {
	*machinery
	marking api.Marking
	at      int      // the state of the controller
	growers []grower // by their names
}

// grower is one who delivers beets.
type grower struct {
	name       string
	owed, paid int
}

// change returns the state after a change, and the reply. It leaves s as it is.
func (s state) change(line string) (state, reply, api.Errno) {
	c, a, ok := read(line, changes())
	if !ok {
		return s, nil, api.ErrForm
	}
	after := s
	after.marking = slices.Clone(s.marking)
	after.growers = slices.Clone(s.growers)
	r, e := c.run(&after, a)
	return after, r, e
}

// answer returns the reply to a question.
func (s *state) answer(line string) (reply, api.Errno) {
	c, a, ok := read(line, questions(len(s.marking)))
	if !ok {
		return nil, api.ErrForm
	}
	return c.run(s, a)
}

// text returns the replies to all questions that say what the state is.
func (s *state) text() string {
	lines := []string{"marking", "registers", "growers"}
	for _, g := range s.growers {
		lines = append(lines, "owed "+g.name, "paid "+g.name)
	}
	var out strings.Builder
	for _, line := range lines {
		r, _ := s.answer(line)
		out.WriteString(r.text())
		out.WriteByte('\n')
	}
	return out.String()
}

// find returns where a grower is, or where they would be.
func (s *state) find(name string) (int, bool) {
	return slices.BinarySearchFunc(s.growers, name, func(g grower, name string) int { return strings.Compare(g.name, name) })
}

// grower is the change that adds a grower.
func (s *state) grower(a args) (reply, api.Errno) {
	k, ok := s.find(a.name)
	if ok {
		return nil, api.ErrState
	}
	if len(s.growers) == maxGrowers {
		return nil, api.ErrFull
	}
	s.growers = slices.Insert(s.growers, k, grower{name: a.name})
	return reply{"grower"}, api.OK
}

// deliver is the change that brings loads of a grower.
func (s *state) deliver(a args) (reply, api.Errno) {
	k, ok := s.find(a.name)
	if !ok {
		return nil, api.ErrNone
	}
	n := a.numbers[0]
	if n == 0 {
		return nil, api.ErrArg
	}
	if s.marking[0]+n > maxTokens {
		return nil, api.ErrFull
	}
	s.marking[0] += n
	s.growers[k].owed += n
	return reply{"deliver", s.marking[0]}, api.OK
}

// tick is the change that makes a scan.
func (s *state) tick(a args) (reply, api.Errno) {
	letter := a.numbers[0]
	if letter >= s.controller.Inputs {
		return nil, api.ErrArg
	}
	out := s.controller.Out[s.at][letter]
	s.at = s.controller.Next[s.at][letter]
	fired := 0
	for t := range s.net.Pre {
		if out>>t&1 == 1 && s.fire(t) {
			fired++
		}
		if slices.Max(s.marking) > maxTokens {
			return nil, api.ErrFull
		}
	}
	return reply{"tick", out, fired}, api.OK
}

// fire fires a transition, if it is enabled.
func (s *state) fire(t int) bool {
	m, e := net.Fire(s.net, s.marking, t)
	if e != api.OK {
		return false
	}
	s.marking = m
	return true
}

// ship is the change that takes away what is done.
func (s *state) ship(a args) (reply, api.Errno) {
	n, last := a.numbers[0], len(s.marking)-1
	if n == 0 {
		return nil, api.ErrArg
	}
	if s.marking[last] < n {
		return nil, api.ErrShort
	}
	s.marking[last] -= n
	return reply{"ship", s.marking[last]}, api.OK
}

// pay is the change that shares cents among the growers.
func (s *state) pay(a args) (reply, api.Errno) {
	var loads []int
	for _, g := range s.growers {
		loads = append(loads, g.owed)
	}
	if sum(loads) == 0 {
		return nil, api.ErrNone
	}
	got := 0
	for k, cents := range shares(a.numbers[0], loads) {
		s.growers[k].owed = 0
		s.growers[k].paid += cents
		if cents > 0 {
			got++
		}
	}
	return reply{"pay", got}, api.OK
}

// tokens is the question what the marking is.
func (s *state) tokens(args) (reply, api.Errno) { return reply{"marking", []int(s.marking)}, api.OK }

// registers is the question what values they have, which no input letter changes.
func (s *state) registers(args) (reply, api.Errno) {
	var values []int
	for _, m := range s.probes {
		values = append(values, m.Out[s.at][0])
	}
	return reply{"registers", values}, api.OK
}

// names is the question who the growers are.
func (s *state) names(args) (reply, api.Errno) {
	var names []string
	for _, g := range s.growers {
		names = append(names, g.name)
	}
	return reply{"growers", names}, api.OK
}

// owed is the question how many loads a grower is owed.
func (s *state) owed(a args) (reply, api.Errno) {
	k, ok := s.find(a.name)
	if !ok {
		return nil, api.ErrNone
	}
	return reply{"owed", s.growers[k].owed}, api.OK
}

// paid is the question how many cents a grower was paid in all.
func (s *state) paid(a args) (reply, api.Errno) {
	k, ok := s.find(a.name)
	if !ok {
		return nil, api.ErrNone
	}
	return reply{"paid", s.growers[k].paid}, api.OK
}

// can is the question whether so many tokens can be reached.
func (s *state) can(a args) (reply, api.Errno) {
	// A net has no more tokens than these at first.
	if slices.Max(s.marking) > maxAsked {
		return nil, api.ErrSize
	}
	n := s.net
	n.Start = s.marking
	yes, e := net.Covers(n, a.numbers)
	if e != api.OK {
		return nil, e
	}
	return reply{"can", yes}, api.OK
}
