package logic

import "slices"

// isShown reports whether a path from a state can show a formula with this Op.
func isShown(op string) bool {
	return op == "EX" || op == "EF" || op == "EG" || op == "EU"
}

// opposite returns the Op with which a path shows that one with this Op does not
// hold, if its Kid is the contrary; none for an Op for which there is none.
func opposite(op string) string {
	switch op {
	case "AX":
		return "EX"
	case "AF":
		return "EG"
	case "AG":
		return "EF"
	}
	return ""
}

// witness returns a path from a state that shows the Op of Kids that the states
// of x and of y satisfy. There must be one.
func (s Structure) witness(op string, state, x, y int) Path {
	switch op {
	case "EX":
		return s.closed([]int{state, least(s.Next[state] & x)}, s.all())
	case "EF":
		return s.closed(s.shortest(state, s.all(), x), s.all())
	case "EU":
		return s.closed(s.shortest(state, x, y), s.all())
	}
	return s.closed([]int{state}, s.always(x))
}

// shortest returns states as few as possible, from this one on, of which each
// follows the one before it, the last one is of y, and the others are of x.
// There must be some.
func (s Structure) shortest(state, x, y int) []int {
	sets := []int{y} // from those of set k, it takes k steps at most
	for !has(sets[len(sets)-1], state) {
		sets = append(sets, y|x&s.before(sets[len(sets)-1]))
	}
	states := []int{state}
	for k := len(sets) - 2; k >= 0; k-- {
		state = least(s.Next[state] & sets[k])
		states = append(states, state)
	}
	return states
}

// closed returns a path that begins with these states, and goes on within a set
// until it comes to one of its states again. Each state of the set is followed
// by one of it, and so is the last one of these.
func (s Structure) closed(states []int, set int) Path {
	for {
		next := least(s.Next[states[len(states)-1]] & set)
		if loop := slices.Index(states, next); loop >= 0 {
			return Path{States: states, Loop: loop}
		}
		states = append(states, next)
	}
}

// fits reports whether p is a path of s that is not too long.
func (s Structure) fits(p Path) bool {
	if !in(len(p.States), 1, maxPath) || !in(p.Loop, 0, len(p.States)-1) {
		return false
	}
	for k, x := range p.States {
		next := p.after(k)
		if !s.isState(x) || !s.isState(next) || !has(s.Next[x], next) {
			return false
		}
	}
	return true
}

// after returns the state that comes after States[k].
func (p Path) after(k int) int {
	if k+1 < len(p.States) {
		return p.States[k+1]
	}
	return p.States[p.Loop]
}

// shows reports whether p shows the Op of Kids that the states of x and of y
// satisfy.
func (p Path) shows(op string, x, y int) bool {
	inX := func(state int) bool { return has(x, state) }
	inY := func(state int) bool { return has(y, state) }
	outX := func(state int) bool { return !inX(state) }
	switch op {
	case "EX":
		return inX(p.after(0))
	case "EF":
		return slices.ContainsFunc(p.States, inX)
	case "EU":
		k := slices.IndexFunc(p.States, inY)
		return k >= 0 && !slices.ContainsFunc(p.States[:k], outX)
	}
	return !slices.ContainsFunc(p.States, outX)
}
