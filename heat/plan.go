package heat

// accounts has the heat that streams still have to pass or to get, by their
// indices. A stream that has none to pass or get is not in it.
type accounts map[int]int

// take takes heat from what the account of a stream has, or from a utility,
// which has any; false if there is not so much.
func (a accounts) take(stream, heat int) bool {
	if stream == utility {
		return true
	}
	if heat > a[stream] {
		return false
	}
	a[stream] -= heat
	if a[stream] == 0 {
		delete(a, stream)
	}
	return true
}

// exchange is what the streams of a system have given and want, on the way
// downward from level to level.
type exchange struct {
	system
	given, wanted accounts
}

// exchange returns that of the first level.
func (s system) exchange() exchange {
	return exchange{s, accounts{}, accounts{}}
}

// descend adds what the streams give and want between two levels.
func (x exchange) descend(upper, lower int) {
	for i, s := range x.spans {
		heat := s.heat(upper, lower)
		switch {
		case heat == 0:
		case s.hot():
			x.given[i] += heat
		default:
			x.wanted[i] += heat
		}
	}
}

// pass passes a load from what has been given to what is wanted; false if that
// is not possible.
func (x exchange) pass(l Load) bool {
	if l.Heat <= 0 || l.Hot == utility && l.Cold == utility {
		return false
	}
	return x.given.take(l.Hot, l.Heat) && x.wanted.take(l.Cold, l.Heat)
}

// plan returns a plan that serves the streams. It asks the hot utility only for
// what no hot stream has left, so for no more than it must.
func (s system) plan() []Load {
	var p []Load
	x := s.exchange()
	pass := func(l Load) {
		if x.pass(l) {
			p = append(p, l)
		}
	}
	lowest := 0
	for upper, lower := range s.pairs() {
		x.descend(upper, lower)
		for cold := range s.spans {
			for hot := range s.spans {
				pass(Load{hot, cold, upper, min(x.given[hot], x.wanted[cold])})
			}
			pass(Load{utility, cold, upper, x.wanted[cold]})
		}
		lowest = upper
	}
	for hot := range s.spans {
		pass(Load{hot, utility, lowest, x.given[hot]})
	}
	return p
}

// servedBy reports whether p serves the streams.
func (s system) servedBy(p []Load) bool {
	x := s.exchange()
	passed := 0
	for upper, lower := range s.pairs() {
		x.descend(upper, lower)
		for _, l := range p {
			if l.Top != upper {
				continue
			}
			if !x.pass(l) {
				return false
			}
			passed++
		}
		if len(x.wanted) > 0 {
			return false
		}
	}
	return len(x.given) == 0 && passed == len(p)
}

// fromUtility returns the hot utility of a plan.
func fromUtility(p []Load) int {
	sum := 0
	for _, l := range p {
		if l.Hot == utility {
			sum += l.Heat
		}
	}
	return sum
}
