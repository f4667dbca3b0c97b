package net

// siphons returns the siphons that are not empty and contain no other one that
// is not empty, rising.
func (s system) siphons() []int {
	var out []int
	for set := 1; set < 1<<s.size; set++ {
		// What a set contains has a lower number, and so was met before.
		if s.isSiphon(set) && !containsOne(set, out) {
			out = append(out, set)
		}
	}
	return out
}

// isSiphon reports whether every transition that puts tokens on a place of the
// set takes some from one of them.
func (s system) isSiphon(set int) bool {
	for t := range s.pre {
		if s.post[t].places()&set != 0 && s.pre[t].places()&set == 0 {
			return false
		}
	}
	return true
}

// containsOne reports whether the set contains one of the parts.
func containsOne(set int, parts []int) bool {
	for _, part := range parts {
		if part&^set == 0 {
			return true
		}
	}
	return false
}

// trap returns the greatest trap within a set.
func (s system) trap(set int) int {
	for lost := set; lost != 0; {
		lost = s.lost(set)
		set &^= lost
	}
	return set
}

// lost returns the places of a set from which some transition takes that puts
// nothing on the set: no trap within the set has any of them.
func (s system) lost(set int) int {
	out := 0
	for t := range s.pre {
		if s.post[t].places()&set == 0 {
			out |= s.pre[t].places() & set
		}
	}
	return out
}

// freeChoice reports whether s is free-choice.
func (s system) freeChoice() bool {
	taken := 0
	for t, row := range s.pre {
		if !row.single() || !s.post[t].single() {
			return false
		}
		for _, other := range s.pre[:t] {
			if row.places()&other.places() != 0 && row != other {
				return false
			}
		}
		taken |= row.places()
	}
	return taken == 1<<s.size-1
}

// single reports whether m has only the numbers 0 and 1.
func (m tokens) single() bool {
	for _, x := range m {
		if x > 1 {
			return false
		}
	}
	return true
}
