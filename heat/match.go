package heat

import "slices"

// validLoads reports whether these are heat loads for matching.
func validLoads(hot, cold []int) bool {
	x, ok := total(hot)
	y, ok2 := total(cold)
	return ok && ok2 && x == y
}

// total returns the sum of loads; false if one of them, or their number, is not
// valid.
func total(loads []int) (int, bool) {
	if !in(len(loads), 1, maxSide) {
		return 0, false
	}
	sum := 0
	for _, x := range loads {
		if !in(x, 1, maxNumber) {
			return 0, false
		}
		sum += x
	}
	return sum, true
}

// division has for each set of heat loads, the hot ones before the cold ones, the
// most parts of it that are closed and share no load, and a load that can be left
// out such that there are as many in the others as there can be. A set is closed
// if its hot and its cold loads have equal sums.
type division struct{ parts, out []int }

// divided returns the division of heat loads.
func divided(hot, cold []int) division {
	loads := slices.Clone(hot)
	for _, x := range cold {
		loads = append(loads, -x)
	}
	sets := 1 << len(loads)
	d := division{make([]int, sets), make([]int, sets)}
	sums := make([]int, sets)
	for set := 1; set < sets; set++ {
		d.parts[set] = -1
		for i, x := range loads {
			others := set &^ (1 << i)
			if others == set {
				continue
			}
			sums[set] = sums[others] + x
			if d.parts[others] > d.parts[set] {
				d.parts[set], d.out[set] = d.parts[others], i
			}
		}
		if sums[set] == 0 {
			// What is in none of the parts is one more, and has the load left out.
			d.parts[set]++
		}
	}
	return d
}

// most returns the most parts of all loads.
func (d division) most() int {
	return d.parts[len(d.parts)-1]
}

// order returns all loads such that the most parts follow one another.
func (d division) order() []int {
	var order []int
	for set := len(d.out) - 1; set > 0; {
		i := d.out[set]
		order = append(order, i)
		set &^= 1 << i
	}
	return order
}

// match passes heat from hot to cold loads, both in the order of d: a load is
// matched until it has nothing left, which takes one match less than there are
// loads for each part, as the last match of a part is the last one of two loads.
func (d division) match(hot, cold []int) [][3]int {
	left := slices.Concat(hot, cold)
	var from, to []int
	for _, k := range d.order() {
		if k < len(hot) {
			from = append(from, k)
		} else {
			to = append(to, k)
		}
	}
	var out [][3]int
	for len(from) > 0 {
		i, j := from[0], to[0]
		x := min(left[i], left[j])
		out = append(out, [3]int{i, j - len(hot), x})
		left[i] -= x
		left[j] -= x
		if left[i] == 0 {
			from = from[1:]
		}
		if left[j] == 0 {
			to = to[1:]
		}
	}
	return out
}
