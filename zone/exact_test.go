package zone_test

import (
	"math/rand"
	"slices"
	"strconv"
	"strings"
	"sync"

	"massecuite/zone"
)

// What the tests hold the results against: the terms of the chapter, written
// down as they are defined, and zones to try them on.

const none = zone.None

// limit is what a bound stands for: the values up to a number, or only those
// below it, or all.
type limit struct {
	num       int
	open, all bool
}

// meaning returns the limit of a bound.
func meaning(b int) limit {
	switch {
	case b == none:
		return limit{all: true}
	case b%2 == 0:
		return limit{num: b / 2, open: true}
	}
	return limit{num: (b - 1) / 2}
}

func (l limit) bound() int {
	switch {
	case l.all:
		return none
	case l.open:
		return 2 * l.num
	}
	return 2*l.num + 1
}

// has reports whether num/den is within l.
func (l limit) has(num, den int) bool {
	return l.all || num < l.num*den || num == l.num*den && !l.open
}

func (l limit) plus(m limit) limit {
	if l.all || m.all {
		return limit{all: true}
	}
	return limit{num: l.num + m.num, open: l.open || m.open}
}

// stricter returns the stricter one of two limits.
func stricter(l, m limit) limit {
	if l.all || !m.all && (m.num < l.num || m.num == l.num && m.open) {
		return m
	}
	return l
}

// limits is the limits of a zone, (0, i) being the stricter one of the element
// and at most 0.
type limits [][]limit

// meant returns the limits of z, with all numbers times scale.
func meant(z [][]int, scale int) limits {
	var out limits
	for i, row := range z {
		out = append(out, nil)
		for _, b := range row {
			l := meaning(b)
			l.num *= scale
			if i == 0 {
				l = stricter(l, limit{})
			}
			out[i] = append(out[i], l)
		}
	}
	return out
}

// ways returns the sum of limits of the strictest way from each to each, by
// trying all ways that come to none twice.
func (m limits) ways() limits {
	var out limits
	for i := range m {
		out = append(out, slices.Repeat([]limit{{all: true}}, len(m)))
		var walk func(at, met int, sum limit)
		walk = func(at, met int, sum limit) {
			out[i][at] = stricter(out[i][at], sum)
			for j := range m {
				if met>>j&1 == 0 {
					walk(j, met|1<<j, sum.plus(m[at][j]))
				}
			}
		}
		walk(i, 1<<i, limit{})
	}
	return out
}

// proves reports whether l is different numbers around which the limits exclude
// each other.
func (m limits) proves(l []int) bool {
	sum := limit{}
	for k, i := range l {
		if i < 0 || i >= len(m) || slices.Contains(l[:k], i) {
			return false
		}
		if k > 0 {
			sum = sum.plus(m[l[k-1]][i])
		}
	}
	return len(l) > 0 && !sum.plus(m[l[len(l)-1]][l[0]]).has(0, 1)
}

// empty reports whether no values are within all limits.
func (m limits) empty() bool {
	return slices.ContainsFunc(orders(len(m)), m.proves)
}

// orders returns all slices of different numbers below n that are not empty.
func orders(n int) [][]int {
	var out [][]int
	var walk func(l []int)
	walk = func(l []int) {
		for i := range n {
			if !slices.Contains(l, i) {
				next := append(slices.Clone(l), i)
				out = append(out, next)
				walk(next)
			}
		}
	}
	walk(nil)
	return out
}

// bounds returns the bounds of the limits between the nodes of a list.
func (m limits) bounds(nodes ...int) [][]int {
	var out [][]int
	for k, i := range nodes {
		out = append(out, nil)
		for _, j := range nodes {
			out[k] = append(out[k], m[i][j].bound())
		}
	}
	return out
}

// upTo returns the numbers below n.
func upTo(n int) []int {
	var out []int
	for i := range n {
		out = append(out, i)
	}
	return out
}

// tight returns the tight zone; nil if z is empty.
func tight(z [][]int) [][]int {
	m := meant(z, 1)
	if m.empty() {
		return nil
	}
	return m.ways().bounds(upTo(len(z))...)
}

// delayed returns the tight zone of what comes by waiting; nil if z is empty. It
// takes the time that has passed for one more clock.
func delayed(z [][]int) [][]int {
	n := len(z)
	m := meant(z, 1)
	if m.empty() {
		return nil
	}
	for i := range m {
		m[i] = append(m[i], limit{all: true})
	}
	m = append(m, slices.Repeat([]limit{{all: true}}, n+1))
	m[n][0] = limit{} // 0 now is at most 0 then and the time passed
	nodes := upTo(n)
	nodes[0] = n
	return m.ways().bounds(nodes...)
}

// resetted returns the tight zone with the clocks of a set 0; nil if z is empty.
func resetted(z [][]int, set int) [][]int {
	m := meant(z, 1)
	if m.empty() {
		return nil
	}
	nodes := upTo(len(z))
	for c := range nodes {
		if set>>c&1 == 1 {
			nodes[c] = 0
		}
	}
	return m.ways().bounds(nodes...)
}

// first returns the first point in quarters; nil if z is empty. It makes one
// clock after the other as small as the limits of quarters allow.
func first(z [][]int) []int {
	m := meant(z, 4)
	if m.empty() {
		return nil
	}
	for i := range m {
		for j, l := range m[i] {
			if l.open { // a quarter below it at most
				m[i][j] = limit{num: l.num - 1}
			}
		}
	}
	var p []int
	for i := 1; i < len(m); i++ {
		x := -m.ways()[0][i].num
		m[0][i], m[i][0] = limit{num: -x}, limit{num: x}
		p = append(p, x)
	}
	return p
}

// has reports whether a point in parts of 1/den is in z, as it is defined.
func has(z [][]int, p []int, den int) bool {
	v := append([]int{0}, p...)
	for i := range z {
		for j, b := range z[i] {
			if v[i] < 0 || !meaning(b).has(v[i]-v[j], den) {
				return false
			}
		}
	}
	return true
}

// grid returns all points with n clocks from 0 to top, in order.
func grid(n, top int) [][]int {
	out := [][]int{nil}
	for range n {
		var next [][]int
		for _, p := range out {
			for x := range top + 1 {
				next = append(next, append(slices.Clone(p), x))
			}
		}
		out = next
	}
	return out
}

// of returns the zone with these rows, separated by strokes: 3 stands for the
// bound at most 3, <3 for below 3, and - for None.
func of(text string) [][]int {
	var out [][]int
	for _, part := range strings.Split(text, "/") {
		var row []int
		for _, word := range strings.Fields(part) {
			row = append(row, boundOf(word))
		}
		out = append(out, row)
	}
	return out
}

// boundOf returns the bound of a word.
func boundOf(word string) int {
	if word == "-" {
		return none
	}
	number, open := strings.CutPrefix(word, "<")
	c, err := strconv.Atoi(number)
	if err != nil {
		panic(err)
	}
	return limit{num: c, open: open}.bound()
}

// filled returns the zone of n clocks in which all elements are b.
func filled(n, b int) [][]int {
	z := make([][]int, n+1)
	for i := range z {
		z[i] = slices.Repeat([]int{b}, n+1)
	}
	return z
}

// changed returns z with another element.
func changed(z [][]int, i, j, b int) [][]int {
	out := clone(z)
	out[i][j] = b
	return out
}

func clone(z [][]int) [][]int {
	out := make([][]int, len(z))
	for i := range z {
		out[i] = slices.Clone(z[i])
	}
	return out
}

// isValid reports whether a tight zone is a valid one.
func isValid(z [][]int) bool {
	return !slices.ContainsFunc(slices.Concat(z...), func(b int) bool { return b != none && (b < -2000 || b > 2001) })
}

func equal(a, b [][]int) bool { return slices.EqualFunc(a, b, slices.Equal[[]int]) }

// random returns a zone in which an element is a bound in so many of 10 cases,
// with a number from -most to most.
func random(r *rand.Rand, n, often, most int) [][]int {
	z := filled(n, none)
	for i := range z {
		for j := range z {
			if r.Intn(10) < often {
				z[i][j] = r.Intn(4*most+2) - 2*most
			}
		}
	}
	return z
}

// around returns a zone whose bounds are near the differences of some point, so
// that it is often not empty, and then often not tight.
func around(r *rand.Rand, n, often, most int) [][]int {
	z := filled(n, none)
	v := make([]int, n+1)
	for i := 1; i <= n; i++ {
		v[i] = r.Intn(most)
	}
	for i := range z {
		for j := range z {
			if i != j && r.Intn(10) < often {
				z[i][j] = min(2*most+1, 2*(v[i]-v[j])+r.Intn(4))
			}
		}
	}
	return z
}

// small are zones with small numbers: all of one clock with some bounds, and many
// of more clocks.
var small = sync.OnceValue(func() [][][]int {
	var out [][][]int
	list := []int{none, -4, -3, -1, 0, 1, 2, 3, 5}
	for k := range 9 * 9 * 9 * 9 {
		out = append(out, [][]int{{list[k%9], list[k/9%9]}, {list[k/81%9], list[k/729]}})
	}
	r := rand.New(rand.NewSource(5))
	for k := range 600 {
		out = append(out, random(r, 2, 1+k%10, 1+k%3), around(r, 2, 1+k%10, 3), random(r, 2, 3, 3))
	}
	return out
})

// tiny are zones of three clocks with numbers from -1 to 1.
var tiny = sync.OnceValue(func() [][][]int {
	var out [][][]int
	r := rand.New(rand.NewSource(6))
	for k := range 150 {
		out = append(out, random(r, 3, 1+k%4, 1), around(r, 3, 1+k%10, 1))
	}
	return out
})

// large are zones with numbers up to the limit, and others of three clocks.
var large = sync.OnceValue(func() [][][]int {
	var out [][][]int
	r := rand.New(rand.NewSource(7))
	for k := range 1200 {
		n := 1 + k%3
		out = append(out, random(r, n, 1+k%8, 1000), around(r, n, 1+k%10, 1000), around(r, n, 1+k%10, 8), chain(r, n))
	}
	for n := 1; n <= 3; n++ {
		for _, b := range []int{none, -2000, -1999, -1, 0, 1, 2, 2000, 2001} {
			z := filled(n, b)
			out = append(out, z, changed(z, 0, n, none), changed(z, n, 0, none), changed(z, n, n, none), changed(z, 0, 0, none))
		}
	}
	return out
})

// chain returns a zone in which the clocks are far from each other, one after
// the other, so that their bounds add up.
func chain(r *rand.Rand, n int) [][]int {
	z := filled(n, none)
	order := r.Perm(n + 1)
	for k := range n {
		i, j := order[k], order[k+1]
		z[i][j] = 2001 - r.Intn(3)
		if r.Intn(2) == 0 && i > 0 {
			z[i][j] = -2000 + r.Intn(3)
		}
	}
	z[order[r.Intn(n+1)]][order[r.Intn(n+1)]] = 1 + r.Intn(2001)
	return z
}

// zones are all samples.
var zones = sync.OnceValue(func() [][][]int { return slices.Concat(small(), tiny(), large()) })

// text returns a zone as a key.
func text(z [][]int) string {
	var out []string
	for _, row := range z {
		for _, b := range row {
			out = append(out, strconv.Itoa(b))
		}
	}
	return strings.Join(out, " ")
}
