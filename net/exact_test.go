package net_test

import (
	"math/big"
	"math/rand"
	"slices"
	"strconv"
	"strings"
	"sync"

	"massecuite/api"
	"massecuite/net"
)

// What the tests hold the results against: the terms of the chapter, written
// down as they are defined, and nets to try them on.

// row returns the numbers of a string; * stands for Many.
func row(text string) []int {
	var out []int
	for _, word := range strings.Fields(text) {
		x, err := strconv.Atoi(word)
		if word == "*" {
			x, err = api.Many, nil
		}
		if err != nil {
			panic(err)
		}
		out = append(out, x)
	}
	return out
}

// markings returns the markings of strings.
func markings(texts ...string) []api.Marking {
	var out []api.Marking
	for _, text := range texts {
		out = append(out, row(text))
	}
	return out
}

// of returns the net with a start and, for each transition, what it takes and
// what it puts.
func of(start string, transitions ...string) net.Net {
	n := net.Net{Start: row(start)}
	for _, text := range transitions {
		pre, post, _ := strings.Cut(text, ">")
		n.Pre = append(n.Pre, row(pre))
		n.Post = append(n.Post, row(post))
	}
	return n
}

var (
	ring  = of("1 0", "1 0 > 0 1", "0 1 > 1 0") // example 1
	more  = of("0", "0 > 1")                    // example 2
	fewer = of("2", "1 > 0")                    // example 3

	// One resource that two workers need, and the same with two resources that
	// they take in different orders.
	shared = of("1 0 1 0 1", "1 0 0 0 1 > 0 1 0 0 0", "0 1 0 0 0 > 1 0 0 0 1", "0 0 1 0 1 > 0 0 0 1 0", "0 0 0 1 0 > 0 0 1 0 1")
	stuck  = of("1 0 1 0 1 1", "1 0 0 0 1 0 > 0 1 0 0 0 0", "0 1 0 0 0 1 > 1 0 0 0 1 1", "0 0 1 0 0 1 > 0 0 0 1 0 0", "0 0 0 1 1 0 > 0 0 1 0 1 1")

	// Nets at the limit of markings and above it: the first has five places
	// that are emptied one by one, 5·5·5·4·4 markings.
	markings2000 = of("4 4 4 3 3", "1 0 0 0 0 > 0 0 0 0 0", "0 1 0 0 0 > 0 0 0 0 0", "0 0 1 0 0 > 0 0 0 0 0", "0 0 0 1 0 > 0 0 0 0 0", "0 0 0 0 1 > 0 0 0 0 0")
	markings2001 = of("1 4 4 5 2", "0 0 3 0 0 > 0 0 0 0 0", "0 0 0 2 0 > 0 0 0 0 3", "0 0 1 0 0 > 0 0 0 3 0", "0 0 0 0 1 > 0 0 0 0 0", "0 2 0 0 0 > 0 0 0 0 1", "0 0 0 3 0 > 0 0 0 0 0")

	// Nets at the limit of the nodes of the tree and above it.
	tree2000 = of("0 5", "3 3 > 3 0", "1 0 > 0 0", "3 3 > 0 0", "0 0 > 3 2", "0 1 > 1 0", "0 3 > 1 0")
	tree2001 = of("1 2 4", "0 0 1 > 2 0 0", "0 0 1 > 1 0 1", "2 0 1 > 0 0 0", "0 0 0 > 0 1 0", "0 0 0 > 0 0 0", "0 3 0 > 0 0 0")
)

func atMost(m, other api.Marking) bool {
	for p := range m {
		if m[p] > other[p] {
			return false
		}
	}
	return true
}

func enabled(n net.Net, m api.Marking, t int) bool { return atMost(n.Pre[t], m) }

func fired(n net.Net, m api.Marking, t int) api.Marking {
	out := slices.Clone(m)
	for p := range m {
		if m[p] != api.Many {
			out[p] = m[p] - n.Pre[t][p] + n.Post[t][p]
		}
	}
	return out
}

// walk is the reachable markings of a net in the order of their discovery,
// where they stand, and the next of each by transition, -1 if it is not enabled.
type walk struct {
	all  []api.Marking
	at   map[key]int
	next [][]int
}

// key is a marking of up to six places.
type key [6]int

func keyOf(m api.Marking) key {
	var k key
	copy(k[:], m)
	return k
}

// walked returns the walk of n, and whether it has at most limit markings.
func walked(n net.Net, limit int) (walk, bool) {
	w := walk{at: map[key]int{keyOf(n.Start): 0}, all: []api.Marking{n.Start}}
	for i := 0; i < len(w.all); i++ {
		to := make([]int, len(n.Pre))
		for t := range to {
			to[t] = -1
			if !enabled(n, w.all[i], t) {
				continue
			}
			m := fired(n, w.all[i], t)
			j, ok := w.at[keyOf(m)]
			if !ok {
				j = len(w.all)
				w.at[keyOf(m)] = j
				w.all = append(w.all, m)
			}
			if len(w.all) > limit {
				return w, false
			}
			to[t] = j
		}
		w.next = append(w.next, to)
	}
	return w, true
}

// steps returns for each marking how many firings lead from it to the one at
// the index, -1 if none do.
func (w walk) steps(goal int) []int {
	out := make([]int, len(w.all))
	for i := range out {
		out[i] = -1
	}
	out[goal] = 0
	for d, found := 1, true; found; d++ {
		found = false
		for i, to := range w.next {
			for _, j := range to {
				if j >= 0 && out[i] < 0 && out[j] == d-1 {
					out[i], found = d, true
				}
			}
		}
	}
	return out
}

// live reports by the definition whether each transition can be enabled from
// each marking.
func (w walk) live(transitions int) bool {
	for t := range transitions {
		for i := range w.all {
			seen := map[int]bool{i: true}
			list := []int{i}
			ok := false
			for k := 0; k < len(list) && !ok; k++ {
				ok = w.next[list[k]][t] >= 0
				for _, j := range w.next[list[k]] {
					if j >= 0 && !seen[j] {
						seen[j] = true
						list = append(list, j)
					}
				}
			}
			if !ok {
				return false
			}
		}
	}
	return true
}

// leaf is a node of the coverability tree, with its parent, nil for the root.
type leaf struct {
	m  api.Marking
	up *leaf
}

// way returns the markings from the root to the node.
func (x *leaf) way() []api.Marking {
	if x == nil {
		return nil
	}
	return append(x.up.way(), x.m)
}

// treeOf returns the markings of the nodes of the coverability tree, level by
// level, or nil if there are more than limit.
func treeOf(n net.Net, limit int) []api.Marking {
	var out []api.Marking
	for level := []*leaf{{m: n.Start}}; len(level) > 0; {
		var below []*leaf
		for _, x := range level {
			out = append(out, x.m)
			if len(out)+len(below) > limit {
				return nil
			}
			way := x.way()
			if holds(way[:len(way)-1], x.m) {
				continue
			}
			for t := range n.Pre {
				if enabled(n, x.m, t) {
					below = append(below, &leaf{raised(fired(n, x.m, t), way), x})
				}
			}
		}
		level = below
	}
	if len(out) > limit {
		return nil
	}
	return out
}

func raised(m api.Marking, way []api.Marking) api.Marking {
	for _, before := range way {
		if atMost(before, m) {
			for p := range m {
				if m[p] > before[p] {
					m[p] = api.Many
				}
			}
		}
	}
	return m
}

func holds(list []api.Marking, m api.Marking) bool {
	return slices.ContainsFunc(list, func(x api.Marking) bool { return slices.Equal(x, m) })
}

// greatest returns the markings that are at most no other one, sorted.
func greatest(list []api.Marking) []api.Marking {
	list = slices.Clone(list)
	slices.SortFunc(list, slices.Compare)
	list = slices.CompactFunc(list, slices.Equal)
	var out []api.Marking
	for i, m := range list {
		top := true
		for k, other := range list {
			top = top && (i == k || !atMost(m, other))
		}
		if top {
			out = append(out, m)
		}
	}
	return out
}

// coverable reports whether a marking that is at least m can be reached: going
// backwards, by the least markings from which one can. It gives up if there are
// too many.
func coverable(n net.Net, m api.Marking) (ok, known bool) {
	least := []api.Marking{m}
	for i := 0; i < len(least); i++ {
		if atMost(least[i], n.Start) {
			return true, true
		}
		if i > 400 {
			return false, false
		}
		for t := range n.Pre {
			before := make(api.Marking, len(m))
			for p := range before {
				before[p] = max(n.Pre[t][p], least[i][p]-n.Post[t][p]+n.Pre[t][p])
			}
			if !slices.ContainsFunc(least, func(x api.Marking) bool { return atMost(x, before) }) {
				least = append(least, before)
			}
		}
	}
	return false, true
}

// effectsOf returns the effects of the transitions.
func effectsOf(n net.Net) [][]int {
	var out [][]int
	for t := range n.Pre {
		var list []int
		for p := range n.Start {
			list = append(list, n.Post[t][p]-n.Pre[t][p])
		}
		out = append(out, list)
	}
	return out
}

func flipped(a [][]int) [][]int {
	out := make([][]int, len(a[0]))
	for _, row := range a {
		for j, x := range row {
			out[j] = append(out[j], x)
		}
	}
	return out
}

// sums returns the sum of the rows, each times its number.
func sums(rows [][]int, numbers []int) []int {
	out := make([]int, len(rows[0]))
	for i, row := range rows {
		for j, x := range row {
			out[j] += numbers[i] * x
		}
	}
	return out
}

func isZero(list []int) bool {
	return !slices.ContainsFunc(list, func(x int) bool { return x != 0 })
}

// supportOf returns the set of the indices of numbers that are not zero.
func supportOf(numbers []int) int {
	set := 0
	for i, x := range numbers {
		if x != 0 {
			set |= 1 << i
		}
	}
	return set
}

// flowsOf returns the minimal combinations of rows that are zero: for each set
// of rows that contains no smaller one of a flow, the only relation of these
// rows, if there is just one and its numbers have one sign.
func flowsOf(rows [][]int) [][]int {
	var out [][]int
	for size := 1; size <= len(rows); size++ {
		for set := 1; set < 1<<len(rows); set++ {
			var at []int
			for i := range rows {
				if set>>i&1 == 1 {
					at = append(at, i)
				}
			}
			taken := slices.ContainsFunc(out, func(x []int) bool { return supportOf(x)&^set == 0 })
			if len(at) != size || taken {
				continue
			}
			if x := relation(rows, at); x != nil {
				out = append(out, x)
			}
		}
	}
	slices.SortFunc(out, slices.Compare)
	return out
}

// relation returns positive numbers, without a common divisor, for which the
// chosen rows sum to zero, if they are the only ones up to a factor.
func relation(rows [][]int, at []int) []int {
	columns := make([][]*big.Rat, len(rows[0]))
	for j := range columns {
		for _, i := range at {
			columns[j] = append(columns[j], big.NewRat(int64(rows[i][j]), 1))
		}
	}
	free := -1
	done := 0
	pivots := make([]int, len(at))
	for k := range at {
		j := done
		for j < len(columns) && columns[j][k].Sign() == 0 {
			j++
		}
		if j == len(columns) {
			if free >= 0 {
				return nil
			}
			free = k
			continue
		}
		columns[done], columns[j] = columns[j], columns[done]
		pivots[k] = done
		cleared(columns, done, k)
		done++
	}
	if free < 0 {
		return nil
	}
	list := make([]*big.Rat, len(at))
	for k := range at {
		list[k] = big.NewRat(1, 1)
		if k != free {
			list[k] = new(big.Rat).Neg(columns[pivots[k]][free])
		}
		if list[k].Sign() <= 0 {
			return nil
		}
	}
	return whole(list, at, len(rows))
}

// cleared makes the element at a row and column 1 and those in the other rows
// of the column 0.
func cleared(rows [][]*big.Rat, at, column int) {
	pivot := new(big.Rat).Set(rows[at][column])
	for k := range rows[at] {
		rows[at][k] = new(big.Rat).Quo(rows[at][k], pivot)
	}
	for i := range rows {
		factor := new(big.Rat).Set(rows[i][column])
		if i == at || factor.Sign() == 0 {
			continue
		}
		for k := range rows[i] {
			part := new(big.Rat).Mul(factor, rows[at][k])
			rows[i][k] = new(big.Rat).Sub(rows[i][k], part)
		}
	}
}

// whole returns the least whole multiple of fractions, as numbers at the given
// indices.
func whole(list []*big.Rat, at []int, n int) []int {
	all, common := big.NewInt(1), new(big.Int)
	for _, x := range list {
		all.Mul(all, x.Denom())
	}
	out := make([]int, n)
	var numbers []*big.Int
	for _, x := range list {
		y := new(big.Int).Div(new(big.Int).Mul(x.Num(), all), x.Denom())
		common.GCD(nil, nil, common, y)
		numbers = append(numbers, y)
	}
	for k, x := range numbers {
		out[at[k]] = int(x.Div(x, common).Int64())
	}
	return out
}

// touches reports whether a row has a number at a place of a set.
func touches(row []int, set int) bool { return supportOf(row)&set != 0 }

func isSiphon(n net.Net, set int) bool {
	for t := range n.Pre {
		if touches(n.Post[t], set) && !touches(n.Pre[t], set) {
			return false
		}
	}
	return true
}

func isTrap(n net.Net, set int) bool {
	for t := range n.Pre {
		if touches(n.Pre[t], set) && !touches(n.Post[t], set) {
			return false
		}
	}
	return true
}

// siphonsOf returns the least siphons that are not empty.
func siphonsOf(n net.Net) []int {
	var out []int
	for set := 1; set < 1<<len(n.Start); set++ {
		least := isSiphon(n, set)
		for part := 1; part < set; part++ {
			least = least && (part&^set != 0 || !isSiphon(n, part))
		}
		if least {
			out = append(out, set)
		}
	}
	return out
}

// trapOf returns the union of all traps within a set.
func trapOf(n net.Net, set int) int {
	union := 0
	for part := range 1 << len(n.Start) {
		if part&^set == 0 && isTrap(n, part) {
			union |= part
		}
	}
	return union
}

func isFreeChoice(n net.Net) bool {
	for p := range n.Start {
		taken := false
		for t := range n.Pre {
			taken = taken || n.Pre[t][p] > 0
			for u := range n.Pre {
				if n.Pre[t][p] > 0 && n.Pre[u][p] > 0 && !slices.Equal(n.Pre[t], n.Pre[u]) {
					return false
				}
			}
			if n.Pre[t][p] > 1 || n.Post[t][p] > 1 {
				return false
			}
		}
		if !taken {
			return false
		}
	}
	return true
}

// subject is a net, and its walk up to MaxNodes markings and one more.
type subject struct {
	net.Net
	walk
	whole bool // there are no other markings
}

// subjects returns nets of several kinds, and all small ones. They are only
// read.
var subjects = sync.OnceValue(func() []subject {
	var out []subject
	for _, n := range samples() {
		w, whole := walked(n, api.MaxNodes)
		out = append(out, subject{n, w, whole})
	}
	return out
})

func samples() []net.Net {
	out := []net.Net{ring, more, fewer, shared, stuck, tree2000, tree2001}
	for pre := range 4 {
		for post := range 4 {
			for start := range 6 {
				out = append(out, net.Net{Pre: [][]int{{pre}}, Post: [][]int{{post}}, Start: api.Marking{start}})
			}
		}
	}
	for code := range 1 << 10 {
		bit := func(k int) int { return code >> k & 1 }
		out = append(out, net.Net{
			Pre:   [][]int{{bit(0), bit(1)}, {bit(2), bit(3)}},
			Post:  [][]int{{bit(4), bit(5)}, {bit(6), bit(7)}},
			Start: api.Marking{bit(8), bit(9)},
		})
	}
	r := rand.New(rand.NewSource(1))
	for k := range 1750 {
		out = append(out, sample(r, k%7))
	}
	return out
}

// sample returns any net of a kind.
func sample(r *rand.Rand, kind int) net.Net {
	places, transitions := 1+r.Intn(api.MaxPlaces), 1+r.Intn(api.MaxTrans)
	if kind >= 5 {
		return freeNet(r, places, transitions, kind == 6)
	}
	n := empty(places, transitions)
	for t := range n.Pre {
		for p := range places {
			n.Pre[t][p] = arc(r, kind)
			n.Post[t][p] = arc(r, kind)
		}
	}
	for t := range n.Pre {
		if kind == 2 { // the tokens are only moved
			n.Post[t] = slices.Clone(n.Pre[t])
			r.Shuffle(places, func(i, j int) { n.Post[t][i], n.Post[t][j] = n.Post[t][j], n.Post[t][i] })
		}
		if kind == 3 { // no place behind the first one that loses tokens gains any
			first := slices.IndexFunc(n.Pre[t], func(x int) bool { return x > 0 })
			for p := max(first, 0); p < places; p++ {
				n.Post[t][p] = 0
			}
		}
	}
	most := []int{5, 1, 3, 5, 2}[kind]
	for p := range n.Start {
		n.Start[p] = r.Intn(most + 1)
	}
	return n
}

func arc(r *rand.Rand, kind int) int {
	if r.Intn(5) < 3 {
		return 0
	}
	if kind == 0 || kind == 3 {
		return r.Intn(4)
	}
	return 1
}

func empty(places, transitions int) net.Net {
	n := net.Net{Start: make(api.Marking, places)}
	for range transitions {
		n.Pre = append(n.Pre, make([]int, places))
		n.Post = append(n.Post, make([]int, places))
	}
	return n
}

// freeNet returns a net that is mostly free-choice: its transitions take from
// groups of places. If round is true, most of them lead round a ring.
func freeNet(r *rand.Rand, places, transitions int, round bool) net.Net {
	n := empty(places, transitions)
	for p := range places {
		group := r.Intn(transitions)
		if round || r.Intn(2) == 0 {
			group = p % transitions
		}
		n.Pre[group][p] = 1
		n.Start[p] = max(0, r.Intn(4)-1)
	}
	for t := range n.Pre {
		if isZero(n.Pre[t]) && r.Intn(8) > 0 {
			n.Pre[t] = slices.Clone(n.Pre[r.Intn(transitions)])
		}
		if round {
			for p, x := range n.Pre[t] {
				n.Post[t][(p+1)%places] = x
			}
		}
		if !round || r.Intn(4) == 0 {
			n.Post[t][r.Intn(places)] = 1
		}
	}
	return n
}
