package cycle_test

import (
	"math/rand"
	"slices"
	"strconv"
	"strings"
	"sync"

	"massecuite/api"
)

// What the tests hold the results against: the terms of the chapter, written
// down as they are defined, and matrices and delay graphs to try them on.

// row returns the numbers of a string, in which - is Never.
func row(text string) []int {
	var out []int
	for _, word := range strings.Fields(text) {
		x, err := strconv.Atoi(word)
		if word == "-" {
			x, err = api.Never, nil
		}
		if err != nil {
			panic(err)
		}
		out = append(out, x)
	}
	return out
}

// of returns the matrix with these rows, separated by strokes.
func of(text string) [][]int {
	var out [][]int
	for _, part := range strings.Split(text, "/") {
		out = append(out, row(part))
	}
	return out
}

// filled returns the matrix with n rows in which all elements are x.
func filled(n, x int) [][]int {
	a := make([][]int, n)
	for i := range a {
		a[i] = slices.Repeat([]int{x}, n)
	}
	return a
}

// steps returns the matrix with n rows and an arc for each two nodes of the
// text that follow each other, with the weights of the second text.
func steps(n int, nodes, weights string) [][]int {
	a, list := filled(n, api.Never), row(nodes)
	for k, x := range row(weights) {
		a[list[2*k]][list[2*k+1]] = x
	}
	return a
}

func clone(a [][]int) [][]int {
	out := make([][]int, len(a))
	for i := range a {
		out[i] = slices.Clone(a[i])
	}
	return out
}

func equal(a, b [][]int) bool { return slices.EqualFunc(a, b, slices.Equal[[]int]) }

var (
	swap   = of("- 3 / 1 -")   // example 1
	halves = of("2 5 / 0 1")   // example 2
	calm   = of("-1 2 / -3 0") // example 3
	turn3  = steps(3, "0 1 1 2 2 0", "1 2 4")
	apart  = of("5 - / - 7") // cycles, but not connected
	uphill = of("- 1 2 / - - 3 / - - -")
	lonely = of("1 2 - / 3 4 - / - 1 -") // all but node 2 are connected
	source = of("1 2 - / 3 4 - / 1 1 -") // node 2 is not reached

	// Critical cycles of 2 and 3 nodes, joined by arcs that are not critical.
	coprime = steps(5, "0 1 1 0 2 3 3 4 4 2 1 2 4 0", "3 3 2 3 4 -9 -9")
	// Critical cycles of 1, 2 and 3 nodes.
	three = steps(6, "0 0 1 2 2 1 3 4 4 5 5 3 0 1 2 3 5 0", "1 0 2 0 1 2 -5 -6 -7")
	// One class with critical cycles of 2 and 4 nodes, one of 3 and 2 nodes.
	even  = steps(4, "0 1 1 0 1 2 2 3 3 0", "0 0 0 0 0")
	mixed = steps(4, "0 1 1 0 1 2 2 0 0 3 3 0", "5 5 5 5 5 -1")
)

// slow returns a matrix in which, for long, going around at the last node is
// better than going from it to the critical cycle of n nodes and back, with the
// weight back.
func slow(n, back int) [][]int {
	a := filled(n+1, api.Never)
	for i := range n {
		a[i][(i+1)%n] = 0
	}
	a[0][n], a[n][0], a[n][n] = back, -1000, -5
	return a
}

// listed are the matrices above and other particular ones.
func listed() [][][]int {
	out := [][][]int{swap, halves, calm, turn3, apart, uphill, lonely, source, coprime, three, even, mixed,
		slow(1, -995), slow(1, -996), slow(1, -1000), slow(1, 1000),
		slow(2, -990), slow(2, -991), slow(3, -975), slow(3, -976), slow(4, -971), slow(5, -961)}
	for n := 1; n <= 6; n++ {
		for _, x := range []int{api.Never, -1000, -1, 0, 1, 1000} {
			out = append(out, filled(n, x))
		}
	}
	return out
}

// every returns all matrices of one or two rows with elements of the list.
func every(list []int) [][][]int {
	var out [][][]int
	for _, a := range list {
		out = append(out, [][]int{{a}})
		for _, b := range list {
			for _, c := range list {
				for _, d := range list {
					out = append(out, [][]int{{a, b}, {c, d}})
				}
			}
		}
	}
	return out
}

// random returns a matrix with n rows in which an element is a number in so many
// of 10 cases, from low on.
func random(r *rand.Rand, n, often, low, width int) [][]int {
	a := filled(n, api.Never)
	for i := range a {
		for j := range a {
			if r.Intn(10) < often {
				a[i][j] = low + r.Intn(width)
			}
		}
	}
	return a
}

// ring returns a matrix with n rows that has a cycle through all nodes, in an
// order by chance, and some more arcs.
func ring(r *rand.Rand, n, often, low, width int) [][]int {
	a := random(r, n, often, low, width)
	order := r.Perm(n)
	for k, i := range order {
		a[i][order[(k+1)%n]] = low + r.Intn(width)
	}
	return a
}

// samples are small matrices: the listed ones, all small ones of few numbers,
// and many by chance.
var samples = sync.OnceValue(func() [][][]int {
	out := append(listed(), every([]int{api.Never, -1, 0, 2})...)
	r := rand.New(rand.NewSource(4))
	for k := range 1400 {
		n := 1 + r.Intn(6)
		often := 1 + r.Intn(10)
		low := []int{-1000, -2, 0, -1, -5, -1, 990}[k%7]
		width := []int{2001, 3, 2, 2, 6, 1, 11}[k%7]
		if k%2 == 0 {
			out = append(out, random(r, n, often, low, width))
		} else {
			out = append(out, ring(r, n, often/3, low, width))
		}
	}
	return out
})

// joinedSamples are the connected samples.
var joinedSamples = sync.OnceValue(func() [][][]int {
	var out [][][]int
	for _, a := range samples() {
		if isConnected(a) {
			out = append(out, a)
		}
	}
	return out
})

// times is the product of two matrices as it is defined.
func times(a, b [][]int) [][]int {
	out := filled(len(a), api.Never)
	for i := range a {
		for j := range a {
			for k := range a {
				if a[i][k] != api.Never && b[k][j] != api.Never {
					out[i][j] = max(out[i][j], a[i][k]+b[k][j])
				}
			}
		}
	}
	return out
}

func unit(n int) [][]int {
	a := filled(n, api.Never)
	for i := range a {
		a[i][i] = 0
	}
	return a
}

// powers returns the powers 0 to k.
func powers(a [][]int, k int) [][][]int {
	out := [][][]int{unit(len(a))}
	for i := range k {
		out = append(out, times(out[i], a))
	}
	return out
}

// loop is a cycle and its weight.
type loop struct {
	nodes  []int
	weight int
}

// loops returns all cycles, each with its least node first, in order.
func loops(a [][]int) []loop {
	var out []loop
	var walk func(nodes []int, weight int)
	walk = func(nodes []int, weight int) {
		first, last := nodes[0], nodes[len(nodes)-1]
		if a[last][first] != api.Never {
			out = append(out, loop{slices.Clone(nodes), weight + a[last][first]})
		}
		for j := first + 1; j < len(a); j++ {
			if a[last][j] != api.Never && !slices.Contains(nodes, j) {
				walk(append(slices.Clone(nodes), j), weight+a[last][j])
			}
		}
	}
	for i := range a {
		walk([]int{i}, 0)
	}
	slices.SortStableFunc(out, func(x, y loop) int {
		if len(x.nodes) != len(y.nodes) {
			return len(x.nodes) - len(y.nodes)
		}
		return slices.Compare(x.nodes, y.nodes)
	})
	return out
}

func gcd(a, b int) int {
	for b != 0 {
		a, b = b, a%b
	}
	return max(a, -a)
}

// measure returns the greatest mean in lowest terms and the critical cycles, in
// order; none if there is no cycle.
func measure(a [][]int) (num, den int, critical []loop) {
	all := loops(a)
	for _, x := range all {
		if den == 0 || x.weight*den > num*len(x.nodes) {
			num, den = x.weight, len(x.nodes)
		}
	}
	for _, x := range all {
		if x.weight*den == num*len(x.nodes) {
			critical = append(critical, x)
		}
	}
	if d := gcd(num, den); d > 0 {
		num, den = num/d, den/d
	}
	return num, den, critical
}

// best returns the greatest sum of den·weight - num over the ways from each node
// to each, by trying all ways that meet no node twice; where no cycle has a sum
// above 0, no other way has more.
func best(a [][]int, num, den int) [][]int {
	out := filled(len(a), api.Never)
	var walk func(from, at, met, sum int)
	walk = func(from, at, met, sum int) {
		out[from][at] = max(out[from][at], sum)
		for j, x := range a[at] {
			if x != api.Never && met>>j&1 == 0 {
				walk(from, j, met|1<<j, sum+den*x-num)
			}
		}
	}
	for i := range a {
		walk(i, i, 1<<i, 0)
	}
	return out
}

// isConnected reports whether a is connected.
func isConnected(a [][]int) bool {
	for _, line := range best(a, 0, 0) {
		if slices.Contains(line, api.Never) {
			return false
		}
	}
	return len(loops(a)) > 0
}

// cyclicity returns the cyclicity by the classes of the critical nodes.
func cyclicity(a [][]int) int {
	_, _, critical := measure(a)
	arcs := filled(len(a), api.Never)
	for _, x := range critical {
		for k, i := range x.nodes {
			arcs[i][x.nodes[(k+1)%len(x.nodes)]] = 0
		}
	}
	reach := best(arcs, 0, 0)
	out := 1
	for i := range a {
		d := 0
		for _, x := range critical {
			if reach[i][x.nodes[0]] == 0 && reach[x.nodes[0]][i] == 0 {
				d = gcd(d, len(x.nodes))
			}
		}
		if d > 0 {
			out = out / gcd(out, d) * d
		}
	}
	return out
}

// repeats reports whether one power is another one with num/den for each of the
// arcs that it has more, which must be a whole number.
func repeats(late, early [][]int, more, num, den int) bool {
	if more*num%den != 0 {
		return false
	}
	for i := range late {
		for j, x := range early[i] {
			if x != api.Never {
				x += more * num / den
			}
			if late[i][j] != x {
				return false
			}
		}
	}
	return true
}

// period returns the least index and the least period by trying all; false if
// their sum is above 400.
func period(a [][]int) (int, int, bool) {
	num, den, _ := measure(a)
	list := powers(a, 400)
	for index := 1; index < 400; index++ {
		for p := 1; index+p <= 400; p++ {
			if repeats(list[index+p], list[index], p, num, den) {
				return index, p, true
			}
		}
	}
	return 0, 0, false
}

// turns returns weight and delay of all cycles of a delay graph.
func turns(arcs [][4]int) [][2]int {
	var out [][2]int
	var walk func(first, at, met, weight, delay int)
	walk = func(first, at, met, weight, delay int) {
		for _, arc := range arcs {
			if arc[0] != at {
				continue
			}
			w, d := weight+arc[2], delay+arc[3]
			if arc[1] == first {
				out = append(out, [2]int{w, d})
			} else if arc[1] > first && met>>arc[1]&1 == 0 {
				walk(first, arc[1], met|1<<arc[1], w, d)
			}
		}
	}
	for i := range 12 {
		walk(i, i, 1<<i, 0, 0)
	}
	return out
}

// ratio returns the greatest ratio of a cycle, by trying all.
func ratio(arcs [][4]int) (num, den int, e api.Errno) {
	all := turns(arcs)
	if len(all) == 0 {
		return 0, 0, api.ErrNone
	}
	for _, x := range all {
		if x[1] == 0 {
			return 0, 0, api.ErrLoop
		}
		if den == 0 || x[0]*den > num*x[1] {
			num, den = x[0], x[1]
		}
	}
	d := gcd(num, den)
	return num / d, den / d, api.OK
}

// graph returns the delay graph of a text: from, to, weight, delay, separated by
// strokes.
func graph(text string) [][4]int {
	var out [][4]int
	for _, part := range strings.Split(text, "/") {
		out = append(out, [4]int(row(part)))
	}
	return out
}

// delayed returns a delay graph by chance.
func delayed(r *rand.Rand, nodes, arcs, weight, delay int) [][4]int {
	var out [][4]int
	for range arcs {
		out = append(out, [4]int{r.Intn(nodes), r.Intn(nodes), r.Intn(2*weight+1) - weight, r.Intn(delay + 1)})
	}
	return out
}
