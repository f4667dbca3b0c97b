package plant_test

import (
	"fmt"
	"math/rand"
	"slices"
	"strconv"
	"strings"
	"testing"

	"massecuite/api"
	"massecuite/net"
	"massecuite/plant"
)

// tokens returns the marking of a plant.
func tokens(t testing.TB, p *plant.Plant) []int {
	t.Helper()
	s, e := p.Ask("marking")
	words := strings.Fields(s)
	if e != api.OK || words[0] != "marking" {
		t.Fatal(s, e)
	}
	var out []int
	for _, word := range words[1:] {
		n, err := strconv.Atoi(word)
		if err != nil {
			t.Fatal(s)
		}
		out = append(out, n)
	}
	return out
}

// asked returns the number that is the reply to a question.
func asked(t testing.TB, p *plant.Plant, question string) int {
	t.Helper()
	s, e := p.Ask(question)
	words := strings.Fields(s)
	if e != api.OK || len(words) != 2 {
		t.Fatal(question, s, e)
	}
	n, _ := strconv.Atoi(words[1])
	return n
}

// P10.7: State is that of executing the Log on a new plant, with or without lines
// that had errors in between, and also when the plant is opened again.
func TestReplay(t *testing.T) {
	r := rand.New(rand.NewSource(6))
	for range 300 {
		f := drawnFactory(r)
		d := made(t, 100000)
		p := mustOpen(t, d, f, 1)
		for k := range 60 {
			p.Do(drawnChange(r))
			if k%20 == 19 {
				p = mustOpen(t, d, f, k)
			}
		}
		q := fresh(t, f)
		for _, s := range p.Log() {
			q.Do(s)
		}
		again := mustOpen(t, d, f, 100)
		if q.State() != p.State() || again.State() != p.State() || !slices.Equal(again.Log(), p.Log()) {
			t.Fatalf("%v: %q: %q, %q, %q", f, p.Log(), p.State(), q.State(), again.State())
		}
	}
}

// P10.8: sums of place flows change by deliver and ship alone, and by what these
// put and take; loads owed are those delivered since the last pay; money paid is
// the sum of all cents.
func TestConservation(t *testing.T) {
	r := rand.New(rand.NewSource(7))
	tested := 0
	for range 400 {
		f := drawnFactory(r)
		flows, e := net.PlaceFlows(f.Net)
		if e != api.OK {
			t.Fatal(e)
		}
		p := fresh(t, f)
		cents := 0
		owed := map[string]int{}
		for range 60 {
			s := drawnChange(r)
			before := tokens(t, p)
			_, e := p.Do(s)
			after := tokens(t, p)
			words := strings.Fields(s)
			n, _ := strconv.Atoi(words[len(words)-1])
			in, out := 0, 0
			switch {
			case e != api.OK:
			case words[0] == "deliver":
				in = n
				owed[words[1]] += n
			case words[0] == "ship":
				out = n
			case words[0] == "pay":
				cents += n
				clear(owed)
			}
			for _, flow := range flows {
				want := flow[0]*in - flow[len(flow)-1]*out
				for k := range flow {
					want -= flow[k] * (after[k] - before[k])
				}
				if want != 0 {
					t.Fatal(f, s, before, after, flow)
				}
				tested++
			}
			paid := 0
			names, _ := p.Ask("growers")
			for _, name := range strings.Fields(names)[1:] {
				paid += asked(t, p, "paid "+name)
				if asked(t, p, "owed "+name) != owed[name] {
					t.Fatal(f, s, name, owed)
				}
			}
			if paid != cents {
				t.Fatal(f, s, paid, cents)
			}
		}
	}
	if tested < 1000 {
		t.Error(tested)
	}
}

// P10.10: the output letters of all ticks are those of scan.Scan, also over plants
// that follow each other, with ticks in between that were not done.
func TestController(t *testing.T) {
	r := rand.New(rand.NewSource(8))
	for range 150 {
		f := drawnFactory(r)
		d := made(t, 100000)
		p := mustOpen(t, d, f, 1)
		mustDo(t, p, "grower ann")
		var word, out []int
		for k := range 100 {
			i := r.Intn(1 << len(f.Program.Inputs))
			s, e := p.Do(fmt.Sprint("tick ", i))
			if e == api.OK {
				letter, _ := strconv.Atoi(strings.Fields(s)[1])
				word, out = append(word, i), append(out, letter)
			} else if e != api.ErrFull {
				t.Fatal(s, e)
			}
			switch r.Intn(8) {
			case 0:
				p.Do("grower ann")
			case 1:
				p.Do("deliver ann 500000")
			case 2:
				p.Do(fmt.Sprint("ship ", r.Intn(1000)))
			case 3:
				p.Do(fmt.Sprint("tick ", 1<<len(f.Program.Inputs)))
			case 4:
				p = mustOpen(t, d, f, k+2)
			}
		}
		if want := response(t, f.Program, word); !slices.Equal(out, want) {
			t.Fatal(f, word, out, want)
		}
	}
}

// reached returns the markings that sequences of at most so many firings lead to.
func reached(n net.Net, m []int, firings int) [][]int {
	out := [][]int{m}
	seen := map[string]bool{fmt.Sprint(m): true}
	from := 0
	for range firings {
		end := len(out)
		for _, at := range out[from:end] {
			for t := range n.Pre {
				if !covers(at, n.Pre[t]) {
					continue
				}
				next := slices.Clone(at)
				for p := range next {
					next[p] += n.Post[t][p] - n.Pre[t][p]
				}
				if s := fmt.Sprint(next); !seen[s] && len(out) < 1500 {
					seen[s] = true
					out = append(out, next)
				}
			}
		}
		from = end
	}
	return out
}

// P10.11: if can is no, ticks lead to no marking with these tokens. What firings
// alone lead to, ticks or not, has can yes, with fewer tokens, too.
func TestCanNo(t *testing.T) {
	r := rand.New(rand.NewSource(9))
	said := map[string]int{}
	for range 400 {
		f := drawnFactory(r)
		p := fresh(t, f)
		for range r.Intn(4) {
			p.Do(drawnChange(r))
		}
		start := tokens(t, p)
		if slices.Max(start) > 5 {
			continue
		}
		var no [][]int
		for range 8 {
			s := "can"
			m := make([]int, len(start))
			for k := range m {
				m[k] = max(0, start[k]+r.Intn(6)-3)
				s += fmt.Sprint(" ", m[k])
			}
			reply, e := p.Ask(s)
			if said[reply]++; e == api.OK && reply == "can no" {
				no = append(no, m)
			}
		}
		all := reached(f.Net, start, 8)
		for _, m := range all[max(0, len(all)-40):] {
			s := "can"
			for _, n := range m {
				s += fmt.Sprint(" ", n)
			}
			if reply, e := p.Ask(s); e != api.ErrSize && reply != "can yes" {
				t.Fatal(f, start, m, reply, e)
			}
		}
		for range 30 {
			p.Do(fmt.Sprint("tick ", r.Intn(1<<len(f.Program.Inputs))))
			if r.Intn(10) == 0 {
				p.Do("ship 1")
			}
			now := tokens(t, p)
			if slices.ContainsFunc(no, func(m []int) bool { return covers(now, m) }) {
				t.Fatal(f, start, now, no)
			}
		}
	}
	if said["can yes"] < 100 || said["can no"] < 100 || said[""] < 10 {
		t.Error(said)
	}
}
