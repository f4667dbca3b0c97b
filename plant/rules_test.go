package plant_test

import (
	"fmt"
	"math"
	"math/rand"
	"reflect"
	"slices"
	"strings"
	"testing"

	"massecuite/api"
	"massecuite/net"
	"massecuite/plant"
)

// P10.3, P10.4, rule 6: a nil plant, one that Open did not make, and the copy of
// one: ErrNil before all other errors, else zero values, and no effect.
func TestNoPlants(t *testing.T) {
	d := made(t, 1000)
	p := mustOpen(t, d, example, 1)
	mustDo(t, p, "grower ann")
	same := *p
	bytes, before := held(t, d[0]), p.State()
	for k, q := range []*plant.Plant{nil, {}, new(plant.Plant), &same} {
		for _, s := range []string{"grower bob", "grower ann", "marking", "", "x", "tick 9", strings.Repeat("x", 1000)} {
			if reply, e := q.Do(s); reply != "" || e != api.ErrNil {
				t.Error(k, s, reply, e)
			}
			if reply, e := q.Ask(s); reply != "" || e != api.ErrNil {
				t.Error(k, s, reply, e)
			}
		}
		if q.Log() != nil || q.State() != "" {
			t.Error(k, q.Log(), q.State())
		}
	}
	if held(t, d[0]) != bytes || p.State() != before {
		t.Error(held(t, d[0]), p.State())
	}
	mustDo(t, p, "grower bob")
}

// P10.4: Log and State of a new plant.
func TestNewPlant(t *testing.T) {
	p := fresh(t, example)
	if len(p.Log()) != 0 || p.State() != "marking 0 0\nregisters 0\ngrowers\n" {
		t.Error(p.Log(), p.State())
	}
	f := example
	f.Net.Start = api.Marking{5, 0}
	f.Program = program{Inputs: []string{"x"}, Outputs: []string{"x", "b"}, Lines: []line{{Name: "d", Init: 1, Expr: "x"}, {Name: "w", Init: -1, Expr: "a"}, {Name: "a", Init: 0, Expr: "d"}, {Name: "c", Init: 1, Expr: "a"}, {Name: "b", Init: 0, Expr: "not c"}}}
	p = fresh(t, f)
	if want := "marking 5 0\nregisters 1 0 1 0\ngrowers\n"; p.State() != want {
		t.Error(p.State())
	}
	mustDo(t, p, "tick 0", "grower zoe", "grower ann")
	if want := "marking 5 0\nregisters 0 1 0 0\ngrowers ann zoe\nowed 0\npaid 0\nowed 0\npaid 0\n"; p.State() != want {
		t.Error(p.State())
	}
	mustDo(t, p, "tick 1", "deliver ann 3", "pay 7", "deliver zoe 2")
	if want := "marking 9 1\nregisters 1 0 1 1\ngrowers ann zoe\nowed 0\npaid 7\nowed 2\npaid 0\n"; p.State() != want {
		t.Error(p.State())
	}
}

// copied returns a factory that shares no memory with f.
func copied(f factory) factory {
	g := f
	g.Net = net.Net{Start: slices.Clone(f.Net.Start)}
	for t := range f.Net.Pre {
		g.Net.Pre, g.Net.Post = append(g.Net.Pre, slices.Clone(f.Net.Pre[t])), append(g.Net.Post, slices.Clone(f.Net.Post[t]))
	}
	g.Program = program{Inputs: slices.Clone(f.Program.Inputs), Outputs: slices.Clone(f.Program.Outputs), Lines: slices.Clone(f.Program.Lines)}
	return g
}

// spoil changes all that a factory shares.
func spoil(f factory) {
	for t := range f.Net.Pre {
		for p := range f.Net.Pre[t] {
			f.Net.Pre[t][p], f.Net.Post[t][p] = 77, -5
		}
		f.Net.Pre[t], f.Net.Post[t] = nil, nil
	}
	for p := range f.Net.Start {
		f.Net.Start[p] = 1000
	}
	clear(f.Program.Inputs)
	clear(f.Program.Outputs)
	clear(f.Program.Lines)
}

// Rules 2 and 4: the same calls give the same results; no argument is changed or
// kept, and nothing that a plant gives away is its own.
func TestSameResults(t *testing.T) {
	r := rand.New(rand.NewSource(10))
	for range 200 {
		f := drawnFactory(r)
		g, h := copied(f), copied(f)
		d, c := made(t, 5000), made(t, 5000)
		p, q := mustOpen(t, d, f, 1), mustOpen(t, c, g, 1)
		if !reflect.DeepEqual(f, h) || !reflect.DeepEqual(g, h) {
			t.Fatal(f, g, h)
		}
		spoil(f)
		for range 40 {
			s := drawnChange(r)
			x, e := p.Do(s)
			if y, errno := q.Do(s); x != y || e != errno {
				t.Fatalf("%v: %q: %q %v, %q %v", h, s, x, e, y, errno)
			}
			s = drawnQuestion(r, len(h.Net.Start))
			x, e = p.Ask(s)
			if y, errno := q.Ask(s); x != y || e != errno {
				t.Fatalf("%v: %q: %q %v, %q %v", h, s, x, e, y, errno)
			}
			log := p.Log()
			for k := range log[:cap(log)] {
				log[:cap(log)][k] = "spoiled"
			}
			_ = append(log, "grower spoiled")
			if !slices.Equal(p.Log(), q.Log()) || p.State() != q.State() {
				t.Fatal(p.Log(), q.Log(), p.State(), q.State())
			}
		}
		if !reflect.DeepEqual(g, h) {
			t.Fatal(g, h)
		}
		for k := range d {
			if held(t, d[k]) != held(t, c[k]) {
				t.Fatal(held(t, d[k]), held(t, c[k]))
			}
		}
		if p, q = mustOpen(t, d, h, 2), mustOpen(t, c, g, 2); !slices.Equal(p.Log(), q.Log()) || p.State() != q.State() {
			t.Fatal(p.State(), q.State())
		}
	}
}

// Rule 4: Share changes and keeps no argument; nil slices are empty ones.
func TestShareMemory(t *testing.T) {
	loads := []int{3, 0, 2, 2, 9}
	same := slices.Clone(loads)
	a, _ := plant.Share(17, loads)
	b, _ := plant.Share(17, loads[:5:5])
	if !slices.Equal(loads, same) || !slices.Equal(a, b) {
		t.Error(loads, a, b)
	}
	clear(a[:cap(a)])
	if !slices.Equal(loads, same) || slices.Equal(a, b) {
		t.Error(loads, a, b)
	}
	f := example
	f.Program.Inputs, f.Program.Lines = []string{}, []line{{Name: "q", Init: 1, Expr: "not q"}}
	f.Program.Outputs = []string{"q"}
	p := fresh(t, f)
	f.Program.Inputs = nil
	q := fresh(t, f)
	takes(t, p, step{"tick 0", "tick 1 0", ok}, step{"tick 0", "tick 0 0", ok})
	takes(t, q, step{"tick 0", "tick 1 0", ok}, step{"tick 0", "tick 0 0", ok})
}

// Rule 1: functions return for arguments of any size; rule 3: with an error all
// else is zero.
func TestAnyArguments(t *testing.T) {
	p := fresh(t, example)
	huge := strings.Repeat("tick 1 ", 1e6)
	for _, s := range []string{huge, huge[:len(huge)-1], strings.Repeat(" ", 1e6), strings.Repeat("1", 1e6), "can " + strings.Repeat("1 ", 1e6) + "1", strings.Repeat("\x00", 1e6)} {
		takes(t, p, step{s, "", form})
		says(t, p, step{s, "", form})
	}
	for _, n := range []int{math.MinInt, -1, 0, math.MaxInt} {
		d, _ := plant.NewDisk(1000000)
		d.Append([]byte("ab"))
		d.Crash(n)
		d.Fuse(n)
		if e := d.Cut(n); e != api.ErrArg && n != 0 {
			t.Error(n, e)
		}
	}
	deep := make([][]int, 1e6)
	if q, e := plant.Open(made(t, 10), factory{net.Net{Pre: deep, Post: deep, Start: make(api.Marking, 1e6)}, example.Program}, 1); q != nil || e != api.ErrArg {
		t.Error(e)
	}
	if q, e := plant.Open(made(t, 10), factory{example.Net, program{Inputs: make([]string, 1e6), Outputs: make([]string, 1e6), Lines: make([]line, 1e6)}}, 1); q != nil || e != api.ErrArg {
		t.Error(e)
	}
}

// P10.2, rule 1: disks of 1,000,000 bytes that are full of records or of anything
// else.
func TestFullDisks(t *testing.T) {
	var records, marks strings.Builder
	n := 0
	for records.Len() < 999900 {
		n++
		fmt.Fprintf(&records, "1 %d tick %d\n", n, n%2)
	}
	for k := 1; marks.Len() < 999900; k++ {
		fmt.Fprintf(&marks, "1 %d \n", k)
	}
	for _, contents := range [][3]string{{records.String(), marks.String(), ""}, {records.String(), records.String()[:500000], records.String()[:100]}, {strings.Repeat("1", 1000000), strings.Repeat("\n", 1000000), strings.Repeat("1 1 ", 250000)}} {
		d := made(t, 1000000)
		for k, s := range contents {
			if e := d[k].Append([]byte(s)); e != ok {
				t.Fatal(e)
			}
		}
		p := mustOpen(t, d, example, 1000000)
		if held(t, d[0]) != held(t, d[1]) || held(t, d[0]) != held(t, d[2]) {
			t.Error(len(held(t, d[0])), len(held(t, d[1])), len(held(t, d[2])))
		}
		if contents[1] == records.String()[:500000] && (len(p.Log()) != n || p.State() != fmt.Sprintf("marking 0 0\nregisters %d\ngrowers\n", n%2)) {
			t.Error(len(p.Log()), p.State())
		}
		if contents[1] == marks.String() && len(p.Log()) != 0 {
			t.Error(len(p.Log()))
		}
	}
}
