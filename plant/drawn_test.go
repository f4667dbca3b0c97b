package plant_test

import (
	"fmt"
	"math/rand"
	"slices"
	"strings"
	"testing"

	"massecuite/api"
	"massecuite/net"
	"massecuite/plant"
	"massecuite/scan"
)

// Factories, lines and disks to try the package on.

// example is the factory of example 1.
var example = factory{
	Net:     net.Net{Pre: [][]int{{1, 0}}, Post: [][]int{{0, 1}}, Start: api.Marking{0, 0}},
	Program: program{Inputs: []string{"go"}, Outputs: []string{"go"}, Lines: []line{{Name: "q", Init: 0, Expr: "go"}}},
}

// drawnRow returns a row with numbers from 0 to 3, mostly small ones.
func drawnRow(r *rand.Rand, places int) []int {
	row := make([]int, places)
	for p := range row {
		row[p] = max(0, r.Intn(7)-3)
	}
	return row
}

func drawnNet(r *rand.Rand) net.Net {
	var n net.Net
	places := 1 + r.Intn(api.MaxPlaces)
	for range 1 + r.Intn(api.MaxTrans) {
		n.Pre, n.Post = append(n.Pre, drawnRow(r, places)), append(n.Post, drawnRow(r, places))
	}
	for range places {
		n.Start = append(n.Start, r.Intn(6)*r.Intn(2))
	}
	return n
}

// drawnExpr returns an expression with at most this many tokens, and these names.
func drawnExpr(r *rand.Rand, most int, names []string) string {
	if most < 4 || r.Intn(4) == 0 {
		return append(slices.Clone(names), "true", "false")[r.Intn(len(names)+2)]
	}
	word := []string{"not", "and", "or", "xor", "xor", "if"}[r.Intn(6)]
	n := map[string]int{"not": 1, "if": 3}[word]
	if n == 0 {
		n = 2
	}
	for range n {
		word += " " + drawnExpr(r, (most-1)/n, names)
	}
	return word
}

// drawnProgram returns a program that is causal: wires need only those that were
// made before them, in an order that is not that of the Lines.
func drawnProgram(r *rand.Rand) program {
	names := []string{"go", "x", "stop", "a", "b", "ccc", "pump", "grower", "tick", "z", "abcdefgh", "kettle"}
	r.Shuffle(len(names), func(i, j int) { names[i], names[j] = names[j], names[i] })
	inputs, lines := r.Intn(4), 1+r.Intn(8)
	p := program{Inputs: names[:inputs]}
	known := slices.Clone(p.Inputs)
	registers := r.Intn(min(4, lines) + 1)
	for _, name := range names[inputs : inputs+registers] {
		known = append(known, name)
		p.Lines = append(p.Lines, line{Name: name, Init: r.Intn(2)})
	}
	for _, name := range names[inputs+registers : inputs+lines] {
		p.Lines = append(p.Lines, line{Name: name, Init: -1, Expr: drawnExpr(r, 20, known)})
		known = append(known, name)
	}
	for k := range p.Lines[:registers] {
		p.Lines[k].Expr = drawnExpr(r, 20, known)
	}
	r.Shuffle(lines, func(i, j int) { p.Lines[i], p.Lines[j] = p.Lines[j], p.Lines[i] })
	for range 1 + r.Intn(3) {
		p.Outputs = append(p.Outputs, known[r.Intn(len(known))])
	}
	return p
}

func drawnFactory(r *rand.Rand) factory { return factory{drawnNet(r), drawnProgram(r)} }

// growers are names of growers.
var growers = []string{"ann", "bob", "a", "b", "zoe", "abcdefgh", "an", "anna"}

// drawnNumber returns a number of a line, mostly a small one.
func drawnNumber(r *rand.Rand) int {
	return []int{0, 1, 1, 2, 3, 4, 5, 7, r.Intn(100), r.Intn(1000000), 999999}[r.Intn(11)]
}

// drawnChange returns a line that is a change.
func drawnChange(r *rand.Rand) string {
	name := growers[r.Intn(len(growers))]
	switch r.Intn(12) {
	case 0, 1:
		return "grower " + name
	case 2, 3, 4:
		return fmt.Sprint("deliver ", name, " ", drawnNumber(r))
	case 5, 6, 7:
		return fmt.Sprint("tick ", r.Intn(9))
	case 8, 9:
		return fmt.Sprint("ship ", drawnNumber(r))
	}
	return fmt.Sprint("pay ", drawnNumber(r))
}

// drawnQuestion returns a line that is a question, for can most of the time one
// with a number for each place.
func drawnQuestion(r *rand.Rand, places int) string {
	name := growers[r.Intn(len(growers))]
	switch r.Intn(7) {
	case 0:
		return "marking"
	case 1:
		return "registers"
	case 2:
		return "growers"
	case 3:
		return "owed " + name
	case 4:
		return "paid " + name
	}
	s := "can"
	for range places + max(0, r.Intn(10)-8) {
		s += fmt.Sprint(" ", drawnNumber(r))
	}
	return s
}

// spoiled returns s with a small change, so that it may be no line, or another one.
func spoiled(r *rand.Rand, s string) string {
	at := r.Intn(len(s) + 1)
	extra := []string{" ", "  ", "0", "1", "a", "A", "x y", "-", "+", "\n", "\x1f", "\x7f", "~", "00", "é", "", "_", strings.Repeat("1", 7)}
	x := extra[r.Intn(len(extra))]
	if r.Intn(3) == 0 {
		return s[:at] + x
	}
	return s[:at] + x + s[min(len(s), at+r.Intn(3)):]
}

// made returns three disks with room for so many bytes.
func made(t testing.TB, sizes ...int) [3]*disk {
	t.Helper()
	var d [3]*disk
	for k := range d {
		x, e := plant.NewDisk(sizes[k%len(sizes)])
		if e != api.OK {
			t.Fatal(e)
		}
		d[k] = x
	}
	return d
}

// loaded returns three disks that contain these bytes, all safe.
func loaded(t testing.TB, contents ...string) [3]*disk {
	t.Helper()
	d := made(t, 10000)
	for k, s := range contents {
		if e := d[k].Append([]byte(s)); e != api.OK {
			t.Fatal(e)
		}
		d[k].Sync()
	}
	return d
}

// mustOpen returns a plant.
func mustOpen(t testing.TB, d [3]*disk, f factory, epoch int) *plant.Plant {
	t.Helper()
	p, e := plant.Open(d, f, epoch)
	if e != api.OK {
		t.Fatal(e, f)
	}
	return p
}

// mustDo makes changes that have to succeed.
func mustDo(t testing.TB, p *plant.Plant, lines ...string) {
	t.Helper()
	for _, s := range lines {
		if _, e := p.Do(s); e != api.OK {
			t.Fatal(s, e)
		}
	}
}

// held returns the bytes of a disk whose power is on.
func held(t testing.TB, d *disk) string {
	t.Helper()
	b, e := d.Read()
	if e != api.OK {
		t.Fatal(e)
	}
	return string(b)
}

// step is a line, and what comes of it.
type step struct {
	line, reply string
	e           api.Errno
}

// takes makes changes, and compares what they return.
func takes(t testing.TB, p *plant.Plant, steps ...step) {
	t.Helper()
	for _, x := range steps {
		if s, e := p.Do(x.line); s != x.reply || e != x.e {
			t.Errorf("Do %q: %q %v, not %q %v", x.line, s, e, x.reply, x.e)
		}
	}
}

// says asks questions, and compares what they return.
func says(t testing.TB, p *plant.Plant, steps ...step) {
	t.Helper()
	for _, x := range steps {
		if s, e := p.Ask(x.line); s != x.reply || e != x.e {
			t.Errorf("Ask %q: %q %v, not %q %v", x.line, s, e, x.reply, x.e)
		}
	}
}

// response returns the output letters of scans.
func response(t testing.TB, p program, word []int) []int {
	t.Helper()
	out, e := scan.Scan(p, word)
	if e != api.OK {
		t.Fatal(e, p)
	}
	return out
}
