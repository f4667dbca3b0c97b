package plant_test

import (
	"fmt"
	"math"
	"math/rand"
	"slices"
	"strings"
	"testing"

	"massecuite/api"
	"massecuite/net"
	"massecuite/plant"
)

// noFactories returns what are no factories: a net or a program that is none, a
// program that is not causal, or has no output.
func noFactories() []factory {
	out := []factory{{}, {Net: example.Net}, {Program: example.Program}}
	for _, n := range []net.Net{
		{Pre: [][]int{{1, 0}}, Post: [][]int{{0, 1}}, Start: api.Marking{0}},
		{Pre: [][]int{{1, 0}}, Post: [][]int{{0, 4}}, Start: api.Marking{0, 0}},
		{Pre: [][]int{{1, 0}}, Post: [][]int{{0, 1}}, Start: api.Marking{0, 6}},
		{Pre: [][]int{{1, 0}}, Start: api.Marking{0, 0}},
		{Start: api.Marking{0, 0}},
	} {
		out = append(out, factory{n, example.Program})
	}
	q := line{Name: "q", Init: 0, Expr: "q"}
	for _, p := range []program{
		{Outputs: []string{"a"}, Lines: []line{{Name: "a", Init: -1, Expr: "a"}}},
		{Outputs: []string{"q"}, Lines: []line{q, {Name: "a", Init: -1, Expr: "b"}, {Name: "b", Init: -1, Expr: "not a"}}},
		{Lines: []line{q}},
		{Outputs: []string{"x"}, Lines: []line{q}},
		{Outputs: []string{"q"}, Lines: []line{{Name: "q", Init: 2, Expr: "q"}}},
		{Outputs: []string{"q", "q", "q", "q"}, Lines: []line{q}},
		{Outputs: []string{"q"}},
	} {
		out = append(out, factory{example.Net, p})
	}
	return out
}

// unchanged fails unless the disks contain these bytes and nothing else was done
// with them: all is safe, and their fuses are as long as before.
func unchanged(t *testing.T, d [3]*disk, contents ...string) {
	t.Helper()
	for k, s := range contents {
		if got := held(t, d[k]); got != s {
			t.Errorf("disk %d: %q, not %q", k, got, s)
		}
	}
}

// P10.2: ErrNil before all, then ErrArg for what is no factory and no epoch, then
// ErrPower; and no disk is touched.
func TestOpenArguments(t *testing.T) {
	d := loaded(t, "1 1 \n", "1 1 \nrest", "")
	d[0].Fuse(0)
	same := *d[0]
	wrong := noFactories()[0]
	for _, x := range [][3]*disk{{}, {nil, d[1], d[2]}, {d[0], nil, d[2]}, {d[0], d[1], nil}, {new(disk), d[1], d[2]}, {d[0], new(disk), d[2]}, {d[0], d[1], new(disk)}, {&same, d[1], d[2]}, {d[0], d[1], &same}, {d[0], d[0], d[1]}, {d[0], d[1], d[0]}, {d[1], d[0], d[0]}, {d[0], d[0], d[0]}} {
		for _, f := range []factory{example, wrong} {
			for _, epoch := range []int{2, 1, 0} {
				if p, e := plant.Open(x, f, epoch); p != nil || e != api.ErrNil {
					t.Error(x, epoch, e)
				}
			}
		}
	}
	for _, f := range noFactories() {
		for _, epoch := range []int{1, 2} {
			if p, e := plant.Open(d, f, epoch); p != nil || e != api.ErrArg {
				t.Error(f, epoch, e)
			}
		}
	}
	for _, epoch := range []int{0, -1, 1000001, math.MinInt, math.MaxInt, 1, 1<<32 + 2} {
		if p, e := plant.Open(d, example, epoch); p != nil || e != api.ErrArg {
			t.Error(epoch, e)
		}
	}
	unchanged(t, d, "1 1 \n", "1 1 \nrest", "")
	d[1].Off()
	d[2].Off()
	for _, epoch := range []int{0, 1000001, -5} {
		if p, e := plant.Open(d, example, epoch); p != nil || e != api.ErrArg {
			t.Error(epoch, e)
		}
	}
	if p, e := plant.Open(d, wrong, 2); p != nil || e != api.ErrArg {
		t.Error(e)
	}
	// Too few disks come before the epochs of their logs.
	for _, epoch := range []int{1, 2, 1000000} {
		if p, e := plant.Open(d, example, epoch); p != nil || e != api.ErrPower {
			t.Error(epoch, e)
		}
	}
	d[0].Off()
	if p, e := plant.Open(d, example, 2); p != nil || e != api.ErrPower {
		t.Error(e)
	}
}

// P10.2: epochs 1 and 1,000,000, and those not above the ones on the disks that
// are present, whatever their best log is.
func TestEpochs(t *testing.T) {
	for _, x := range []struct {
		contents [3]string
		off      int // a disk, or -1
		epoch    int
		e        api.Errno
	}{
		{[3]string{}, -1, 1, ok},
		{[3]string{}, -1, 1000000, ok},
		{[3]string{}, -1, 1000001, arg},
		{[3]string{"999999 1 \n"}, -1, 1000000, ok},
		{[3]string{"1000000 1 \n"}, -1, 1000000, arg},
		{[3]string{"", "1000000 1 \n"}, -1, 1000000, arg},
		{[3]string{"", "", "1000000 1 \n"}, -1, 1000000, arg},
		{[3]string{"", "", "1000000 1 \n"}, 2, 1000000, ok},
		{[3]string{"1 1 \n1 2 x\n1 3 y\n", "7 1 \n", "5 1 \n"}, -1, 7, arg},
		{[3]string{"1 1 \n1 2 x\n1 3 y\n", "7 1 \n", "5 1 \n"}, -1, 8, ok},
		{[3]string{"1 1 \n1 2 x\n1 3 y\n", "7 1 \n", "5 1 \n"}, 1, 6, ok},
		{[3]string{"1 1 \n1 2 x\n1 3 y\n", "7 1 \n", "5 1 \n"}, 1, 5, arg},
		{[3]string{"3 1 \n5 2 x\n5 3 x\n", "3 1 \n", "3 1 \n"}, -1, 5, arg},
		{[3]string{"3 1 \n5 2 x\n5 3 x\n", "3 1 \n", "3 1 \n"}, -1, 4, arg},
		{[3]string{"3 1 \n5 2 x\n5 3 x\n", "3 1 \n", "3 1 \n"}, -1, 6, ok},
		{[3]string{"3 1 \n9 3 \n", "3 1 \n2 2 \n9 3 \n", "3 1 \n9 2\n"}, -1, 4, ok}, // what is not in a log does not count
	} {
		d := loaded(t, x.contents[:]...)
		if x.off >= 0 {
			d[x.off].Off()
		}
		p, e := plant.Open(d, example, x.epoch)
		if (p == nil) != (e != ok) || e != x.e {
			t.Error(x, e)
		}
		if e == arg && x.off < 0 {
			unchanged(t, d, x.contents[:]...)
		}
	}
}

// P10.2: what is the log of a disk, and what is its rest. The disk is opened
// together with an empty one, on which its log is found.
func TestLogs(t *testing.T) {
	hundred := strings.Repeat("x", 100)
	for _, x := range []struct {
		bytes string
		log   string
	}{
		{"", ""},
		{"1 1 \n", "1 1 \n"},
		{"1000000 1 \n", ""}, // no epoch is above
		{"999999 1 \n", "999999 1 \n"},
		{"x", ""}, {"\n", ""}, {" ", ""}, {"1", ""}, {"1 1", ""}, {"1 1 ", ""}, {"1 1\n", ""}, {"1\n", ""}, {"1 \n", ""}, {"  \n", ""}, {"1  \n", ""}, {" 1 \n", ""},
		{"\x00\x01\x02\xff\xfe", ""},
		{strings.Repeat("1", 5000), ""},
		{strings.Repeat("\n", 5000), ""},
		{strings.Repeat(" ", 5000), ""},
		{"0 1 \n", ""}, {"-1 1 \n", ""}, {"+1 1 \n", ""}, {"01 1 \n", ""}, {"1000001 1 \n", ""}, {"1.0 1 \n", ""}, {"1x 1 \n", ""}, {"18446744073709551617 1 \n", ""}, {"00 1 \n", ""}, {"10000001 1 \n", ""},
		{"1 0 \n", ""}, {"1 2 \n", ""}, {"1 01 \n", ""}, {"1 +1 \n", ""}, {"1 -1 \n", ""}, {"1 1x \n", ""}, {"1  1 \n", ""}, {" 1 1 \n", ""}, {"1 18446744073709551617 \n", ""},
		{"1\t1\t\n", ""}, {"1 1\t\n", ""},
		{"1 1 x\n", "1 1 x\n"},
		{"1 1 x y\n", "1 1 x y\n"},
		{"1 1  \n", ""}, {"1 1  x\n", ""}, {"1 1 x \n", ""}, {"1 1 x  y\n", ""}, {"1 1 x\x1fy\n", ""}, {"1 1 \x1f\n", ""}, {"1 1 x\x7f\n", ""}, {"1 1 \xe9\n", ""}, {"1 1 x\r\n", ""}, {"1 1 x\ty\n", ""},
		{"1 1 !~\n", "1 1 !~\n"},
		{"1 1 " + hundred + "\n", "1 1 " + hundred + "\n"},
		{"1 1 " + hundred + "x\n", ""},
		{"1 1 x\n1 2 " + hundred + "\n1 3 " + hundred + "x\n1 4 x\n", "1 1 x\n1 2 " + hundred + "\n"},
		{"1 1 \n1 2 x\n1 3 y", "1 1 \n1 2 x\n"},
		{"1 1 \n1 2 x\n1 3 y\n1", "1 1 \n1 2 x\n1 3 y\n"},
		{"1 1 \n1 2 x\n1 2 y\n1 3 z\n", "1 1 \n1 2 x\n"},
		{"1 1 \n1 2 x\n1 4 y\n1 3 z\n", "1 1 \n1 2 x\n"},
		{"1 1 \n1 2 x\n\n1 3 z\n", "1 1 \n1 2 x\n"},
		{"2 1 \n2 2 x\n1 3 y\n2 3 y\n", "2 1 \n2 2 x\n"},
		{"2 1 \n2 2 x\n0 3 y\n", "2 1 \n2 2 x\n"},
		{"2 1 \n4 2 x\n4 3 y\n999999 4 z\n", "2 1 \n4 2 x\n4 3 y\n999999 4 z\n"},
		{"2 1 \n4 2 x\n1000001 3 y\n", "2 1 \n4 2 x\n"},
		{"1 1 \n1 2 \n1 3 \n", "1 1 \n1 2 \n1 3 \n"},
		{"1 1 \n1 2 \n1 03 \n", "1 1 \n1 2 \n"},
		{"1 1 \n1 2 x\n1 3 \x00\n1 4 y\n", "1 1 \n1 2 x\n"},
		{"1 1 a\n1 2 a\n1 3 a\n1 4 a\n1 5 a\n1 6 a\n1 7 a\n1 8 a\n1 9 a\n1 10 a\n1 11 a\n1 12 a\n1 14 a\n", "1 1 a\n1 2 a\n1 3 a\n1 4 a\n1 5 a\n1 6 a\n1 7 a\n1 8 a\n1 9 a\n1 10 a\n1 11 a\n1 12 a\n"},
		{"1 1 a\n1 2 a\n1 3 a\n1 4 a\n1 5 a\n1 6 a\n1 7 a\n1 8 a\n1 9 a\n1 010 a\n", "1 1 a\n1 2 a\n1 3 a\n1 4 a\n1 5 a\n1 6 a\n1 7 a\n1 8 a\n1 9 a\n"},
	} {
		for _, places := range [][2]int{{0, 1}, {1, 0}, {2, 1}, {0, 2}} {
			var contents [3]string
			contents[places[0]] = x.bytes
			d := loaded(t, contents[:]...)
			d[3-places[0]-places[1]].Off()
			p, e := plant.Open(d, example, 1000000)
			if x.bytes == "1000000 1 \n" {
				if e != arg {
					t.Errorf("%q: %v", x.bytes, e)
				}
				continue
			}
			if e != ok {
				t.Errorf("%q: %v", x.bytes, e)
				continue
			}
			want := x.log + fmt.Sprintf("1000000 %d \n", strings.Count(x.log, "\n")+1)
			unchanged(t, [3]*disk{d[places[0]], d[places[1]]}, want, want)
			var lines []string
			for _, e := range logOf([]byte(x.log)) {
				if e.text != "" {
					lines = append(lines, e.text)
				}
			}
			if !slices.Equal(p.Log(), lines) {
				t.Errorf("%q: %q", x.bytes, p.Log())
			}
		}
	}
}

// P10.2: which log is the best, and what becomes of the others: logs of different
// lengths, of equal length with different epochs, that part in the middle, with
// rests, and with rests that are a beginning of the best one's bytes.
func TestBest(t *testing.T) {
	for _, x := range []struct {
		contents [3]string
		epoch    int
		want     string
	}{
		{[3]string{"1 1 \n", "1 1 \n1 2 a\n", "1 1 \n1 2 a\n1 3 b\n"}, 2, "1 1 \n1 2 a\n1 3 b\n2 4 \n"},
		{[3]string{"1 1 \n1 2 a\n1 3 b\n", "1 1 \n1 2 a\n", ""}, 2, "1 1 \n1 2 a\n1 3 b\n2 4 \n"},
		{[3]string{"1 1 \n1 2 a\n1 3 b\n", "1 1 \n1 2 a\n2 3 \n", "1 1 \n"}, 3, "1 1 \n1 2 a\n2 3 \n3 4 \n"},
		{[3]string{"1 1 \n1 2 a\n2 3 \n", "1 1 \n1 2 a\n1 3 b\n1 4 c\n1 5 d\n", "1 1 \n1 2 a\n2 3"}, 3, "1 1 \n1 2 a\n2 3 \n3 4 \n"},
		{[3]string{"1 1 \n2 2 \n", "1 1 \n", "3 1 \n"}, 5, "3 1 \n5 2 \n"},
		{[3]string{"1 1 a\n", "1 1 b\n", "1 1 c\n"}, 2, "1 1 a\n2 2 \n"},
		{[3]string{"1 1 a\n", "1 1 b\n1 2 x\n", "1 1 c\n1 2 y\n"}, 2, "1 1 b\n1 2 x\n2 3 \n"},
		{[3]string{"1 1 a\n", "1 1 b\n1 2 x\n", "1 1 c\n2 2 y\n"}, 3, "1 1 c\n2 2 y\n3 3 \n"},
		{[3]string{"2 1 a\n2 2 b\n", "1 1 a\n2 2 b\n", "1 1 a\n1 2 b\n2 3 c\n"}, 3, "1 1 a\n1 2 b\n2 3 c\n3 4 \n"},
		{[3]string{"1 1 \n1 2 a\n1 3 b\nrest", "1 1 \n1 2 a\n1 3 brest", "1 1 \n1 2 arest"}, 2, "1 1 \n1 2 a\n1 3 b\n2 4 \n"},
		{[3]string{"rest", "rest", "rest"}, 2, "2 1 \n"},
		{[3]string{"1 1 \n1 2 abc\n", "1 1 \n1 2 ab", "1 1 \n1"}, 2, "1 1 \n1 2 abc\n2 3 \n"},
		{[3]string{"1 1 \n1 2 abc\n", "1 1 \n1 2 ab\n", "1 1 \n1 2 abd"}, 2, "1 1 \n1 2 abc\n2 3 \n"},
		{[3]string{"1 1 \n1 2 a\n2 3 \n2 4 b\n", "1 1 \n1 2 a\n1 3 x\n1 4 y\n", "1 1 \n1 2 b\n1 3 a\n"}, 7, "1 1 \n1 2 a\n2 3 \n2 4 b\n7 5 \n"},
		{[3]string{"1 1 \n1 2 a\n1 3 c\n1 4 b\n", "1 1 \n1 2 x\n1 3 c\n1 4 b\n", "1 1 \n1 2 a\n1 3 x\n1 4 b\n"}, 7, "1 1 \n1 2 a\n1 3 c\n1 4 b\n7 5 \n"},
		{[3]string{"", "", "1 1 grower ann\n1 2 deliver ann 5\n"}, 7, "1 1 grower ann\n1 2 deliver ann 5\n7 3 \n"},
	} {
		for off := -1; off < 3; off++ {
			d := loaded(t, x.contents[:]...)
			var m [3]*platter
			for k := range m {
				m[k] = &platter{size: 10000, safe: []byte(x.contents[k])}
			}
			if off >= 0 {
				d[off].Off()
				m[off].Off()
			}
			p, e := plant.Open(d, example, x.epoch)
			w, want := opened(m, example, x.epoch)
			if e != ok || want != ok {
				t.Error(x, off, e, want)
				continue
			}
			if off < 0 {
				unchanged(t, d, x.want, x.want, x.want)
			} else {
				d[off].Crash(0)
				m[off].Crash(0)
			}
			for k := range d {
				if held(t, d[k]) != string(m[k].bytes()) {
					t.Errorf("%v %d: %q, not %q", x, off, held(t, d[k]), m[k].bytes())
				}
			}
			if !slices.Equal(p.Log(), w.lines) || p.State() != w.c.state() {
				t.Errorf("%v %d: %q, not %q", x, off, p.Log(), w.lines)
			}
		}
	}
}

// operations returns how many operations Open does on disk k.
func operations(t *testing.T, contents [3]string, k int) int {
	for n := 0; ; n++ {
		d := loaded(t, contents[:]...)
		d[k].Fuse(n)
		plant.Open(d, example, 100)
		if _, e := d[k].Read(); e == ok {
			return n
		}
	}
}

// P10.2: what is done with a disk: Cut if its bytes are not a beginning of the
// best log's; Append, in one call; Sync.
func TestOperations(t *testing.T) {
	best := "1 1 \n1 2 a\n1 3 b\n"
	for _, x := range []struct {
		bytes string
		n     int
	}{{"", 2}, {"1", 2}, {"1 1 \n", 2}, {"1 1 \n1 2 ", 2}, {best[:len(best)-1], 2}, {best, 2}, {best + "1", 3}, {best + "x", 3}, {best + "\n", 3}, {"x", 3}, {"1 1 \n1 2 b", 3}, {"1 1 \n1 2 b\n", 3}, {"\n", 3}, {"2 1", 3}} {
		for k := range 3 {
			contents := [3]string{best, best, best}
			contents[k] = x.bytes
			if n := operations(t, contents, k); n != x.n {
				t.Errorf("%q: %d operations, not %d", x.bytes, n, x.n)
			}
		}
	}
}

// P10.2: a disk on which an operation fails is out; with two others the plant is
// opened, with one it is not, and then the disks are as far as they came.
func TestOpenFuses(t *testing.T) {
	long := "1 1 \n1 2 grower ann\n"
	contents := [3]string{"1 1 \nx", long, ""}
	for k := range 3 {
		for n := range 4 {
			d := loaded(t, contents[:]...)
			d[k].Fuse(n)
			p := mustOpen(t, d, example, 4)
			if want := []string{"grower ann"}; !slices.Equal(p.Log(), want) {
				t.Error(k, n, p.Log())
			}
			// The disk that is out is not written to, even with the power on again.
			d[k].Crash(0)
			before := held(t, d[k])
			mustDo(t, p, "grower bob")
			if gone := n < []int{3, 2, 2}[k]; gone != (held(t, d[k]) == before) {
				t.Errorf("%d %d: %q %q", k, n, before, held(t, d[k]))
			}
			if n < 2 && strings.Contains(before, "4 3 \n") {
				t.Error(k, n, before)
			}
		}
	}
	for _, x := range []struct{ k, l, n, m int }{{0, 1, 0, 0}, {0, 2, 1, 1}, {1, 2, 1, 0}, {0, 1, 2, 1}, {2, 1, 0, 1}} {
		d := loaded(t, contents[:]...)
		d[x.k].Fuse(x.n)
		d[x.l].Fuse(x.m)
		if p, e := plant.Open(d, example, 4); p != nil || e != power {
			t.Error(x, e)
		}
		// The third disk is written all the same.
		if got := held(t, d[3-x.k-x.l]); got != long+"4 3 \n" {
			t.Errorf("%v: %q", x, got)
		}
		for _, y := range d {
			y.Crash(0)
		}
		if p, e := plant.Open(d, example, 4); p != nil || e != arg {
			t.Error(x, e)
		}
		mustOpen(t, d, example, 5)
	}
}

// P10.2, P10.3: disks too small for what they lack are out: they are cut, but
// nothing is appended; so are disks too small for a line.
func TestSmallDisks(t *testing.T) {
	long := "1 1 \n1 2 grower ann\n1 3 deliver ann 5\n"
	for _, room := range []int{0, -1} {
		d := made(t, 1000, len(long)+len("2 4 \n")+room, 1000)
		d[0].Append([]byte(long))
		d[1].Append([]byte("1 1 \nx"))
		d[2].Append([]byte(long))
		p := mustOpen(t, d, example, 2)
		if want := map[int]string{0: long + "2 4 \n", -1: "1 1 \n"}[room]; held(t, d[1]) != want {
			t.Errorf("%d: %q", room, held(t, d[1]))
		}
		mustDo(t, p, "tick 1")
		d[2].Off()
		takes(t, p, step{"tick 1", "", power}, step{"tick 1", "", state})
	}
	d := made(t, 5, 5, 4)
	p := mustOpen(t, d, example, 1)
	takes(t, p, step{"grower ann", "", power}, step{"grower ann", "", state})
	d = made(t, 5, 4, 4)
	if p, e := plant.Open(d, example, 1); p != nil || e != power {
		t.Error(e)
	}
	unchanged(t, d, "1 1 \n", "", "")
	// A line that just fits, and one more byte.
	for _, x := range []struct {
		line string
		e    api.Errno
	}{{"grower abc", ok}, {"grower abcd", power}} {
		d := made(t, len("1 1 \n1 2 grower abc\n"))
		p := mustOpen(t, d, example, 1)
		if _, e := p.Do(x.line); e != x.e {
			t.Error(x, e)
		}
	}
}

// P10.3: Do with one disk out and with two; a line that has an error comes after
// ErrState, before ErrPower, and is not written.
func TestDoPower(t *testing.T) {
	for k := range 3 {
		d := made(t, 1000)
		p := mustOpen(t, d, example, 3)
		d[k].Off()
		takes(t, p, step{"grower ann", "grower", ok}, step{"grower ann", "", state}, step{"deliver ann 1", "deliver 1", ok})
		d[(k+1)%3].Off()
		takes(t, p, step{"deliver bob 1", "", none}, step{"deliver ann 0", "", arg}, step{"x", "", form}, step{"ship 1", "", short}, step{"deliver ann 1000000", "", form}, step{"deliver ann 3", "", power})
		takes(t, p, step{"deliver ann 3", "", state}, step{"deliver bob 3", "", state}, step{"x", "", state}, step{"", "", state}, step{"marking", "", state})
		says(t, p, step{"marking", "marking 1 0", ok}, step{"owed ann", "owed 1", ok}, step{"owed bob", "", none}, step{"x", "", form}, step{"tick 1", "", form}, step{"can 0 1", "can yes", ok}, step{"growers", "growers ann", ok}, step{"registers", "registers 0", ok}, step{"paid ann", "paid 0", ok})
		if want := []string{"grower ann", "deliver ann 1"}; !slices.Equal(p.Log(), want) || p.State() != "marking 1 0\nregisters 0\ngrowers ann\nowed 1\npaid 0\n" {
			t.Error(p.Log(), p.State())
		}
		for _, x := range d {
			x.Crash(0)
		}
		takes(t, p, step{"deliver ann 3", "", state})
		first, both := "3 1 \n", "3 1 \n3 2 grower ann\n3 3 deliver ann 1\n"
		var want [3]string
		want[k], want[(k+1)%3], want[(k+2)%3] = first, both, both+"3 4 deliver ann 3\n"
		unchanged(t, d, want[:]...)
	}
}

// P10.3: the records of lines that were acknowledged, with lines in between that
// were not, and a disk that comes back.
func TestRecords(t *testing.T) {
	d := made(t, 1000)
	p := mustOpen(t, d, example, 7)
	takes(t, p, step{"grower ann", "grower", ok}, step{"grower ann", "", state}, step{"tick 2", "", arg}, step{"tick 1", "tick 1 0", ok}, step{"marking", "", form}, step{"ship 1", "", short}, step{"pay 1", "", none}, step{"deliver ann 12", "deliver 12", ok})
	want := "7 1 \n7 2 grower ann\n7 3 tick 1\n7 4 deliver ann 12\n"
	unchanged(t, d, want, want, want)
	for k := range 3 {
		d[k].Crash(0)
	}
	unchanged(t, d, want, want, want)
	p = mustOpen(t, d, example, 9)
	mustDo(t, p, "tick 0", "tick 1", "tick 1", "tick 1", "ship 1", "pay 100")
	want += "9 5 \n9 6 tick 0\n9 7 tick 1\n9 8 tick 1\n9 9 tick 1\n9 10 ship 1\n9 11 pay 100\n"
	unchanged(t, d, want, want, want)
}

// P10.2, P10.4: lines of the log that have an error have no effect, and are in
// Log all the same: with another factory, or written by nobody.
func TestLinesWithErrors(t *testing.T) {
	s := "1 1 grower ann\n1 2 grower ann\n1 3 x y z\n1 4 deliver ann 7\n1 5 deliver bob 7\n2 6 \n2 7 marking\n2 8 tick 1\n2 9 tick 7\n2 10 ship 5\n2 11 pay 01\n2 12 ship 1\n"
	p := mustOpen(t, loaded(t, s, "", ""), example, 3)
	want := []string{"grower ann", "grower ann", "x y z", "deliver ann 7", "deliver bob 7", "marking", "tick 1", "tick 7", "ship 5", "pay 01", "ship 1"}
	if !slices.Equal(p.Log(), want) || p.State() != "marking 6 0\nregisters 1\ngrowers ann\nowed 7\npaid 0\n" {
		t.Error(p.Log(), p.State())
	}
	// A tick of which the second firing is one too many has no effect at all.
	grow := factory{
		net.Net{Pre: [][]int{{0}, {0}}, Post: [][]int{{1}, {1}}, Start: api.Marking{0}},
		program{Outputs: []string{"on", "on"}, Lines: []line{{Name: "on", Init: -1, Expr: "true"}, {Name: "q", Init: 0, Expr: "not q"}}},
	}
	p = mustOpen(t, loaded(t, "1 1 grower ann\n1 2 deliver ann 999997\n1 3 tick 0\n1 4 tick 0\n1 5 tick 0\n"), grow, 2)
	if p.State() != "marking 999999\nregisters 1\ngrowers ann\nowed 999997\npaid 0\n" {
		t.Error(p.State())
	}
	other := factory{net.Net{Pre: [][]int{{1}}, Post: [][]int{{0}}, Start: api.Marking{5}}, always(1)}
	p = mustOpen(t, loaded(t, s, "", ""), other, 3)
	if !slices.Equal(p.Log(), want) || p.State() != "marking 6\nregisters\ngrowers ann\nowed 7\npaid 0\n" {
		t.Error(p.Log(), p.State())
	}
}

// drawnBytes returns what may be on a disk: records that are nearly those of the
// others, with mistakes, or something else.
func drawnBytes(r *rand.Rand, common []entry) string {
	l := slices.Clone(common[:r.Intn(len(common)+1)])
	epoch := max(1, last(l))
	for range r.Intn(4) {
		epoch += r.Intn(2) * r.Intn(3)
		e := entry{epoch, len(l) + 1, ""}
		if r.Intn(3) > 0 {
			e.text = drawnChange(r)
		}
		l = append(l, e)
	}
	s := spelled(l)
	switch r.Intn(6) {
	case 0:
		s = s[:r.Intn(len(s)+1)]
	case 1:
		s = spoiled(r, s)
	case 2:
		s += []string{"x", "\n", "1", "5 6 tick", spelled(common)}[r.Intn(5)]
	}
	return s
}

// P10.1 to P10.4: drawn campaigns on drawn disks go as the model says: opened
// again and again, also while older plants are used, with disks that lose their
// power or are tampered with at any time.
func TestDrawnCampaigns(t *testing.T) {
	r := rand.New(rand.NewSource(3))
	seen := map[string]int{}
	for range 800 {
		f := drawnFactory(r)
		var d [3]*disk
		var m [3]*platter
		var common []entry
		for k := range r.Intn(5) {
			common = append(common, entry{1 + k/2, k + 1, drawnChange(r)})
		}
		for k := range d {
			size := []int{10, 60, 100, 1000, 1000, 1000}[r.Intn(6)]
			d[k], _ = plant.NewDisk(size)
			m[k] = &platter{size: size}
			b := []byte(drawnBytes(r, common))
			d[k].Append(b)
			m[k].Append(b)
		}
		var plants []*plant.Plant
		var models []*works
		epoch := 1
		for range 25 {
			k := r.Intn(3)
			switch n := r.Intn(20); {
			case n == 0:
				d[k].Off()
				m[k].Off()
			case n == 1 || n == 2:
				x := r.Intn(8) - 1
				d[k].Fuse(x)
				m[k].Fuse(x)
			case n == 3 || n == 4:
				x := r.Intn(40) - 1
				d[k].Crash(x)
				m[k].Crash(x)
			case n == 5:
				x := r.Intn(100)
				d[k].Cut(x)
				m[k].Cut(x)
			case n == 6:
				b := []byte(drawnBytes(r, common))
				d[k].Append(b)
				m[k].Append(b)
			case n < 10 || len(plants) == 0:
				epoch += r.Intn(3)
				p, e := plant.Open(d, f, epoch)
				w, want := opened(m, f, epoch)
				seen[fmt.Sprint("open", e)]++
				if e != want || (p == nil) != (e != ok) {
					t.Fatal(e, want)
				}
				if e == ok {
					plants, models = append(plants, p), append(models, w)
				}
			default:
				x := max(0, len(plants)-1-r.Intn(4)/3)
				s := drawnChange(r)
				got, e := plants[x].Do(s)
				want, errno := models[x].Do(s)
				seen[fmt.Sprint("do", e)]++
				if got != want || e != errno {
					t.Fatalf("%q: %q %v, not %q %v", s, got, e, want, errno)
				}
			}
			for k := range d {
				b, e := d[k].Read()
				if c, want := m[k].Read(); string(b) != string(c) || e != want {
					t.Fatalf("%q %v, not %q %v", b, e, c, want)
				}
			}
			for x, p := range plants {
				if !slices.Equal(p.Log(), models[x].lines) || p.State() != models[x].c.state() {
					t.Fatalf("%q, not %q; %q, not %q", p.Log(), models[x].lines, p.State(), models[x].c.state())
				}
			}
		}
		for k := range d {
			d[k].Crash(3)
			m[k].Crash(3)
			if held(t, d[k]) != string(m[k].bytes()) {
				t.Fatalf("%q, not %q", held(t, d[k]), m[k].bytes())
			}
		}
	}
	for _, s := range []string{"open0", "open2", "open11", "do0", "do7", "do11", "do9", "do5", "do2"} {
		if seen[s] < 50 {
			t.Error(s, seen)
		}
	}
}
