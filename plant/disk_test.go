package plant_test

import (
	"bytes"
	"fmt"
	"math"
	"math/rand"
	"testing"

	"massecuite/api"
	"massecuite/plant"
)

// P10.1: disks of any size, of which those from 1 to 1,000,000 are made.
func TestNewDisk(t *testing.T) {
	for _, size := range []int{math.MinInt, -1, 0, 1000001, math.MaxInt, 1 << 32, 1<<32 + 1} {
		if d, e := plant.NewDisk(size); d != nil || e != api.ErrArg {
			t.Error(size, d, e)
		}
	}
	for _, size := range []int{1, 2, 10000, 999999, 1000000} {
		d, e := plant.NewDisk(size)
		if e != api.OK || held(t, d) != "" {
			t.Fatal(size, e)
		}
		if e := d.Append(make([]byte, size+1)); e != api.ErrFull {
			t.Error(size, e)
		}
		if e := d.Append(make([]byte, size)); e != api.OK || len(held(t, d)) != size {
			t.Error(size, e)
		}
		if e := d.Append([]byte{1}); e != api.ErrFull {
			t.Error(size, e)
		}
		if e := d.Append(nil); e != api.OK || len(held(t, d)) != size {
			t.Error(size, e)
		}
	}
}

// hold is what disks and their models have in common.
type hold interface {
	Append(b []byte) api.Errno
	Sync() api.Errno
	Cut(n int) api.Errno
	Read() ([]byte, api.Errno)
	Fuse(k int)
	Crash(keep int)
	Off()
}

// act is an operation on a disk.
type act struct {
	name string
	n    int // of Cut, Fuse and Crash, and of the bytes of Append
	e    api.Errno
}

// done does an operation; what Append writes depends on how far a disk is filled.
func (a act) done(d hold) api.Errno {
	switch a.name {
	case "append":
		var b []byte
		for k := range a.n {
			b = append(b, byte('a'+k))
		}
		return d.Append(b)
	case "sync":
		return d.Sync()
	case "cut":
		return d.Cut(a.n)
	case "fuse":
		d.Fuse(a.n)
	case "crash":
		d.Crash(a.n)
	case "off":
		d.Off()
	}
	return api.OK
}

// kept returns what is on a disk after a loss of power, which stays as it is.
func kept(acts []act, size, keep int) []byte {
	d, _ := plant.NewDisk(size)
	for _, a := range acts {
		a.done(d)
	}
	d.Crash(keep)
	b, _ := d.Read()
	return b
}

// P10.1: each operation, its errors in order, fuses, and what a loss of power
// leaves, on a disk of 10 bytes.
func TestDiskSteps(t *testing.T) {
	const ok, arg, full, power = api.OK, api.ErrArg, api.ErrFull, api.ErrPower
	for _, x := range []struct {
		acts       []act
		bytes      string // while the power is on
		safe, more string // after a crash that keeps nothing, and everything
	}{
		{[]act{{"append", 10, ok}, {"append", 1, full}, {"append", 0, ok}}, "abcdefghij", "", "abcdefghij"},
		{[]act{{"append", 3, ok}, {"sync", 0, ok}, {"append", 2, ok}}, "abcab", "abc", "abcab"},
		{[]act{{"append", 3, ok}, {"append", 2, ok}, {"sync", 0, ok}}, "abcab", "abcab", "abcab"},
		{[]act{{"append", 3, ok}, {"append", 8, full}, {"append", 7, ok}}, "abcabcdefg", "", "abcabcdefg"},
		{[]act{{"append", 4, ok}, {"cut", -1, arg}, {"cut", 5, arg}, {"cut", 4, ok}}, "abcd", "abcd", "abcd"},
		{[]act{{"append", 4, ok}, {"sync", 0, ok}, {"append", 2, ok}, {"cut", 7, arg}, {"cut", 6, ok}, {"append", 1, ok}}, "abcdaba", "abcdab", "abcdaba"},
		{[]act{{"append", 4, ok}, {"sync", 0, ok}, {"append", 2, ok}, {"cut", 5, ok}}, "abcda", "abcda", "abcda"},
		{[]act{{"append", 4, ok}, {"sync", 0, ok}, {"append", 2, ok}, {"cut", 3, ok}, {"append", 1, ok}}, "abca", "abc", "abca"},
		{[]act{{"append", 4, ok}, {"cut", 0, ok}, {"cut", 1, arg}, {"cut", 0, ok}}, "", "", ""},
		// The power is off: errors that are listed before come first.
		{[]act{{"append", 4, ok}, {"sync", 0, ok}, {"append", 2, ok}, {"off", 0, ok}, {"append", 5, full}, {"append", 4, power}, {"append", 0, power}, {"sync", 0, power}, {"cut", -1, arg}, {"cut", 7, arg}, {"cut", 6, power}, {"cut", 0, power}}, "-", "abcd", "abcdab"},
		// Fuses that go off at each of the operations.
		{[]act{{"fuse", 0, ok}, {"append", 1, power}, {"append", 1, power}}, "-", "", ""},
		{[]act{{"append", 2, ok}, {"fuse", 0, ok}, {"sync", 0, power}, {"sync", 0, power}}, "-", "", "ab"},
		{[]act{{"append", 2, ok}, {"fuse", 0, ok}, {"cut", 1, power}}, "-", "", "ab"},
		{[]act{{"fuse", 1, ok}, {"append", 2, ok}, {"append", 1, power}}, "-", "", "ab"},
		{[]act{{"fuse", 1, ok}, {"append", 2, ok}, {"sync", 0, power}}, "-", "", "ab"},
		{[]act{{"append", 3, ok}, {"fuse", 1, ok}, {"sync", 0, ok}, {"cut", 1, power}}, "-", "abc", "abc"},
		{[]act{{"append", 3, ok}, {"fuse", 1, ok}, {"cut", 2, ok}, {"append", 1, power}}, "-", "ab", "ab"},
		{[]act{{"fuse", 3, ok}, {"append", 2, ok}, {"sync", 0, ok}, {"append", 0, ok}, {"append", 0, power}}, "-", "ab", "ab"},
		// No fuse.
		{[]act{{"fuse", -1, ok}, {"append", 2, ok}, {"sync", 0, ok}, {"cut", 1, ok}, {"append", 1, ok}}, "aa", "a", "aa"},
		{[]act{{"fuse", 1, ok}, {"fuse", -1, ok}, {"append", 2, ok}, {"sync", 0, ok}, {"append", 1, ok}}, "aba", "ab", "aba"},
		{[]act{{"fuse", 0, ok}, {"fuse", math.MinInt, ok}, {"append", 2, ok}}, "ab", "", "ab"},
		{[]act{{"fuse", 0, ok}, {"fuse", 2, ok}, {"append", 2, ok}, {"sync", 0, ok}, {"sync", 0, power}}, "-", "ab", "ab"},
		{[]act{{"fuse", math.MaxInt, ok}, {"append", 2, ok}, {"sync", 0, ok}, {"sync", 0, ok}}, "ab", "ab", "ab"},
		// Operations with an error that is listed before ErrPower do not count.
		{[]act{{"append", 2, ok}, {"fuse", 1, ok}, {"append", 9, full}, {"cut", -1, arg}, {"cut", 3, arg}, {"append", 1, ok}, {"append", 9, full}, {"cut", 4, arg}, {"sync", 0, power}}, "-", "", "aba"},
		{[]act{{"append", 2, ok}, {"fuse", 0, ok}, {"append", 9, full}, {"cut", 3, arg}}, "ab", "", "ab"},
		// Fuse while the power is off, and Off with a fuse.
		{[]act{{"append", 2, ok}, {"off", 0, ok}, {"fuse", 5, ok}, {"append", 1, power}, {"fuse", -1, ok}, {"append", 1, power}}, "-", "", "ab"},
		{[]act{{"append", 2, ok}, {"off", 0, ok}, {"fuse", 0, ok}, {"crash", 1, ok}, {"append", 1, ok}, {"sync", 0, ok}}, "aa", "aa", "aa"},
		{[]act{{"fuse", 2, ok}, {"off", 0, ok}, {"append", 1, power}, {"crash", 1, ok}, {"append", 1, ok}, {"sync", 0, ok}, {"sync", 0, ok}}, "a", "a", "a"},
		// Crashes, with the power on and off.
		{[]act{{"append", 2, ok}, {"sync", 0, ok}, {"append", 3, ok}, {"crash", -1, ok}, {"append", 1, ok}}, "aba", "ab", "aba"},
		{[]act{{"append", 2, ok}, {"sync", 0, ok}, {"append", 3, ok}, {"crash", 0, ok}}, "ab", "ab", "ab"},
		{[]act{{"append", 2, ok}, {"sync", 0, ok}, {"append", 3, ok}, {"crash", 1, ok}}, "aba", "aba", "aba"},
		{[]act{{"append", 2, ok}, {"sync", 0, ok}, {"append", 3, ok}, {"off", 0, ok}, {"crash", 2, ok}, {"append", 1, ok}}, "ababa", "abab", "ababa"},
		{[]act{{"append", 2, ok}, {"sync", 0, ok}, {"append", 3, ok}, {"off", 0, ok}, {"crash", 3, ok}}, "ababc", "ababc", "ababc"},
		{[]act{{"append", 2, ok}, {"sync", 0, ok}, {"append", 3, ok}, {"crash", 4, ok}}, "ababc", "ababc", "ababc"},
		{[]act{{"append", 2, ok}, {"sync", 0, ok}, {"append", 3, ok}, {"crash", math.MaxInt, ok}}, "ababc", "ababc", "ababc"},
		{[]act{{"append", 2, ok}, {"sync", 0, ok}, {"append", 3, ok}, {"crash", math.MinInt, ok}}, "ab", "ab", "ab"},
		{[]act{{"append", 2, ok}, {"fuse", 0, ok}, {"crash", 1, ok}, {"append", 2, ok}, {"sync", 0, ok}}, "aab", "aab", "aab"},
		{[]act{{"append", 2, ok}, {"fuse", 0, ok}, {"sync", 0, power}, {"crash", 1, ok}, {"append", 9, ok}, {"append", 1, full}}, "aabcdefghi", "a", "aabcdefghi"},
	} {
		d, _ := plant.NewDisk(10)
		for k, a := range x.acts {
			if e := a.done(d); e != a.e {
				t.Error(x.acts, k, e)
			}
		}
		b, e := d.Read()
		if x.bytes == "-" && e != power || x.bytes != "-" && (e != ok || string(b) != x.bytes) {
			t.Errorf("%v: %q %v", x.acts, b, e)
		}
		if b := kept(x.acts, 10, 0); string(b) != x.safe {
			t.Errorf("%v: %q is safe", x.acts, b)
		}
		if b := kept(x.acts, 10, 100); string(b) != x.more {
			t.Errorf("%v: %q may be left", x.acts, b)
		}
	}
}

// P10.1: Read counts for no fuse, and works with one.
func TestReadWithFuse(t *testing.T) {
	d, _ := plant.NewDisk(10)
	d.Append([]byte("ab"))
	d.Fuse(1)
	for range 5 {
		if held(t, d) != "ab" {
			t.Error(held(t, d))
		}
	}
	if e := d.Sync(); e != api.OK {
		t.Error(e)
	}
	if held(t, d) != "ab" {
		t.Error(held(t, d))
	}
	if e := d.Sync(); e != api.ErrPower {
		t.Error(e)
	}
	if b, e := d.Read(); b != nil || e != api.ErrPower {
		t.Error(b, e)
	}
}

// drawnAct returns an operation on a small disk.
func drawnAct(r *rand.Rand) act {
	switch r.Intn(12) {
	case 0, 1, 2, 3:
		return act{name: "append", n: r.Intn(6)}
	case 4, 5:
		return act{name: "sync"}
	case 6, 7:
		return act{name: "cut", n: r.Intn(20) - 2}
	case 8:
		return act{name: "fuse", n: r.Intn(7) - 2}
	case 9:
		return act{name: "off"}
	}
	return act{name: "crash", n: r.Intn(9) - 2}
}

// P10.1: drawn operations do on a disk what they do on its model.
func TestDrawnDisks(t *testing.T) {
	r := rand.New(rand.NewSource(1))
	for range 3000 {
		size := 1 + r.Intn(20)
		d, _ := plant.NewDisk(size)
		p := &platter{size: size}
		var past []act
		for range 40 {
			a := drawnAct(r)
			past = append(past, a)
			if e, want := a.done(d), a.done(p); e != want {
				t.Fatal(size, past, e, want)
			}
			b, e := d.Read()
			if c, want := p.Read(); !bytes.Equal(b, c) || e != want {
				t.Fatal(size, past, string(b), e, string(c), want)
			}
		}
	}
}

// P10.1, rules 4 and 6 of the document: a disk keeps no memory of others, and
// gives none of its own away.
func TestDiskMemory(t *testing.T) {
	d, _ := plant.NewDisk(100)
	b := []byte("abcdef")
	d.Append(b[:3])
	copy(b, "xxxxxx")
	c, _ := d.Read()
	if string(c) != "abc" {
		t.Error(string(c))
	}
	copy(c[:cap(c)], "yyyyyyyyyyyyyyyyy")
	_ = append(c[:1], "zzzzzz"...)
	if held(t, d) != "abc" {
		t.Error(held(t, d))
	}
	c, _ = d.Read()
	d.Cut(1)
	d.Append([]byte("QRS"))
	if string(c) != "abc" || held(t, d) != "aQRS" {
		t.Error(string(c), held(t, d))
	}
	if e := d.Append(b); e != api.OK || string(b) != "xxxxxx" {
		t.Error(string(b), e)
	}
}

// Rule 6: what no call made has no effect, and returns ErrNil.
func TestNoDisks(t *testing.T) {
	d, _ := plant.NewDisk(10)
	d.Append([]byte("abc"))
	same := *d
	var zero disk
	for k, x := range []*disk{nil, {}, &zero, new(disk), &same} {
		x.Fuse(0)
		x.Crash(0)
		x.Off()
		b, e := x.Read()
		got := fmt.Sprint(b, e, x.Append([]byte("x")), x.Append(make([]byte, 100)), x.Sync(), x.Cut(0), x.Cut(-1))
		if want := fmt.Sprint([]byte(nil), api.ErrNil, api.ErrNil, api.ErrNil, api.ErrNil, api.ErrNil, api.ErrNil); got != want {
			t.Error(k, got)
		}
		x.Crash(5)
	}
	if held(t, d) != "abc" {
		t.Error(held(t, d))
	}
	d.Crash(2)
	if held(t, d) != "ab" {
		t.Error(held(t, d))
	}
}
