package plant_test

import (
	"fmt"
	"math/rand"
	"slices"
	"testing"

	"massecuite/api"
	"massecuite/plant"
)

// P10.6, and P6 of the whole document: nothing that was acknowledged is lost.

// begins reports whether l begins with all of m.
func begins(l, m []string) bool { return len(l) >= len(m) && slices.Equal(l[:len(m)], m) }

// fault is a fuse on a disk, -1 for none.
type fault struct{ k, fuse int }

// faults returns all faults that matter if so many operations are done on a disk.
func faults(operations int) []fault {
	out := []fault{{0, -1}}
	for k := range 3 {
		for n := range operations {
			out = append(out, fault{k, n})
		}
	}
	return out
}

// day is what was acknowledged in the campaign so far, and whether one more line
// was not.
type day struct {
	d     [3]*disk
	epoch int
	acked []string
}

// copied returns disks that contain the same as these, all of which are on and
// safe.
func (x day) copied(t *testing.T) day {
	var contents []string
	for _, d := range x.d {
		contents = append(contents, held(t, d))
	}
	return day{loaded(t, contents...), x.epoch, x.acked}
}

// spend opens a plant and makes changes, with faults, one disk off from the
// beginning on (or none, -1), and disks that keep some bytes of what was not safe.
func (x *day) spend(t *testing.T, lines []string, faults []fault, off, keep int) {
	t.Helper()
	x.epoch++
	if off >= 0 {
		x.d[off].Off()
	}
	for _, f := range faults {
		x.d[f.k].Fuse(f.fuse)
	}
	p, e := plant.Open(x.d, example, x.epoch)
	if e == ok {
		log := p.Log()
		if !begins(log, x.acked) || len(log) > len(x.acked)+1 {
			t.Fatalf("%v %d %d: %q, not %q", faults, off, keep, log, x.acked)
		}
		x.acked = log // what was found stays
		for _, s := range lines {
			if _, e := p.Do(s); e == ok {
				x.acked = append(x.acked, s)
			} else if e != power && e != state {
				t.Fatal(s, e)
			}
		}
		if !slices.Equal(p.Log(), x.acked) {
			t.Fatalf("%v %d %d: %q, not %q", faults, off, keep, p.Log(), x.acked)
		}
	} else if e != power {
		t.Fatal(e)
	}
	for _, d := range x.d {
		d.Crash(keep)
	}
}

// P10.6: a plant that is opened again after every possible fuse at any of its
// disks, whatever Crash keeps, with any of the disks off, has the lines that were
// acknowledged, and at most one more.
func TestEveryFuse(t *testing.T) {
	first := []string{"grower ann", "deliver ann 2", "tick 1"}
	for _, f := range faults(9) {
		for off := -1; off < 3; off++ {
			if f.k == off && f.fuse >= 0 {
				continue
			}
			for keep := -1; keep < 24; keep++ {
				x := day{d: made(t, 1000)}
				x.spend(t, first, []fault{f}, off, keep)
				for again := -1; again < 3; again++ {
					y := x.copied(t)
					y.spend(t, []string{"tick 0"}, nil, again, 0)
					if y.epoch != 2 || !slices.Contains(y.acked, "tick 0") {
						t.Fatal(f, off, keep, again, y.acked)
					}
				}
			}
		}
	}
}

// P10.6: the same with a second fuse in the plant that is opened again, and a
// third plant, which has what the two acknowledged.
func TestEveryTwoFuses(t *testing.T) {
	for _, f := range faults(5) {
		for _, keep := range []int{0, 9} {
			for off := -1; off < 3; off++ {
				x := day{d: made(t, 1000)}
				x.spend(t, []string{"grower ann"}, []fault{f}, off, keep)
				for _, g := range faults(5) {
					for again := -1; again < 3; again++ {
						y := x.copied(t)
						y.spend(t, []string{"grower cy"}, []fault{g}, again, keep)
						for third := -1; third < 3; third++ {
							z := y.copied(t)
							z.spend(t, nil, nil, third, 0)
						}
					}
				}
			}
		}
	}
}

// P10.6: two fuses at once: lines are acknowledged until the second goes off.
func TestFusesAtOnce(t *testing.T) {
	lines := []string{"grower ann", "deliver ann 5", "pay 7"}
	for n := range 10 {
		for m := range 10 {
			for _, x := range [][2]int{{0, 1}, {0, 2}, {1, 2}} {
				for _, keep := range []int{0, 3, 17, 100} {
					for again := -1; again < 3; again++ {
						y := day{d: made(t, 1000)}
						y.spend(t, lines, []fault{{x[0], n}, {x[1], m}}, -1, keep)
						y.spend(t, nil, nil, again, 0)
					}
				}
			}
		}
	}
}

// cabinet is three disks on which plants follow each other, as P10.6 demands.
type cabinet struct {
	d       [3]*disk
	epoch   int
	acked   []string
	pending int // lines that were not acknowledged since the last Open that succeeded
}

// open opens a plant, if it can, and compares its Log with what was acknowledged.
func (c *cabinet) open(t *testing.T) *plant.Plant {
	t.Helper()
	c.epoch++
	p, e := plant.Open(c.d, example, c.epoch)
	if e == power {
		return nil
	}
	if e != ok {
		t.Fatal(e)
	}
	log := p.Log()
	if !begins(log, c.acked) || len(log) > len(c.acked)+c.pending {
		t.Fatalf("%q, not %q", log, c.acked)
	}
	c.acked, c.pending = log, 0
	return p
}

// disturb lets a disk lose its power, now or soon, or come back, keeping anything.
func (c *cabinet) disturb(r *rand.Rand) {
	d := c.d[r.Intn(3)]
	switch r.Intn(4) {
	case 0:
		d.Off()
	case 1:
		d.Fuse(r.Intn(8))
	default:
		d.Crash(r.Intn(30) - 1)
	}
}

// P10.6: drawn plants that follow each other, while disks lose their power and
// come back at any time: a later one has all lines of those before.
func TestDrawnPlants(t *testing.T) {
	r := rand.New(rand.NewSource(4))
	opened, acked := 0, 0
	for range 1500 {
		c := &cabinet{d: made(t, 1000)}
		var p *plant.Plant
		for k := range 40 {
			switch n := r.Intn(10); {
			case n < 4:
				c.disturb(r)
			case n < 6 || p == nil:
				if p = c.open(t); p != nil {
					opened++
				}
			default:
				s := fmt.Sprint("grower ", string(rune('a'+k%26)), string(rune('a'+k/26)))
				_, e := p.Do(s)
				switch e {
				case ok:
					c.acked = append(c.acked, s)
					acked++
				case power:
					c.pending = 1
				case api.ErrState, api.ErrFull:
				default:
					t.Fatal(s, e)
				}
			}
		}
	}
	if opened < 2500 || acked < 2500 {
		t.Error(opened, acked)
	}
}

// P10.6: a disk that was off for Open is not used by that plant, also if it comes
// back: else two of them could acknowledge a line that the other two lack.
func TestLateDisk(t *testing.T) {
	for late := range 3 {
		d := made(t, 1000)
		mustDo(t, mustOpen(t, d, example, 1), "grower ann")
		d[late].Off()
		p := mustOpen(t, d, example, 2)
		mustDo(t, p, "grower bob")
		d[late].Crash(0)
		mustDo(t, p, "grower cy")
		if got := held(t, d[late]); got != "1 1 \n1 2 grower ann\n" {
			t.Errorf("%q", got)
		}
		d[(late+1)%3].Off()
		takes(t, p, step{"grower dan", "", power}, step{"grower dan", "", state})
		if got := held(t, d[late]); got != "1 1 \n1 2 grower ann\n" {
			t.Errorf("%q", got)
		}
	}
}
