package plant

import (
	"bytes"
	"cmp"
	"slices"
	"sync"

	"massecuite/api"
)

// found is what is on a disk that is present.
type found struct {
	place int // among the disks
	disk  *Disk
	bytes []byte
	log   log
}

// areDisks reports whether d are three different disks.
func areDisks(d [3]*Disk) bool {
	return d[0].isMade() && d[1].isMade() && d[2].isMade() && d[0] != d[1] && d[0] != d[2] && d[1] != d[2]
}

// examine returns what is on the disks that are present, in their order.
func examine(d [3]*Disk) []found {
	results := make(chan found, len(d))
	var readers sync.WaitGroup
	for place := range d {
		readers.Add(1)
		go func() {
			defer readers.Done()
			if b, e := d[place].Read(); e == api.OK {
				results <- found{place, d[place], b, readLog(b)}
			}
		}()
	}
	readers.Wait()
	close(results)
	var out []found
	for f := range results {
		out = append(out, f)
	}
	// The disks were read in any order.
	slices.SortFunc(out, func(f, g found) int { return cmp.Compare(f.place, g.place) })
	return out
}

// bestOf returns the disk with the best log; MaxFunc takes the first of equal ones.
func bestOf(present []found) found {
	return slices.MaxFunc(present, func(f, g found) int {
		return cmp.Or(cmp.Compare(f.log.epoch(), g.log.epoch()), cmp.Compare(len(f.log), len(g.log)))
	})
}

// repair writes the best log with a mark behind it on all disks, and returns
// those on which that succeeds.
func repair(present []found, best found, mark []byte) []*Disk {
	want := best.bytes[:best.log.size()]
	var out []*Disk
	for _, f := range present {
		if f.becomes(want, best.log, mark) {
			out = append(out, f.disk)
		}
	}
	return out
}

// becomes cuts off what is not of the best log, appends what lacks of its bytes,
// and the mark, and reports whether the disk did all of it.
func (f found) becomes(want []byte, best log, mark []byte) bool {
	has := len(f.bytes)
	if !bytes.HasPrefix(want, f.bytes) {
		has = f.log.common(best).size()
		if f.disk.Cut(has) != api.OK {
			return false
		}
	}
	return f.disk.save(slices.Concat(want[has:], mark))
}

// isMade reports whether Open made p.
func (p *Plant) isMade() bool { return p != nil && p.made == p }

// isClosed reports whether too few disks are left.
func (p *Plant) isClosed() bool { return len(p.disks) < leastDisks }

// replay executes the lines of the log; those that have an error were written by
// plants of other factories, or by nobody.
func (p *Plant) replay() {
	for _, line := range p.lines {
		if after, _, e := p.state.change(line); e == api.OK {
			p.state = after
		}
	}
}

// write writes a line as the next record to the disks, and reports whether enough
// of them have it.
func (p *Plant) write(line string) bool {
	p.index++
	b := recordBytes(p.epoch, p.index, line)
	var left []*Disk
	for _, d := range p.disks {
		if d.save(b) {
			left = append(left, d)
		}
	}
	p.disks = left
	return !p.isClosed()
}
