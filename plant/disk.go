package plant

import "massecuite/api"

// in reports whether x is from low to high.
func in(x, low, high int) bool { return low <= x && x <= high }

// isMade reports whether NewDisk made d.
func (d *Disk) isMade() bool { return d != nil && d.made == d }

// powered reports whether the power is on for an operation, which counts for the
// fuse.
func (d *Disk) powered() bool {
	if d.fuse == 0 {
		d.off = true
	}
	if d.off {
		return false
	}
	if d.fuse > 0 {
		d.fuse--
	}
	return true
}

// keep leaves only the first n bytes, all of them safe.
func (d *Disk) keep(n int) {
	d.bytes = d.bytes[:n]
	d.safe = n
}

// save appends bytes and makes them safe, and reports whether the disk did both.
func (d *Disk) save(b []byte) bool { return d.Append(b) == api.OK && d.Sync() == api.OK }
