package lattice

// basis returns the lattice basis of what rows span.
//
// Each row is added to a basis that is a Hermite form already, and is kept
// reduced by it. So nothing comes near the limits of an int: up to small
// factors the elements are bounded by the minors of rows, and the products on
// the way by their squares; the minors of a valid matrix are below 2^22.
func basis(rows [][]int) [][]int {
	var out [][]int
	for _, row := range rows {
		out = added(out, row)
	}
	return out
}

// added returns the lattice basis of what rows, a lattice basis, and w span.
func added(rows [][]int, w []int) [][]int {
	w = reduced(w, rows)
	at := lead(w)
	if at == len(w) {
		return rows
	}
	if len(rows) == 0 || at < lead(rows[0]) {
		if w[at] < 0 {
			w = combined(-1, w, 0, w)
		}
		return above(w, rows)
	}
	top := rows[0]
	c := lead(top)
	if w[c] != 0 {
		g, s, t := bezout(top[c], w[c])
		rest := combined(top[c]/g, w, -w[c]/g, top)
		top = combined(s, top, t, w)
		w = rest
	}
	return above(top, added(rows[1:], w))
}

// above returns a lattice basis with top, reduced by rows, as its first row.
func above(top []int, rows [][]int) [][]int {
	return append([][]int{reduced(top, rows)}, rows...)
}

// reduced returns what is left of w after it is reduced by a lattice basis.
func reduced(w []int, rows [][]int) []int {
	for _, row := range rows {
		c := lead(row)
		if q := floor(w[c], row[c]); q != 0 {
			w = combined(1, w, -q, row)
		}
	}
	return w
}

// hermite returns the Hermite form h of a, and a unimodular u with u·a = h.
func hermite(a [][]int) (h, u [][]int) {
	m, n := len(a), len(a[0])
	// The unit matrix beside a records the operations on its rows, and its
	// columns keep the multipliers reduced where a leaves them free.
	rows := basis(joined(a, identity(m)))
	return columns(rows, 0, n), columns(rows, n, n+m)
}

// columnForm returns the lattice basis of all a·x beside x, for the first n
// columns of a and whole x with n elements: the rows whose a·x is zero come
// last and have the kernel of a.
func columnForm(a [][]int, n int) [][]int {
	return basis(joined(transposed(a, n), identity(n)))
}

// isHermite reports whether h is a Hermite form.
func isHermite(h [][]int) bool {
	n := len(h[0])
	last := -1
	for i, row := range h {
		c := lead(row)
		if c == n {
			last = n
			continue
		}
		if c <= last || row[c] < 0 {
			return false
		}
		for _, upper := range h[:i] {
			if upper[c] < 0 || upper[c] >= row[c] {
				return false
			}
		}
		last = c
	}
	return true
}
