package lattice

// smith returns the Smith list of a, and the matrices that make it.
//
// Adding small multiples of later rows to earlier ones is enough to bring the
// Smith list into the diagonal of the column form; then the column form is a
// triangle with ones in its diagonal times the Smith form, and dividing that
// triangle out gives u. Its elements are less than quotients of the list, so
// that u remains small, which it would not if rows and columns were exchanged
// and subtracted until all is divided.
func smith(a [][]int) (d []int, u, v [][]int) {
	m, n := len(a), len(a[0])
	rows, idle := fullRows(a)
	for i := range rows {
		rows = sheared(rows, i, n)
	}
	form := columnForm(rows, n)
	r := len(rows)
	d = make([]int, min(m, n))
	u = make([][]int, r, m)
	for k := range r {
		d[k] = form[k][k]
		u[k] = rows[k][n:]
		for i := range k {
			u[k] = combined(1, u[k], -form[i][k]/d[i], u[i])
		}
	}
	u = append(columns(u, 0, m), idle...)
	v = transposed(columns(form, r, r+n), n)
	return d, u, v
}

// fullRows returns independent rows that span the same lattice as the rows of
// a, each with the multipliers of a's rows that make it beside it, and the
// multipliers that make zero.
func fullRows(a [][]int) (rows, idle [][]int) {
	h, u := hermite(a)
	r := len(h)
	for r > 0 && lead(h[r-1]) == len(a[0]) {
		r--
	}
	if r == len(a) {
		// The rows of a serve as they are, with the least multipliers.
		return joined(a, identity(r)), nil
	}
	return joined(h[:r], u[:r]), u[r:]
}

// sheared returns rows with small multiples of the rows after the one at the
// given index added to it, so that the diagonal of the column form of the
// first n columns has the element of the Smith list there.
//
// Such multiples exist: for each prime number, those that do not serve lie in
// a part of all residues that is not all of them, for all but finitely many
// prime numbers there are none, and different prime numbers are independent.
func sheared(rows [][]int, at, n int) [][]int {
	free := len(rows) - at - 1
	for base := 1; ; base++ {
		for code := range power(base, free) {
			trial := withMultiples(rows, at, base, code)
			if divides(columnForm(trial, n), at, len(rows)) {
				return trial
			}
		}
	}
}

// withMultiples returns rows with the digits of code, in the given base, as
// multiples of the later rows added to the one at the index.
func withMultiples(rows [][]int, at, base, code int) [][]int {
	sum := rows[at]
	for _, later := range rows[at+1:] {
		sum = combined(1, sum, code%base, later)
		code /= base
	}
	out := append([][]int{}, rows...)
	out[at] = sum
	return out
}

// divides reports whether the element at the given place of the diagonal of a
// column form with r rows divides all elements right of and below it. Each row
// of form begins with a column of that form.
func divides(form [][]int, at, r int) bool {
	for _, column := range form[at:r] {
		for _, x := range column[at:r] {
			if x%form[at][at] != 0 {
				return false
			}
		}
	}
	return true
}

// power returns x to the k.
func power(x, k int) int {
	out := 1
	for range k {
		out *= x
	}
	return out
}

// isSmith reports whether d is a Smith list.
func isSmith(d []int) bool {
	for i, x := range d {
		if x < 0 {
			return false
		}
		if i == 0 || x == 0 {
			continue
		}
		if d[i-1] == 0 || x%d[i-1] != 0 {
			return false
		}
	}
	return true
}
