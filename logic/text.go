package logic

import (
	"strings"

	"massecuite/api"
)

// allOps are the Ops of formulas.
const allOps = "true a b c d e f ! EX EF EG AX AF AG & | EU AU"

// spelling returns the texts between which the Kids of a formula with this Op
// are written, one more than Kids; none for an unknown Op.
func spelling(op string) []string {
	switch op {
	case "true", "a", "b", "c", "d", "e", "f":
		return []string{op}
	case "!":
		return []string{"!", ""}
	case "EX", "EF", "EG", "AX", "AF", "AG":
		return []string{op + " ", ""}
	case "&", "|":
		return []string{"(", " " + op + " ", ")"}
	case "EU":
		return []string{"E[", " U ", "]"}
	case "AU":
		return []string{"A[", " U ", "]"}
	}
	return nil
}

// isFormula reports whether f is a formula.
func isFormula(f Formula) bool {
	left := maxNodes
	return f.fits(maxDeep, &left)
}

// fits reports whether f is a formula that is at most this deep, and whose nodes
// are no more than are left; it takes them off. Where the Kids of a formula are
// its own, it is the limits that bring this to an end.
func (f Formula) fits(deep int, left *int) bool {
	if deep == 0 || *left == 0 || len(f.Kids) != len(spelling(f.Op))-1 {
		return false
	}
	*left--
	for _, kid := range f.Kids {
		if !kid.fits(deep-1, left) {
			return false
		}
	}
	return true
}

// write adds f to a text.
func (f Formula) write(out *strings.Builder) {
	texts := spelling(f.Op)
	out.WriteString(texts[0])
	for k, kid := range f.Kids {
		kid.write(out)
		out.WriteString(texts[k+1])
	}
}

// reader reads formulas from the front of a text. It panics where there is none.
type reader struct {
	rest  string
	nodes int // of all formulas read so far
}

// formula reads a formula that is a node at this depth.
func (r *reader) formula(deep int) Formula {
	r.nodes++
	if r.nodes > maxNodes || deep > maxDeep {
		panic(api.ErrForm)
	}
	// Some Ops begin alike, and only what follows their first Kid tells which of
	// them it is.
	ops := r.skip(strings.Fields(allOps), 0)
	var kids []Formula
	for k := 1; k < len(spelling(ops[0])); k++ {
		kids = append(kids, r.formula(deep+1))
		ops = r.skip(ops, k)
	}
	return Formula{Op: ops[0], Kids: kids}
}

// skip reads text k of the spelling of an Op, and returns those of the Ops that
// have it there: no such text is the beginning of another one.
func (r *reader) skip(ops []string, k int) []string {
	var fitting []string
	var text string
	for _, op := range ops {
		if t := spelling(op)[k]; strings.HasPrefix(r.rest, t) {
			fitting = append(fitting, op)
			text = t
		}
	}
	if len(fitting) == 0 {
		panic(api.ErrForm)
	}
	r.rest = r.rest[len(text):]
	return fitting
}

// end panics unless all is read.
func (r *reader) end() {
	if r.rest != "" {
		panic(api.ErrForm)
	}
}
