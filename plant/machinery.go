package plant

import (
	"slices"

	"massecuite/api"
	"massecuite/net"
	"massecuite/scan"
)

// machinery is a factory that is valid: its net, and its controller as a machine.
type machinery struct {
	net        net.Net
	controller scan.Machine
	probes     []scan.Machine // for each register the controller with it as the only output
}

// build returns the machinery of a factory, unless it is not valid.
func build(f Factory) (*machinery, bool) {
	// Extract is OK for all programs that are valid and causal.
	m, e := scan.Extract(f.Program)
	if !net.Valid(f.Net) || e != api.OK {
		return nil, false
	}
	return &machinery{copyOf(f.Net), m, probesOf(f.Program)}, true
}

// probesOf returns for each register the machine of p with it as the only output.
// Their states are numbered as those of the machine of p, since what is put out
// does not change which values of the registers come after which.
func probesOf(p scan.Program) []scan.Machine {
	var out []scan.Machine
	for _, line := range p.Lines {
		if line.Init >= 0 {
			p.Outputs = []string{line.Name}
			m, _ := scan.Extract(p)
			out = append(out, m)
		}
	}
	return out
}

// copyOf returns a net that shares no memory with n.
func copyOf(n net.Net) net.Net {
	return net.Net{Pre: copyRows(n.Pre), Post: copyRows(n.Post), Start: slices.Clone(n.Start)}
}

// copyRows returns rows that share no memory with the given ones.
func copyRows(rows [][]int) [][]int {
	var out [][]int
	for _, row := range rows {
		out = append(out, slices.Clone(row))
	}
	return out
}

// start returns the state at first.
func (m *machinery) start() state { return state{machinery: m, marking: m.net.Start} }
