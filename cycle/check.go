package cycle

import "massecuite/api"

// isMean reports whether nodes are a cycle of a with the mean m.
func isMean(a [][]int, nodes []int, m fraction) bool {
	weight, met := 0, 0
	for k, from := range nodes {
		to := nodes[(k+1)%len(nodes)]
		if !within(from, 0, len(a)-1) || !within(to, 0, len(a)-1) || met>>from&1 == 1 || a[from][to] == api.Never {
			return false
		}
		met |= 1 << from
		weight += a[from][to]
	}
	return len(nodes) > 0 && weight*m.den == m.num*len(nodes)
}

// isPotential reports whether v is a potential of a for m.
func isPotential(a [][]int, v []int, m fraction) bool {
	if len(v) != len(a) {
		return false
	}
	for _, x := range v {
		if !within(x, -maxWide, maxWide) {
			return false
		}
	}
	for i, row := range a {
		for j, x := range row {
			if x != api.Never && m.den*x+v[j] > m.num+v[i] {
				return false
			}
		}
	}
	return true
}
