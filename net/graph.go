package net

import (
	"slices"

	"massecuite/api"
)

// graph is the reachable markings of a net and the firings between them. The
// nodes stand in the order in which they are found, that of their first
// shortest words: of shorter words before longer ones, of words of the same
// length in their order, since a node's arcs are followed in the order of the
// transitions.
type graph struct {
	nodes []tokens
	index map[tokens]int // where in nodes a marking stands
	found []arc          // how each node was found: from which node, none for the first
	next  [][]arc        // the firings at each node: to which nodes
}

// arc is a transition, and the node on the other side of it.
type arc struct{ by, node int }

// explored returns n and the graph of it: ErrArg if it is not valid, ErrSize
// if it has too many reachable markings.
func explored(n Net) (system, graph, api.Errno) {
	if !Valid(n) {
		return system{}, graph{}, api.ErrArg
	}
	s := systemOf(n)
	g, ok := explore(s)
	if !ok {
		return system{}, graph{}, api.ErrSize
	}
	return s, g, api.OK
}

// explore returns the graph of s, unless it has more than MaxNodes nodes.
func explore(s system) (graph, bool) {
	g := graph{index: map[tokens]int{}}
	g.place(s.start, arc{})
	for at := 0; at < len(g.nodes); at++ {
		for t, m := range s.firings(g.nodes[at]) {
			to := g.place(m, arc{t, at})
			if len(g.nodes) > api.MaxNodes {
				return graph{}, false
			}
			g.next[at] = append(g.next[at], arc{t, to})
		}
	}
	return g, true
}

// place returns the node of m, which is a new one if m was not found before.
func (g *graph) place(m tokens, found arc) int {
	if node, ok := g.index[m]; ok {
		return node
	}
	node := len(g.nodes)
	g.index[m] = node
	g.nodes = append(g.nodes, m)
	g.found = append(g.found, found)
	g.next = append(g.next, nil)
	return node
}

// dead returns the markings at which nothing is enabled.
func (g graph) dead() []tokens {
	var out []tokens
	for node, m := range g.nodes {
		if len(g.next[node]) == 0 {
			out = append(out, m)
		}
	}
	return out
}

// word returns the transitions by which a node was found from the first one.
func (g graph) word(node int) []int {
	var out []int
	for node != 0 {
		out = append(out, g.found[node].by)
		node = g.found[node].node
	}
	slices.Reverse(out)
	return out
}

// fireable returns for each node the set of the transitions that can fire at
// it or later.
func (g graph) fireable() []int {
	sets := make([]int, len(g.nodes))
	for changed := true; changed; {
		changed = false
		// Most arcs lead to later nodes, so that from the last node on one
		// sweep settles most sets.
		for node := len(sets) - 1; node >= 0; node-- {
			set := sets[node]
			for _, a := range g.next[node] {
				set |= 1<<a.by | sets[a.node]
			}
			if set != sets[node] {
				sets[node] = set
				changed = true
			}
		}
	}
	return sets
}
