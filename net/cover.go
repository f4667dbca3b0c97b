package net

import (
	"slices"

	"massecuite/api"
)

// tree is the coverability tree of a net, as far as it has grown.
type tree struct {
	net   system
	nodes []tokens // the markings of all nodes
	way   []tokens // those from the root to the node whose children are grown
}

// covered returns n and the greatest markings of its coverability tree: ErrArg
// if it is not valid, ErrSize if the tree has too many nodes.
func covered(n Net) (system, []tokens, api.Errno) {
	if !Valid(n) {
		return system{}, nil, api.ErrArg
	}
	c := tree{net: systemOf(n)}
	if !c.grow(c.net.start) {
		return system{}, nil, api.ErrSize
	}
	return c.net, greatest(c.nodes), api.OK
}

// grow adds a node with the marking m, and all that is below it, at the end of
// the way, and reports whether the tree has no more than MaxNodes nodes then.
func (c *tree) grow(m tokens) bool {
	if len(c.nodes) == api.MaxNodes {
		return false
	}
	c.nodes = append(c.nodes, m)
	if slices.Contains(c.way, m) {
		return true
	}
	c.way = append(c.way, m)
	for _, child := range c.net.firings(m) {
		if !c.grow(c.raised(child)) {
			return false
		}
	}
	c.way = c.way[:len(c.way)-1]
	return true
}

// raised returns m with Many at the places that grow without bound if what led
// from a marking on the way to m is repeated. Each marking is held against
// what those before it made of m.
func (c *tree) raised(m tokens) tokens {
	for _, before := range c.way {
		if !before.atMost(m) {
			continue
		}
		for p := range m {
			if m[p] > before[p] {
				m[p] = api.Many
			}
		}
	}
	return m
}

// greatest returns the markings that are at most no other one, each once.
func greatest(markings []tokens) []tokens {
	var out []tokens
	for _, m := range markings {
		if slices.ContainsFunc(out, m.atMost) {
			continue
		}
		out = slices.DeleteFunc(out, func(less tokens) bool { return less.atMost(m) })
		out = append(out, m)
	}
	return out
}
