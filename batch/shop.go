package batch

import "massecuite/api"

// in reports whether x is from low to high.
func in(x, low, high int) bool {
	return low <= x && x <= high
}

// valid reports whether s is a shop.
func (s Shop) valid() bool {
	if !in(s.Machines, 1, maxMachines) || !in(len(s.Jobs), 1, api.MaxJobs) {
		return false
	}
	for _, job := range s.Jobs {
		if !s.isJob(job) {
			return false
		}
	}
	return s.size() <= maxOps
}

// isJob reports whether these are the operations of a job.
func (s Shop) isJob(job []Op) bool {
	if !in(len(job), 1, maxLong) {
		return false
	}
	used := [maxMachines]bool{}
	for _, op := range job {
		if !in(op.Machine, 0, s.Machines-1) || !in(op.Time, 1, maxTime) || used[op.Machine] {
			return false
		}
		used[op.Machine] = true
	}
	return true
}

// size returns the number of operations.
func (s Shop) size() int {
	n := 0
	for _, job := range s.Jobs {
		n += len(job)
	}
	return n
}

// graph returns the operations of a valid shop with the jobs' orders.
func (s Shop) graph() graph {
	g := graph{machines: make([][]int, s.Machines)}
	for _, job := range s.Jobs {
		for k, op := range job {
			n := len(g.ops)
			if k > 0 {
				g.arcs = append(g.arcs, arc{n - 1, n})
			}
			g.ops = append(g.ops, op)
			g.machines[op.Machine] = append(g.machines[op.Machine], n)
		}
	}
	return g
}

// scheduled returns the graph of an order of a shop, and when its operations
// start.
func scheduled(s Shop, order [][]int) (graph, []int, api.Errno) {
	if !s.valid() {
		return graph{}, nil, api.ErrArg
	}
	g, ok := s.graph().ordered(order)
	if !ok {
		return graph{}, nil, api.ErrForm
	}
	starts, ok := g.heads()
	if !ok {
		return graph{}, nil, api.ErrLoop
	}
	return g, starts, api.OK
}
