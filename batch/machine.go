package batch

import (
	"cmp"
	"container/heap"
	"slices"
)

// task is what one machine has to do: from its head on, and such that its tail
// can follow.
type task struct{ head, time, tail int }

// read returns the tasks of three slices; false if they are not valid.
func read(heads, times, tails []int) ([]task, bool) {
	n := len(heads)
	if !in(n, 1, maxTasks) || len(times) != n || len(tails) != n {
		return nil, false
	}
	tasks := make([]task, n)
	for k := range tasks {
		if !in(heads[k], 0, maxWait) || !in(times[k], 1, maxWork) || !in(tails[k], 0, maxWait) {
			return nil, false
		}
		tasks[k] = task{heads[k], times[k], tails[k]}
	}
	return tasks, true
}

// waiting is a task whose head has come, with its number and the time that is
// left to work at it.
type waiting struct {
	task
	number, left int
}

// queue is a heap of waiting tasks: the one to be worked at is the first.
type queue []waiting

func (q queue) Len() int      { return len(q) }
func (q queue) Swap(i, j int) { q[i], q[j] = q[j], q[i] }
func (q *queue) Push(x any)   { *q = append(*q, x.(waiting)) }

func (q queue) Less(i, j int) bool {
	return cmp.Or(cmp.Compare(q[j].tail, q[i].tail), cmp.Compare(q[i].number, q[j].number)) < 0
}

func (q *queue) Pop() any {
	last := len(*q) - 1
	w := (*q)[last]
	*q = (*q)[:last]
	return w
}

// jackson returns the bound of Jackson's schedule.
func jackson(tasks []task) int {
	var coming, ready queue
	for k, t := range tasks {
		coming = append(coming, waiting{t, k, t.time})
	}
	slices.SortFunc(coming, func(x, y waiting) int { return cmp.Compare(x.head, y.head) })
	now, most := 0, 0
	for len(coming)+len(ready) > 0 {
		if len(ready) == 0 {
			now = max(now, coming[0].head)
		}
		for len(coming) > 0 && coming[0].head <= now {
			heap.Push(&ready, coming[0])
			coming = coming[1:]
		}
		w := heap.Pop(&ready).(waiting)
		end := now + w.left
		if len(coming) > 0 {
			// The task that comes next may be one to be worked at before w.
			end = min(end, coming[0].head)
		}
		w.left -= end - now
		now = end
		if w.left > 0 {
			heap.Push(&ready, w)
		} else {
			most = max(most, now+w.tail)
		}
	}
	return most
}

// bound returns the bound of a set of tasks, which is not empty.
func bound(tasks []task, set []int) int {
	first := tasks[set[0]]
	head, sum, tail := first.head, 0, first.tail
	for _, k := range set {
		head = min(head, tasks[k].head)
		sum += tasks[k].time
		tail = min(tail, tasks[k].tail)
	}
	return head + sum + tail
}

// group returns the set with the greatest bound, of several the one with the
// fewest elements, of those the first, and the bound; none and 0 without tasks.
func group(tasks []task) ([]int, int) {
	var best []int
	most := 0
	for bits := 1; bits < 1<<len(tasks); bits++ {
		set := elements(bits)
		b := bound(tasks, set)
		if b > most || b == most && earlier(set, best) {
			best, most = set, b
		}
	}
	return best, most
}

// elements returns the elements of a set, rising.
func elements(bits int) []int {
	var set []int
	for k := 0; bits>>k > 0; k++ {
		if bits>>k&1 == 1 {
			set = append(set, k)
		}
	}
	return set
}

// earlier reports whether x has fewer elements than y, or as many and is before
// it.
func earlier(x, y []int) bool {
	return cmp.Or(cmp.Compare(len(x), len(y)), slices.Compare(x, y)) < 0
}
