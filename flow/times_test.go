package flow_test

import (
	"math"
	"math/rand"
	"slices"
	"testing"

	"massecuite/api"
	"massecuite/flow"
)

func checkExpand(t *testing.T, g flow.Graph, want []string, err api.Errno) {
	t.Helper()
	l, e := flow.Expand(g)
	ok := len(l) == len(want) && e == err
	for i := range l {
		ok = ok && slices.Equal(l[i][:], row(want[i]))
	}
	if !ok {
		t.Error("Expand", g, l, e)
	}
}

func checkStarts(t *testing.T, g flow.Graph, times string, periods int, want []string, err api.Errno) {
	t.Helper()
	l, e := flow.Starts(g, row(times), periods)
	ok := len(l) == len(want) && e == err
	for i := range l {
		ok = ok && slices.Equal(l[i], row(want[i]))
	}
	if !ok {
		t.Error("Starts", g, times, periods, l, e)
	}
}

// P3.5: the dependencies of all samples, by queues of loads.
func TestExpand(t *testing.T) {
	tried := 0
	for _, x := range known() {
		var want [][3]int
		err := x.err
		if err == api.OK && sum(x.r) > 12 {
			err = api.ErrSize
		}
		if err == api.OK {
			want = expanded(x.g, x.r)
			tried++
		}
		if l, e := flow.Expand(x.g); !slices.Equal(l, want) || e != err {
			t.Error(x.g, l, e, "not", want, err)
		}
	}
	if tried < 500 {
		t.Error("few samples", tried)
	}
}

// P3.5: stock of many periods, loads of one firing taken by several and the
// other way round, links side by side, and graphs that have no schedule.
func TestExpandEdges(t *testing.T) {
	checkExpand(t, of(6), nil, api.OK)
	checkExpand(t, of(1, "0 0 1 1 0"), []string{"0 0 0"}, api.OK)
	checkExpand(t, of(1, "0 0 1 1 20"), []string{"0 0 20"}, api.OK)
	checkExpand(t, of(1, "0 0 6 6 20"), []string{"0 0 3", "0 0 4"}, api.OK)
	checkExpand(t, of(1, "0 0 6 6 18"), []string{"0 0 3"}, api.OK)
	checkExpand(t, ring, []string{"0 1 0", "1 0 0"}, api.OK)
	checkExpand(t, two, []string{"0 3 0", "1 3 0", "1 4 0", "2 4 0"}, api.OK)
	checkExpand(t, of(2, "0 1 2 3 1"), []string{"0 3 0", "1 4 0", "2 3 1", "2 4 0"}, api.OK)
	checkExpand(t, of(2, "0 1 2 3 20"), []string{"0 3 3", "0 4 3", "1 4 3", "2 3 4"}, api.OK)
	checkExpand(t, of(2, "0 1 1 1 0", "0 1 1 1 0", "0 1 2 2 1"), []string{"0 1 0", "0 1 1"}, api.OK)
	checkExpand(t, of(3, "2 0 1 1 2", "0 2 1 1 0", "1 0 1 1 0"), []string{"0 2 0", "1 0 0", "2 0 2"}, api.OK)
	checkExpand(t, firings13, nil, api.ErrSize)
	checkRepeat(t, firings12, "1 5 2 2 1 1", api.OK)
	checkRepeat(t, firings13, "1 5 3 2 1 1", api.OK)
	if l, e := flow.Expand(firings12); len(l) == 0 || e != api.OK {
		t.Error(l, e)
	}
	if l, e := flow.Expand(of(6, "0 1 6 1 0", "1 0 1 6 0")); len(l) != 12 || e != api.OK {
		t.Error(l, e)
	}
}

// P3.6: the beginnings of the firings of all samples that have schedules, by
// moving them until none is too early; and P3.11: those of a later period do
// not begin earlier.
func TestStarts(t *testing.T) {
	r := rand.New(rand.NewSource(5))
	for _, x := range known() {
		times := make([]int, x.g.N)
		for a := range times {
			times[a] = r.Intn(4) * r.Intn(34)
		}
		periods := 1 + r.Intn(6)
		err := x.err
		var want [][]int
		switch {
		case err != api.OK:
		case !x.runs:
			err = api.ErrLoop
		case sum(x.r)*periods > 400:
			err = api.ErrSize
		default:
			want = begun(x.g, x.r, times, periods)
		}
		l, e := flow.Starts(x.g, times, periods)
		if !slices.EqualFunc(l, want, slices.Equal[[]int]) || e != err {
			t.Error(x.g, times, periods, l, e, "not", want, err)
		}
		checkLater(t, x, l)
	}
}

// checkLater tests P3.11 for the beginnings of firings.
func checkLater(t *testing.T, x sample, starts [][]int) {
	for a, list := range starts {
		for k := x.r[a]; k < len(list); k++ {
			if list[k] < list[k-x.r[a]] {
				t.Error("earlier in a later period", x.g, starts)
			}
		}
	}
}

// P3.11: with all lengths of periods and of firings, also none.
func TestLaterPeriods(t *testing.T) {
	for i, x := range scheduled() {
		for _, length := range []int{0, 1, 100} {
			times := slices.Repeat([]int{length}, x.g.N)
			times[i%x.g.N] = 100 - length
			periods := min(20, 400/len(x.s))
			l, e := flow.Starts(x.g, times, periods)
			if e != api.OK {
				t.Error(x.g, e)
				continue
			}
			for a, list := range l {
				if len(list) != x.r[a]*periods || list[0] < 0 {
					t.Error(x.g, l)
				}
			}
			checkLater(t, x, l)
		}
	}
}

// P3.6: firings of one actor begin together and overlap, unless a link to
// itself keeps them apart; stock delays nothing; and the last of the loads that
// a firing takes is the one that it waits for.
func TestStartsEdges(t *testing.T) {
	checkStarts(t, of(1), "100", 3, []string{"0 0 0"}, api.OK)
	checkStarts(t, of(1, "0 0 1 1 1"), "100", 3, []string{"0 100 200"}, api.OK)
	checkStarts(t, of(1, "0 0 1 1 2"), "7", 5, []string{"0 0 7 7 14"}, api.OK)
	checkStarts(t, of(1, "0 0 2 2 3"), "7", 3, []string{"0 7 14"}, api.OK)
	checkStarts(t, two, "5 1", 1, []string{"0 0 0", "5 5"}, api.OK)
	checkStarts(t, of(2, "0 1 2 3 0", "0 0 1 1 1"), "5 1", 2, []string{"0 5 10 15 20 25", "10 15 25 30"}, api.OK)
	checkStarts(t, of(2, "0 1 2 3 3", "0 0 1 1 1"), "5 1", 2, []string{"0 5 10 15 20 25", "0 10 15 25"}, api.OK)
	checkStarts(t, of(2, "0 1 1 1 1"), "9 0", 3, []string{"0 0 0", "0 9 9"}, api.OK)
	checkStarts(t, of(2, "1 0 1 1 0"), "0 0", 2, []string{"0 0", "0 0"}, api.OK)
	// Actor 0 waits for actor 1 at first, and for actor 2 later.
	checkStarts(t, of(3, "2 0 1 1 0", "2 2 1 1 1", "1 0 1 1 0"), "1 50 20", 3,
		[]string{"50 50 60", "0 0 0", "0 20 40"}, api.OK)
}

// P3.6: 400 firings are not too many, 403 and 420 are; the same for the numbers
// of periods and the times.
func TestStartsSize(t *testing.T) {
	checkRepeat(t, firings20, "1 6 4 4 2 3", api.OK)
	checkRepeat(t, firings31, "1 6 6 6 6 6", api.OK)
	checkRepeat(t, firings21, "1 6 6 6 1 1", api.OK)
	six := "1 2 3 4 5 6"
	if l, e := flow.Starts(firings20, row(six), 20); e != api.OK || !slices.EqualFunc(l, begun(firings20, row("1 6 4 4 2 3"), row(six), 20), slices.Equal[[]int]) {
		t.Error(l, e)
	}
	if l, e := flow.Starts(firings31, row(six), 12); len(l) != 6 || e != api.OK {
		t.Error(l, e)
	}
	checkStarts(t, firings31, six, 13, nil, api.ErrSize)
	checkStarts(t, firings21, six, 20, nil, api.ErrSize)
	if l, e := flow.Starts(firings21, row(six), 19); len(l) != 6 || e != api.OK {
		t.Error(l, e)
	}
	checkStarts(t, firings60, six, 7, nil, api.ErrSize)
	for _, n := range []int{0, -1, 21, math.MaxInt, math.MinInt, 1 << 58} {
		checkStarts(t, two, "1 1", n, nil, api.ErrArg)
	}
	for _, x := range []int{-1, 101, math.MaxInt, math.MinInt} {
		for a := range 2 {
			times := []int{100, 0}
			times[a] = x
			if l, e := flow.Starts(two, times, 20); len(l) > 0 || e != api.ErrArg {
				t.Error(times, l, e)
			}
		}
	}
	for _, times := range []string{"", "1", "1 1 1", "1 1 1 1 1 1 1"} {
		checkStarts(t, two, times, 1, nil, api.ErrArg)
	}
	if l, e := flow.Starts(two, []int{100, 0}, 20); len(l) != 2 || e != api.OK {
		t.Error(l, e)
	}
}
