package flow_test

import (
	"math/rand"
	"slices"
	"testing"

	"massecuite/api"
	"massecuite/flow"
)

// The three examples of the chapter.
func TestExamples(t *testing.T) {
	checkRepeat(t, two, "3 2", api.OK)
	checkSchedule(t, two, "0 0 0 1 1", api.OK)
	checkPeaks(t, two, "0 0 0 1 1", "6", api.OK)
	checkPeaks(t, two, "0 0 1 0 1", "4", api.OK)
	checkLeast(t, two, 0, 4, api.OK)
	checkRepeat(t, ring, "1 1", api.OK)
	checkSchedule(t, ring, "", api.ErrLoop)
	checkSchedule(t, turned, "0 1", api.OK)
	checkExpand(t, turned, []string{"0 1 0", "1 0 1"}, api.OK)
	checkStarts(t, turned, "2 3", 2, []string{"0 5", "2 7"}, api.OK)
	checkRepeat(t, apart, "", api.ErrNone)
}

func checkRepeat(t *testing.T, g flow.Graph, want string, err api.Errno) {
	t.Helper()
	if r, e := flow.Repeat(g); !slices.Equal(r, row(want)) || e != err {
		t.Error("Repeat", g, r, e)
	}
}

func checkSchedule(t *testing.T, g flow.Graph, want string, err api.Errno) {
	t.Helper()
	if s, e := flow.Schedule(g); !slices.Equal(s, row(want)) || e != err {
		t.Error("Schedule", g, s, e)
	}
}

func checkPeaks(t *testing.T, g flow.Graph, s, want string, err api.Errno) {
	t.Helper()
	if p, e := flow.Peaks(g, row(s)); !slices.Equal(p, row(want)) || e != err {
		t.Error("Peaks", g, s, p, e)
	}
}

func checkLeast(t *testing.T, g flow.Graph, link, want int, err api.Errno) {
	t.Helper()
	if n, e := flow.Least(g, link); n != want || e != err {
		t.Error("Least", g, link, n, e)
	}
}

// P3.1: the repetition vectors of all samples, by trying.
func TestRepeat(t *testing.T) {
	seen := map[api.Errno]int{}
	for _, x := range known() {
		r, e := flow.Repeat(x.g)
		if !slices.Equal(r, x.r) || e != x.err {
			t.Error(x.g, r, e, "not", x.r, x.err)
		}
		seen[e]++
	}
	if seen[api.OK] < 1000 || seen[api.ErrNone] < 300 || seen[api.ErrSize] < 10 {
		t.Error("samples of too few kinds", seen)
	}
}

// P3.1: parts are counted by themselves, links from an actor to itself are
// balanced or not, and the numbers sum to 60 at most.
func TestRepeatEdges(t *testing.T) {
	checkRepeat(t, of(1), "1", api.OK)
	checkRepeat(t, of(6), "1 1 1 1 1 1", api.OK)
	checkRepeat(t, of(6, "5 1 4 6 0", "4 2 2 2 0"), "1 2 1 1 1 3", api.OK)
	checkRepeat(t, of(4, "2 0 6 4 0", "3 1 6 3 20"), "3 2 2 1", api.OK)
	checkRepeat(t, of(1, "0 0 6 6 0"), "1", api.OK)
	checkRepeat(t, of(1, "0 0 6 5 20"), "", api.ErrNone)
	checkRepeat(t, of(2, "0 1 6 5 20", "1 1 2 1 0"), "", api.ErrNone)
	checkRepeat(t, of(3, "0 1 1 1 0", "1 2 1 1 0", "0 2 1 2 0"), "", api.ErrNone)
	checkRepeat(t, of(3, "0 1 2 1 0", "1 2 3 2 0", "0 2 6 2 0"), "1 2 3", api.OK)
	checkRepeat(t, firings60, "1 6 30 12 6 5", api.OK)
	checkRepeat(t, firings61, "", api.ErrSize)
	checkRepeat(t, of(6, "0 1 6 1 0", "1 2 6 1 0", "2 3 6 1 0", "3 4 6 1 0", "4 5 6 1 0"), "", api.ErrSize)
	checkRepeat(t, full, "2 1 1 2 3 1", api.OK)
}

// P3.2: the first of all schedules, and ErrLoop where there is none.
func TestSchedule(t *testing.T) {
	stuck := 0
	for _, x := range known() {
		s, e := flow.Schedule(x.g)
		want := x.err
		if want == api.OK && !x.runs {
			want = api.ErrLoop
			stuck++
		}
		if !slices.Equal(s, x.s) || e != want {
			t.Error(x.g, s, e, "not", x.s, want)
		}
	}
	if stuck < 100 {
		t.Error("few samples without a schedule", stuck)
	}
}

// P3.2: an actor takes before it puts, so that a link to itself needs stock;
// and every link to it counts.
func TestScheduleEdges(t *testing.T) {
	checkSchedule(t, of(1), "0", api.OK)
	checkSchedule(t, of(6), "0 1 2 3 4 5", api.OK)
	checkSchedule(t, of(1, "0 0 6 6 5"), "", api.ErrLoop)
	checkSchedule(t, of(1, "0 0 6 6 6"), "0", api.OK)
	checkSchedule(t, of(2, "1 0 1 2 1"), "1 0 1", api.OK)
	checkSchedule(t, of(2, "1 0 1 2 0"), "1 1 0", api.OK)
	checkSchedule(t, of(3, "2 0 1 1 0", "1 0 1 1 0"), "1 2 0", api.OK)
	checkSchedule(t, of(3, "2 0 1 1 1", "1 0 1 1 0"), "1 0 2", api.OK)
	checkSchedule(t, of(4, "1 0 1 1 0", "3 2 1 1 0", "2 3 1 1 0"), "", api.ErrLoop)
	checkSchedule(t, stuck61, "", api.ErrSize)
	s, e := flow.Schedule(firings60)
	if len(s) != 60 || e != api.OK {
		t.Error(s, e)
	}
}

// P3.3: the peaks of the first schedule and of others, and ErrArg for what is
// no schedule.
func TestPeaks(t *testing.T) {
	r := rand.New(rand.NewSource(7))
	for _, x := range known() {
		tries := [][]int{nil, x.s, slices.Repeat([]int{0}, len(x.s)), append(slices.Clone(x.s), 0)}
		for range 5 {
			mixed := slices.Clone(x.s)
			r.Shuffle(len(mixed), func(i, j int) { mixed[i], mixed[j] = mixed[j], mixed[i] })
			tries = append(tries, mixed)
		}
		if x.runs {
			tries = append(tries, x.s[1:], x.s[:len(x.s)-1], slices.Concat(x.s, x.s), walked(x, r))
		}
		for _, s := range tries {
			var want []int
			err := x.err
			if err == api.OK {
				peaks, ok := peaked(x.g, s, x.r)
				if want = peaks; !ok {
					want, err = nil, api.ErrArg
				}
			}
			if p, e := flow.Peaks(x.g, s); !slices.Equal(p, want) || e != err {
				t.Error(x.g, s, p, e, "not", want, err)
			}
		}
	}
}

// P3.3: the loads before and after all firings count, those within a firing do
// not; and what is not quite a schedule.
func TestPeaksEdges(t *testing.T) {
	checkPeaks(t, of(1), "0", "", api.OK)
	checkPeaks(t, of(1, "0 0 6 6 20"), "0", "20", api.OK)
	checkPeaks(t, of(2, "1 0 1 1 7"), "0 1", "7", api.OK)
	checkPeaks(t, of(2, "1 0 1 1 7"), "1 0", "8", api.OK)
	checkPeaks(t, of(2, "0 1 6 5 20"), "0 0 0 0 0 1 1 1 1 1 1", "50", api.OK)
	for _, s := range []string{"", "0", "1", "0 0 0 1", "0 0 1 1 0", "1 0 0 0 1", "0 0 0 0 1", "0 0 1 1 1",
		"0 0 0 1 1 0", "0 0 0 1 1 1", "0 0 0 1 1 2", "0 0 0 1 1 -1", "0 0 0 1 2", "-1 0 0 0 1 1",
		"0 0 0 1 -1", "0 0 0 1 9223372036854775807", "-9223372036854775808 0 0 1 1", "0 0 0 1 1 0 0 0 1 1"} {
		checkPeaks(t, two, s, "", api.ErrArg)
	}
	checkPeaks(t, ring, "0 1", "", api.ErrArg)
	checkPeaks(t, ring, "", "", api.ErrArg)
	if p, e := flow.Peaks(two, make([]int, 1<<20)); len(p) > 0 || e != api.ErrArg {
		t.Error(len(p), e)
	}
}

// P3.4 and P3.9: Least is the peak in a schedule, and no schedule has less, as
// a search through all of them shows.
func TestLeast(t *testing.T) {
	for _, x := range known() {
		if !x.runs || vectors(x.g, x.r, 20001) > 20000 {
			continue
		}
		for i := range x.g.Links {
			n, e := flow.Least(x.g, i)
			if e != api.OK {
				t.Error(x.g, i, e)
				continue
			}
			s, ok := bounded(x.g, x.r, i, n)
			if p, e := flow.Peaks(x.g, s); !ok || e != api.OK || p[i] != n {
				t.Error(x.g, i, n, s, p, e)
			}
			if s, ok := bounded(x.g, x.r, i, n-1); ok {
				t.Error(x.g, i, n, "not least", s)
			}
		}
	}
}

// P3.9: Least against each single schedule of short periods.
func TestLeastOfAll(t *testing.T) {
	for _, x := range scheduled() {
		if len(x.g.Links) == 0 || len(x.s) > 7 || vectors(x.g, x.r, 41) > 40 {
			continue
		}
		least := slices.Repeat([]int{1 << 40}, len(x.g.Links))
		var try func(s, left, loads []int)
		try = func(s, left, loads []int) {
			if len(s) == len(x.s) {
				p, e := flow.Peaks(x.g, s)
				if e != api.OK {
					t.Fatal(x.g, s, e)
				}
				for i := range least {
					least[i] = min(least[i], p[i])
				}
			}
			for a := range left {
				if next, ok := fire(x.g, loads, a); ok && left[a] > 0 {
					rest := slices.Clone(left)
					rest[a]--
					try(append(slices.Clone(s), a), rest, next)
				}
			}
		}
		try(nil, x.r, stocks(x.g))
		for i, want := range least {
			checkLeast(t, x.g, i, want, api.OK)
		}
	}
}

// P3.4: 20,000 vectors of firings are not too many, 20,001 are; the empty
// beginning and the whole schedule count as beginnings.
func TestLeastSize(t *testing.T) {
	for _, x := range known() {
		if !x.runs {
			continue
		}
		n := vectors(x.g, x.r, 20001)
		for i := range x.g.Links {
			if _, e := flow.Least(x.g, i); (e == api.ErrSize) != (n > 20000) {
				t.Error(x.g, i, n, e)
			}
		}
	}
	if n := vectors(vectors20000, []int{1, 8, 10, 5, 20}, 1<<20); n != 20000 {
		t.Error(n)
	}
	if n := vectors(vectors20001, []int{15, 18, 15, 10}, 1<<20); n != 20001 {
		t.Error(n)
	}
	checkRepeat(t, vectors20000, "1 8 10 5 20", api.OK)
	checkRepeat(t, vectors20001, "15 18 15 10", api.OK)
	for i := range 3 {
		checkLeast(t, vectors20001, i, 0, api.ErrSize)
		checkLeast(t, vectorsStuck, i, 0, api.ErrLoop)
		if n, e := flow.Least(vectors20000, i); n < vectors20000.Links[i].Stock || e != api.OK {
			t.Error(i, n, e)
		}
	}
}

// P3.4: of a link, whatever happens on the others.
func TestLeastEdges(t *testing.T) {
	checkLeast(t, of(1, "0 0 6 6 20"), 0, 20, api.OK)
	checkLeast(t, of(1, "0 0 1 1 1"), 0, 1, api.OK)
	checkLeast(t, of(2, "1 0 1 1 7"), 0, 7, api.OK)
	checkLeast(t, of(2, "0 1 1 1 0"), 0, 1, api.OK)
	checkLeast(t, of(2, "0 1 6 5 0"), 0, 10, api.OK)
	checkLeast(t, of(2, "0 1 6 5 20"), 0, 20, api.OK)
	// Less on one of two links is more on the other.
	g := of(2, "0 1 1 1 1", "1 0 1 1 1")
	checkLeast(t, g, 0, 1, api.OK)
	checkLeast(t, g, 1, 1, api.OK)
	if p, e := flow.Peaks(g, []int{0, 1}); !slices.Equal(p, []int{2, 1}) || e != api.OK {
		t.Error(p, e)
	}
	for _, i := range []int{-1, 1, 10, 1 << 62, -1 << 63} {
		checkLeast(t, two, i, 0, api.ErrArg)
	}
	checkLeast(t, of(1), 0, 0, api.ErrArg)
}

// P3.7: after a schedule every link has its stock again, so that it can follow
// itself.
func TestBalance(t *testing.T) {
	for _, x := range scheduled() {
		s, _ := flow.Schedule(x.g)
		loads := stocks(x.g)
		for _, a := range slices.Concat(s, s) {
			next, ok := fire(x.g, loads, a)
			if !ok {
				t.Fatal(x.g, s)
			}
			loads = next
		}
		if !slices.Equal(loads, stocks(x.g)) {
			t.Error(x.g, s, loads)
		}
	}
}

// walked returns a schedule that is made by firing any actor that can fire and
// is due, or its beginning where none can.
func walked(x sample, r *rand.Rand) []int {
	var s []int
	left, loads := slices.Clone(x.r), stocks(x.g)
	for {
		var ready []int
		for a := range left {
			if _, ok := fire(x.g, loads, a); ok && left[a] > 0 {
				ready = append(ready, a)
			}
		}
		if len(ready) == 0 {
			return s
		}
		a := ready[r.Intn(len(ready))]
		left[a]--
		s = append(s, a)
		loads, _ = fire(x.g, loads, a)
	}
}

// P3.8: whatever begins a schedule can be completed: Peaks accepts each way of
// firing what can fire, and where Schedule finds nothing, each gets stuck.
func TestAnyOrder(t *testing.T) {
	r := rand.New(rand.NewSource(11))
	for _, x := range known() {
		if x.err != api.OK {
			continue
		}
		first, e := flow.Schedule(x.g)
		for range 6 {
			s := walked(x, r)
			_, err := flow.Peaks(x.g, s)
			if (err == api.OK) != (e == api.OK) || e == api.OK && slices.Compare(first, s) > 0 {
				t.Error(x.g, first, e, s, err)
			}
		}
	}
}

// P3.10: twice the loads everywhere change neither Repeat nor Schedule.
func TestScaling(t *testing.T) {
	tried := 0
	for _, x := range known() {
		g := flow.Graph{N: x.g.N}
		valid := true
		for _, l := range x.g.Links {
			g.Links = append(g.Links, flow.Link{From: l.From, To: l.To, Give: 2 * l.Give, Take: 2 * l.Take, Stock: 2 * l.Stock})
			valid = valid && l.Give <= 3 && l.Take <= 3 && l.Stock <= 10
		}
		r1, e1 := flow.Repeat(x.g)
		r2, e2 := flow.Repeat(g)
		s1, e3 := flow.Schedule(x.g)
		s2, e4 := flow.Schedule(g)
		if !valid {
			e1, e3 = api.ErrArg, api.ErrArg
			r1, s1 = nil, nil
		} else {
			tried++
		}
		if !slices.Equal(r1, r2) || !slices.Equal(s1, s2) || e1 != e2 || e3 != e4 {
			t.Error(x.g, r1, r2, s1, s2, e1, e2, e3, e4)
		}
	}
	if tried < 500 {
		t.Error("few samples", tried)
	}
}
