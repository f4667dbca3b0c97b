package plant_test

import (
	"fmt"
	"math/rand"
	"slices"
	"strings"
	"testing"

	"massecuite/api"
	"massecuite/net"
	"massecuite/plant"
)

const (
	ok    = api.OK
	arg   = api.ErrArg
	form  = api.ErrForm
	none  = api.ErrNone
	state = api.ErrState
	size  = api.ErrSize
	short = api.ErrShort
	full  = api.ErrFull
	power = api.ErrPower
)

// fresh returns a plant of a factory on new disks.
func fresh(t testing.TB, f factory) *plant.Plant { return mustOpen(t, made(t, 100000), f, 1) }

// P10.3, P10.4: example 1, example 3, and the day of the document.
func TestExamples(t *testing.T) {
	p := fresh(t, example)
	takes(t, p, step{"grower ann", "grower", ok}, step{"deliver ann 2", "deliver 2", ok}, step{"tick 1", "tick 1 1", ok}, step{"tick 0", "tick 0 0", ok})
	says(t, p, step{"marking", "marking 1 1", ok}, step{"registers", "registers 0", ok})
	takes(t, p, step{"ship 2", "", short}, step{"ship 1", "ship 0", ok}, step{"pay 101", "pay 1", ok})
	says(t, p, step{"paid ann", "paid 101", ok}, step{"can 0 2", "can no", ok}, step{"can 0 1", "can yes", ok})
	takes(t, p, step{"deliver bob 1", "", none}, step{"deliver ann", "", form}, step{"tick x", "", form}, step{"pay 01", "", form}, step{"tick 2", "", arg})
	if want := []string{"grower ann", "deliver ann 2", "tick 1", "tick 0", "ship 1", "pay 101"}; !slices.Equal(p.Log(), want) {
		t.Error(p.Log())
	}
	if want := "marking 1 0\nregisters 0\ngrowers ann\nowed 0\npaid 101\n"; p.State() != want {
		t.Error(p.State())
	}
	p = fresh(t, example)
	takes(t, p, step{"grower ann", "grower", ok}, step{"deliver ann 2", "deliver 2", ok}, step{"tick 1", "tick 1 1", ok}, step{"ship 1", "ship 0", ok}, step{"pay 101", "pay 1", ok})
}

// wrongForms returns strings that are neither changes nor questions of a factory
// with two places.
func wrongForms() []string {
	out := []string{"", " ", "x", "Tick 1", "ticks 1", "tic 1", "tick1", "1 tick", "MARKING", "mark", "marking1", "log", "state", "can", "can 1", "can 1 2 3", "grower", "deliver", "tick", "ship", "pay", "owed", "paid",
		strings.Repeat("x", 100), strings.Repeat("x", 101), "tick " + strings.Repeat("1", 95), "tick " + strings.Repeat("1", 96), strings.Repeat("grower ann ", 1e5)}
	out = append(out, "grower ann ann", "grower ann 1", "deliver ann", "deliver 1", "deliver ann 1 1", "deliver 1 ann", "tick 1 1", "tick ann", "ship 1 1", "ship ann", "pay 1 1", "pay ann", "marking 1", "marking ann", "registers 0", "growers ann", "owed", "owed ann ann", "owed ann 1", "owed 1", "paid ann ann", "paid 1", "can 1 ann", "can ann 1", "can 1 1 ann")
	// What is no line.
	for _, s := range []string{"grower ann", "deliver ann 1", "tick 0", "ship 1", "pay 1", "marking", "registers", "growers", "owed ann", "paid ann", "can 0 0"} {
		out = append(out, " "+s, s+" ", s+"\n", "\n"+s, s+"\x00", s+"\x1f", s+"\x7f", s+"\xff", s+"\t", strings.Replace(s, " ", "  ", 1)+" ", strings.ToUpper(s), strings.Replace(s, " ", "\t", 1)+"\r")
		if strings.Contains(s, " ") {
			out = append(out, strings.Replace(s, " ", "  ", 1), strings.Replace(s, " ", "\t", 1), strings.Replace(s, " ", "\n", 1), strings.Replace(s, " ", " \x1f", 1), strings.Replace(s, " ", " \x7f", 1), strings.Replace(s, " ", "", 1), strings.Replace(s, " ", "\u00a0", 1))
		}
	}
	for _, name := range []string{"abcdefghi", "Ann", "anN", "an1", "1", "a-b", "a_b", "ä", "`", "{", "aé", "a.b", "abcdefghijklmnop"} {
		out = append(out, "grower "+name, "deliver "+name+" 1", "owed "+name, "paid "+name)
	}
	for _, n := range []string{"00", "01", "000001", "1000000", "0000001", "1234567", "-1", "-0", "+1", "1.0", "1e3", "0x1", "1_0", "a", "1a", "a1", "9999999999999999999999", "18446744073709551617", "４", "٣", "/", ":"} {
		out = append(out, "deliver ann "+n, "tick "+n, "ship "+n, "pay "+n, "can "+n+" 0", "can 0 "+n)
	}
	return out
}

// Errors, ErrForm: what is no line, has no command in front, another number of
// words, or a word of another form. Do and Ask refuse each other's commands.
func TestForms(t *testing.T) {
	p := fresh(t, example)
	mustDo(t, p, "grower ann", "deliver ann 3", "tick 1")
	log, before := p.Log(), p.State()
	for _, s := range wrongForms() {
		takes(t, p, step{s, "", form})
		says(t, p, step{s, "", form})
	}
	for _, s := range []string{"grower bob", "grower ann", "deliver ann 1", "deliver ann 0", "tick 0", "tick 999999", "ship 1", "pay 1"} {
		says(t, p, step{s, "", form})
	}
	for _, s := range []string{"marking", "registers", "growers", "owed ann", "owed bob", "paid ann", "can 0 0", "can 999999 0"} {
		takes(t, p, step{s, "", form})
	}
	if !slices.Equal(p.Log(), log) || p.State() != before {
		t.Error(p.Log(), p.State())
	}
}

// Changes, grower: names of 1 and 8 letters, one that there is, 20 and 21
// growers; a name that there is comes first.
func TestGrower(t *testing.T) {
	p := fresh(t, example)
	says(t, p, step{"growers", "growers", ok}, step{"owed a", "", none}, step{"paid a", "", none})
	takes(t, p, step{"grower z", "grower", ok}, step{"grower abcdefgh", "grower", ok}, step{"grower a", "grower", ok}, step{"grower z", "", state}, step{"grower ab", "grower", ok})
	says(t, p, step{"growers", "growers a ab abcdefgh z", ok}, step{"owed ab", "owed 0", ok}, step{"paid ab", "paid 0", ok}, step{"owed abc", "", none}, step{"paid abc", "", none}, step{"owed zz", "", none}, step{"paid zz", "", none})
	for k := range 16 {
		mustDo(t, p, "grower x"+string(rune('p'-k)))
	}
	takes(t, p, step{"grower b", "", full}, step{"grower zz", "", full}, step{"grower a", "", state}, step{"grower xc", "", state})
	says(t, p, step{"growers", "growers a ab abcdefgh xa xb xc xd xe xf xg xh xi xj xk xl xm xn xo xp z", ok})
	takes(t, p, step{"deliver xa 5", "deliver 5", ok}, step{"deliver z 1", "deliver 6", ok})
	says(t, p, step{"owed xa", "owed 5", ok}, step{"owed xb", "owed 0", ok}, step{"owed z", "owed 1", ok})
}

// Changes, deliver: each error, the first one where there are several, 1,000,000
// tokens and one more. The limit is that of place 0 alone.
func TestDeliver(t *testing.T) {
	p := fresh(t, example)
	takes(t, p, step{"deliver ann 1", "", none}, step{"deliver ann 0", "", none}, step{"deliver ann 999999", "", none})
	mustDo(t, p, "grower ann", "grower bob")
	takes(t, p, step{"deliver ann 0", "", arg}, step{"deliver bo 1", "", none}, step{"deliver ann 999999", "deliver 999999", ok}, step{"deliver bob 2", "", full}, step{"deliver bob 999999", "", full}, step{"deliver bob 0", "", arg}, step{"deliver al 2", "", none}, step{"deliver bob 1", "deliver 1000000", ok}, step{"deliver bob 1", "", full}, step{"deliver ann 0", "", arg}, step{"deliver al 1", "", none})
	says(t, p, step{"owed ann", "owed 999999", ok}, step{"owed bob", "owed 1", ok}, step{"marking", "marking 1000000 0", ok})
	takes(t, p, step{"tick 1", "tick 1 1", ok}, step{"deliver bob 2", "", full}, step{"deliver bob 1", "deliver 1000000", ok})
	says(t, p, step{"marking", "marking 1000000 1", ok}, step{"owed bob", "owed 2", ok})

	f := example
	f.Net.Start = api.Marking{5, 5}
	p = fresh(t, f)
	mustDo(t, p, "grower ann")
	takes(t, p, step{"deliver ann 999996", "", full}, step{"deliver ann 999995", "deliver 1000000", ok})
}

// Changes, ship: of all tokens and of one more, of none, from the last place.
func TestShip(t *testing.T) {
	p := fresh(t, example)
	takes(t, p, step{"ship 0", "", arg}, step{"ship 1", "", short}, step{"ship 999999", "", short})
	mustDo(t, p, "grower ann", "deliver ann 3", "tick 1", "tick 1", "tick 1")
	takes(t, p, step{"ship 0", "", arg}, step{"ship 4", "", short}, step{"ship 1", "ship 2", ok}, step{"ship 3", "", short}, step{"ship 2", "ship 0", ok}, step{"ship 1", "", short}, step{"ship 0", "", arg})

	// With a single place that is place 0, too.
	f := example
	f.Net = net.Net{Pre: [][]int{{1}}, Post: [][]int{{0}}, Start: api.Marking{2}}
	p = fresh(t, f)
	takes(t, p, step{"grower ann", "grower", ok}, step{"deliver ann 3", "deliver 5", ok}, step{"ship 6", "", short}, step{"ship 5", "ship 0", ok})
	says(t, p, step{"owed ann", "owed 3", ok})

	f.Net = net.Net{Pre: [][]int{{1, 0, 0}}, Post: [][]int{{0, 0, 1}}, Start: api.Marking{0, 4, 2}}
	p = fresh(t, f)
	takes(t, p, step{"ship 3", "", short}, step{"ship 2", "ship 0", ok})
	says(t, p, step{"marking", "marking 0 4 0", ok})
}

// always returns a program whose output bits are always 1.
func always(bits int) program {
	p := program{Lines: []line{{Name: "on", Init: -1, Expr: "true"}}}
	for range bits {
		p.Outputs = append(p.Outputs, "on")
	}
	return p
}

// Changes, tick: transitions in order, of which some are not enabled; bits beyond
// the transitions; transitions beyond the bits; letters that are none.
func TestTick(t *testing.T) {
	// 0 to 1 to 2, and 2 to 0: each firing enables the next.
	ring := net.Net{Pre: [][]int{{1, 0, 0}, {0, 1, 0}, {0, 0, 1}}, Post: [][]int{{0, 1, 0}, {0, 0, 1}, {1, 0, 0}}, Start: api.Marking{1, 0, 0}}
	p := fresh(t, factory{ring, always(2)})
	takes(t, p, step{"tick 0", "tick 3 2", ok}, step{"tick 0", "tick 3 0", ok}, step{"tick 1", "", arg}, step{"tick 999999", "", arg})
	says(t, p, step{"marking", "marking 0 0 1", ok}, step{"registers", "registers", ok})
	// The other way round only one fires in a scan.
	slices.Reverse(ring.Pre)
	slices.Reverse(ring.Post)
	p = fresh(t, factory{ring, always(3)})
	takes(t, p, step{"tick 0", "tick 7 1", ok}, step{"tick 0", "tick 7 1", ok}, step{"tick 0", "tick 7 2", ok})
	says(t, p, step{"marking", "marking 0 1 0", ok})
	p = fresh(t, factory{net.Net{Pre: ring.Pre[2:], Post: ring.Post[2:], Start: api.Marking{2, 0, 0}}, always(3)})
	takes(t, p, step{"tick 0", "tick 7 1", ok}, step{"tick 0", "tick 7 1", ok}, step{"tick 0", "tick 7 0", ok})
	// Six transitions, of which the last three have no bit.
	six := net.Net{Start: api.Marking{5, 0, 0, 0, 0, 0}}
	for k := range 6 {
		row := make([]int, 6)
		row[k] = 1
		six.Pre, six.Post = append(six.Pre, make([]int, 6)), append(six.Post, row)
	}
	p = fresh(t, factory{six, always(3)})
	takes(t, p, step{"tick 0", "tick 7 3", ok})
	says(t, p, step{"marking", "marking 6 1 1 0 0 0", ok})
	// All letters of three inputs.
	p = fresh(t, factory{ring, program{Inputs: []string{"a", "b", "c"}, Outputs: []string{"c", "b", "a"}, Lines: []line{{Name: "q", Init: 1, Expr: "false"}}}})
	for i, out := range []int{0, 4, 2, 6, 1, 5, 3, 7} {
		if s, e := p.Do(fmt.Sprint("tick ", i)); e != ok || !strings.HasPrefix(s, fmt.Sprintf("tick %d ", out)) {
			t.Error(i, s, e)
		}
	}
	takes(t, p, step{"tick 8", "", arg}, step{"tick 9", "", arg}, step{"tick 100", "", arg})
}

// Changes, tick: 1,000,000 tokens on a place and one more, by a later firing of
// several, and where the next firing would take them away again: then nothing is
// done, no scan, and no firing.
func TestTickFull(t *testing.T) {
	grow := net.Net{Pre: [][]int{{0, 0}, {0, 0}, {3, 0}}, Post: [][]int{{1, 0}, {1, 1}, {0, 0}}, Start: api.Marking{0, 0}}
	flip := program{Inputs: []string{"all"}, Outputs: []string{"on", "all", "all"}, Lines: []line{{Name: "on", Init: -1, Expr: "true"}, {Name: "q", Init: 0, Expr: "not q"}}}
	p := fresh(t, factory{grow, flip})
	mustDo(t, p, "grower ann", "deliver ann 999998")
	takes(t, p, step{"tick 1", "tick 7 3", ok})
	says(t, p, step{"marking", "marking 999997 1", ok}, step{"registers", "registers 1", ok})
	takes(t, p, step{"deliver ann 2", "deliver 999999", ok}, step{"tick 1", "", full})
	says(t, p, step{"marking", "marking 999999 1", ok}, step{"registers", "registers 1", ok})
	takes(t, p, step{"tick 0", "tick 1 1", ok}, step{"tick 0", "", full}, step{"tick 1", "", full}, step{"tick 2", "", arg})
	says(t, p, step{"marking", "marking 1000000 1", ok}, step{"registers", "registers 0", ok})
	if want := []string{"grower ann", "deliver ann 999998", "tick 1", "deliver ann 2", "tick 0"}; !slices.Equal(p.Log(), want) {
		t.Error(p.Log())
	}
}

// Changes, pay: rests, growers without loads, 0 cents, and nobody who is owed
// loads; who is owed loads that were paid is owed nothing.
func TestPay(t *testing.T) {
	p := fresh(t, example)
	takes(t, p, step{"pay 5", "", none}, step{"pay 0", "", none})
	mustDo(t, p, "grower cy", "grower ann", "grower bob", "grower dan")
	takes(t, p, step{"pay 5", "", none})
	// Equal rests: those whose names come first, whoever came first.
	mustDo(t, p, "deliver dan 1", "deliver cy 1", "deliver bob 1")
	takes(t, p, step{"pay 5", "pay 3", ok}, step{"pay 5", "", none})
	says(t, p, step{"paid ann", "paid 0", ok}, step{"paid bob", "paid 2", ok}, step{"paid cy", "paid 2", ok}, step{"paid dan", "paid 1", ok}, step{"owed bob", "owed 0", ok}, step{"owed dan", "owed 0", ok})
	mustDo(t, p, "deliver dan 1", "deliver cy 1", "deliver bob 1")
	takes(t, p, step{"pay 1", "pay 1", ok})
	says(t, p, step{"paid ann", "paid 0", ok}, step{"paid bob", "paid 3", ok}, step{"paid cy", "paid 2", ok}, step{"paid dan", "paid 1", ok}, step{"owed cy", "owed 0", ok})
	// Of 10 cents 6 4/6, 1 4/6 and 1 4/6; the rest of 3/7, 2/7 and 2/7.
	mustDo(t, p, "deliver ann 4", "deliver cy 1", "deliver dan 1")
	takes(t, p, step{"pay 10", "pay 3", ok})
	says(t, p, step{"paid ann", "paid 7", ok}, step{"paid cy", "paid 4", ok}, step{"paid dan", "paid 2", ok})
	mustDo(t, p, "deliver ann 2", "deliver cy 2", "deliver dan 3")
	takes(t, p, step{"pay 1", "pay 1", ok})
	says(t, p, step{"paid ann", "paid 7", ok}, step{"paid cy", "paid 4", ok}, step{"paid dan", "paid 3", ok})
	mustDo(t, p, "deliver ann 2")
	takes(t, p, step{"pay 0", "pay 0", ok}, step{"pay 9", "", none})
	says(t, p, step{"paid ann", "paid 7", ok}, step{"owed ann", "owed 0", ok})
	mustDo(t, p, "deliver ann 2", "deliver ann 3", "deliver bob 5")
	takes(t, p, step{"pay 999999", "pay 2", ok})
	says(t, p, step{"paid ann", "paid 500007", ok}, step{"paid bob", "paid 500002", ok})
}

// Changes, pay: more loads owed than Share takes.
func TestPayMany(t *testing.T) {
	f := example
	f.Net = net.Net{Pre: [][]int{{1}}, Post: [][]int{{0}}, Start: api.Marking{0}}
	p := fresh(t, f)
	mustDo(t, p, "grower ann", "grower bob")
	for range 1100 {
		mustDo(t, p, "deliver bob 999999", "ship 999999")
	}
	says(t, p, step{"owed bob", "owed 1099998900", ok})
	mustDo(t, p, "deliver ann 500")
	takes(t, p, step{"pay 999999", "pay 1", ok})
	says(t, p, step{"paid ann", "paid 0", ok}, step{"paid bob", "paid 999999", ok})
	for range 100 {
		mustDo(t, p, "deliver ann 499500", "ship 1", "pay 999999", "ship 499499")
	}
	says(t, p, step{"paid ann", "paid 99999900", ok})
}

// Questions, can: the marking itself, other numbers of words, places with more
// than 5 tokens, and nets for which net.Covers is too large.
func TestCan(t *testing.T) {
	p := fresh(t, example)
	says(t, p, step{"can 0 0", "can yes", ok}, step{"can 1 0", "can no", ok}, step{"can 0 0 0", "", form}, step{"can 0", "", form}, step{"can", "", form})
	mustDo(t, p, "grower ann", "deliver ann 5")
	says(t, p, step{"can 5 0", "can yes", ok}, step{"can 0 5", "can yes", ok}, step{"can 3 2", "can yes", ok}, step{"can 3 3", "can no", ok}, step{"can 6 0", "can no", ok}, step{"can 999999 999999", "can no", ok})
	mustDo(t, p, "deliver ann 1")
	says(t, p, step{"can 0 0", "", size}, step{"can 6 0", "", size}, step{"can 0", "", form}, step{"can 0 x", "", form})
	mustDo(t, p, "tick 1")
	says(t, p, step{"can 0 0", "can yes", ok}, step{"can 5 1", "can yes", ok}, step{"can 0 6", "can yes", ok}, step{"can 0 7", "can no", ok}, step{"can 6 0", "can no", ok})
	mustDo(t, p, "tick 1", "tick 1", "tick 1", "tick 1", "tick 1")
	says(t, p, step{"can 0 0", "", size}, step{"marking", "marking 0 6", ok})
	mustDo(t, p, "ship 1")
	says(t, p, step{"can 0 5", "can yes", ok}, step{"can 1 0", "can no", ok})

	// A transition that the controller never fires counts, too.
	f := example
	f.Net = net.Net{Pre: [][]int{{1, 0}, {0, 0}}, Post: [][]int{{0, 1}, {0, 1}}, Start: api.Marking{1, 0}}
	p = fresh(t, f)
	says(t, p, step{"can 1 999999", "can yes", ok}, step{"can 2 0", "can no", ok})

	// The tree is small at first, and too large for other markings.
	large := net.Net{Start: api.Marking{0, 0, 0, 0, 0, 0}}
	for k := range 5 {
		pre, post := make([]int, 6), make([]int, 6)
		pre[0], post[k+1] = 1, 1
		large.Pre, large.Post = append(large.Pre, pre), append(large.Post, post)
	}
	p = fresh(t, factory{large, always(1)})
	mustDo(t, p, "grower ann", "deliver ann 3")
	says(t, p, step{"can 0 1 1 1 0 0", "can yes", ok})
	mustDo(t, p, "deliver ann 2")
	says(t, p, step{"can 0 1 1 1 1 1", "", size}, step{"can 5 0 0 0 0 0", "", size}, step{"can 0 0 0 0 0 0", "", size})
	mustDo(t, p, "tick 0", "tick 0")
	says(t, p, step{"can 0 2 1 1 1 0", "can yes", ok}, step{"can 0 1 1 1 1 1", "can no", ok})
}

// P10.3, P10.4: what drawn lines do is what they do by the model, whether they
// have errors or not. Questions change nothing.
func TestDrawnLines(t *testing.T) {
	r := rand.New(rand.NewSource(2))
	seen := map[string]int{}
	for range 600 {
		f := drawnFactory(r)
		p, c := fresh(t, f), begun(f)
		for range 60 {
			s := drawnChange(r)
			if r.Intn(8) == 0 {
				s = spoiled(r, s)
			}
			after, want, e := c.changed(s)
			if got, errno := p.Do(s); got != want || errno != e {
				t.Fatalf("%v: %q: %q %v, not %q %v", f, s, got, errno, want, e)
			}
			c = after
			word, _, _ := strings.Cut(s, " ")
			seen[fmt.Sprint(word, e)]++
			s = drawnQuestion(r, len(f.Net.Start))
			if r.Intn(8) == 0 {
				s = spoiled(r, s)
			}
			want, e = c.answer(s)
			if got, errno := p.Ask(s); got != want || errno != e {
				t.Fatalf("%v: %q: %q %v, not %q %v", f, s, got, errno, want, e)
			}
			word, _, _ = strings.Cut(s, " ")
			seen[fmt.Sprint(word, e)]++
			if p.State() != c.state() {
				t.Fatalf("%v: %q: %q, not %q", f, s, p.State(), c.state())
			}
		}
	}
	for _, s := range []string{"grower0", "grower7", "deliver0", "deliver5", "deliver2", "deliver10", "tick0", "tick2", "ship0", "ship2", "ship9", "pay0", "pay5", "marking0", "registers0", "growers0", "owed0", "owed5", "paid0", "paid5", "can0", "can3", "can4"} {
		if seen[s] == 0 {
			t.Error(s, seen)
		}
	}
}
