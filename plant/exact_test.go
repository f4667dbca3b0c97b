package plant_test

import (
	"fmt"
	"math/big"
	"regexp"
	"slices"
	"sort"
	"strconv"
	"strings"

	"massecuite/api"
	"massecuite/net"
	"massecuite/plant"
	"massecuite/scan"
)

// What the chapter says, written down a second time and as directly as possible.

type (
	factory = plant.Factory
	disk    = plant.Disk
	line    = scan.Line
	program = scan.Program
)

// platter is a disk by P10.1: the bytes that are safe, and the others.
type platter struct {
	size        int
	safe, loose []byte
	off, fused  bool
	fuse        int
}

func (p *platter) bytes() []byte { return slices.Concat(p.safe, p.loose) }

// refuses counts an operation.
func (p *platter) refuses() bool {
	switch {
	case p.off:
	case p.fused && p.fuse == 0:
		p.off = true
	case p.fused:
		p.fuse--
	}
	return p.off
}

func (p *platter) Append(b []byte) api.Errno {
	switch {
	case len(p.safe)+len(p.loose)+len(b) > p.size:
		return api.ErrFull
	case p.refuses():
		return api.ErrPower
	}
	p.loose = slices.Concat(p.loose, b)
	return api.OK
}

func (p *platter) Sync() api.Errno {
	if p.refuses() {
		return api.ErrPower
	}
	p.safe, p.loose = p.bytes(), nil
	return api.OK
}

func (p *platter) Cut(n int) api.Errno {
	switch {
	case n < 0 || n > len(p.bytes()):
		return api.ErrArg
	case p.refuses():
		return api.ErrPower
	}
	p.safe, p.loose = p.bytes()[:n], nil
	return api.OK
}

func (p *platter) Read() ([]byte, api.Errno) {
	if p.off {
		return nil, api.ErrPower
	}
	return p.bytes(), api.OK
}

func (p *platter) Fuse(k int) {
	if !p.off {
		p.fused, p.fuse = k >= 0, k
	}
}

func (p *platter) Crash(keep int) {
	keep = min(max(keep, 0), len(p.loose))
	p.safe, p.loose = slices.Concat(p.safe, p.loose[:keep]), nil
	p.off, p.fused = false, false
}

func (p *platter) Off() { p.off = true }

// truth returns the value of the expression at the front of tokens, and what
// follows it.
func truth(tokens []string, values map[string]bool) (bool, []string) {
	first, rest := tokens[0], tokens[1:]
	var x, y, z bool
	switch first {
	case "true", "false":
		return first == "true", rest
	case "not":
		x, rest = truth(rest, values)
		return !x, rest
	case "and", "or", "xor":
		x, rest = truth(rest, values)
		y, rest = truth(rest, values)
		return map[string]bool{"and": x && y, "or": x || y, "xor": x != y}[first], rest
	case "if":
		x, rest = truth(rest, values)
		y, rest = truth(rest, values)
		z, rest = truth(rest, values)
		return x && y || !x && z, rest
	}
	return values[first], rest
}

// scanned makes one scan of a causal program: it changes the registers, and
// returns the output letter. Wires are evaluated again and again until all of
// them are right.
func scanned(p program, registers map[string]bool, letter int) int {
	values := map[string]bool{}
	for i, name := range p.Inputs {
		values[name] = letter>>i&1 == 1
	}
	for name, value := range registers {
		values[name] = value
	}
	for range p.Lines {
		for _, l := range p.Lines {
			if l.Init == -1 {
				values[l.Name], _ = truth(strings.Fields(l.Expr), values)
			}
		}
	}
	for _, l := range p.Lines {
		if l.Init != -1 {
			registers[l.Name], _ = truth(strings.Fields(l.Expr), values)
		}
	}
	out := 0
	for i, name := range p.Outputs {
		if values[name] {
			out |= 1 << i
		}
	}
	return out
}

// campaign is the state of a factory by the chapter's Terms.
type campaign struct {
	f         factory
	marking   []int
	registers map[string]bool
	owed      map[string]int
	paid      map[string]int
}

func begun(f factory) *campaign {
	c := &campaign{f: f, marking: slices.Clone(f.Net.Start), registers: map[string]bool{}, owed: map[string]int{}, paid: map[string]int{}}
	for _, l := range f.Program.Lines {
		if l.Init != -1 {
			c.registers[l.Name] = l.Init == 1
		}
	}
	return c
}

const (
	aLine   = `[!-~]+( [!-~]+)*`
	aName   = `([a-z]{1,8})`
	aNumber = `(0|[1-9][0-9]{0,5})`
)

// forms are those of the commands; what can asks depends on the net.
var forms = map[string]*regexp.Regexp{
	"grower":    regexp.MustCompile(`\Agrower ` + aName + `\z`),
	"deliver":   regexp.MustCompile(`\Adeliver ` + aName + ` ` + aNumber + `\z`),
	"tick":      regexp.MustCompile(`\Atick ` + aNumber + `\z`),
	"ship":      regexp.MustCompile(`\Aship ` + aNumber + `\z`),
	"pay":       regexp.MustCompile(`\Apay ` + aNumber + `\z`),
	"marking":   regexp.MustCompile(`\Amarking\z`),
	"registers": regexp.MustCompile(`\Aregisters\z`),
	"growers":   regexp.MustCompile(`\Agrowers\z`),
	"owed":      regexp.MustCompile(`\Aowed ` + aName + `\z`),
	"paid":      regexp.MustCompile(`\Apaid ` + aName + `\z`),
	"can":       regexp.MustCompile(`\Acan( ` + aNumber + `)+\z`),
}

// changed returns what a change leads to and its reply; c stays as it is.
func (c *campaign) changed(s string) (*campaign, string, api.Errno) {
	word, _, _ := strings.Cut(s, " ")
	if !slices.Contains([]string{"grower", "deliver", "tick", "ship", "pay"}, word) || !forms[word].MatchString(s) {
		return c, "", api.ErrForm
	}
	d := &campaign{c.f, slices.Clone(c.marking), map[string]bool{}, map[string]int{}, map[string]int{}}
	for k, x := range c.registers {
		d.registers[k] = x
	}
	for k := range c.owed {
		d.owed[k], d.paid[k] = c.owed[k], c.paid[k]
	}
	reply, e := d.do(word, strings.Fields(s)[1:])
	if e != api.OK {
		return c, "", e
	}
	return d, reply, api.OK
}

// do makes a change, which may be left in the middle where there is an error.
func (c *campaign) do(word string, args []string) (string, api.Errno) {
	n, _ := strconv.Atoi(args[len(args)-1])
	last := len(c.marking) - 1
	_, known := c.owed[args[0]]
	switch word {
	case "grower":
		if known {
			return "", api.ErrState
		} else if len(c.owed) >= 20 {
			return "", api.ErrFull
		}
		c.owed[args[0]], c.paid[args[0]] = 0, 0
		return "grower", api.OK
	case "deliver":
		if !known {
			return "", api.ErrNone
		} else if n == 0 {
			return "", api.ErrArg
		} else if c.marking[0]+n > 1000000 {
			return "", api.ErrFull
		}
		c.marking[0] += n
		c.owed[args[0]] += n
		return fmt.Sprint("deliver ", c.marking[0]), api.OK
	case "tick":
		return c.tick(n)
	case "ship":
		if n == 0 {
			return "", api.ErrArg
		} else if c.marking[last] < n {
			return "", api.ErrShort
		}
		c.marking[last] -= n
		return fmt.Sprint("ship ", c.marking[last]), api.OK
	}
	return c.pay(n)
}

func (c *campaign) tick(letter int) (string, api.Errno) {
	if letter >= 1<<len(c.f.Program.Inputs) {
		return "", api.ErrArg
	}
	out := scanned(c.f.Program, c.registers, letter)
	fired := 0
	for t := range c.f.Net.Pre {
		if out&(1<<t) == 0 || !covers(c.marking, c.f.Net.Pre[t]) {
			continue
		}
		fired++
		for p := range c.marking {
			c.marking[p] += c.f.Net.Post[t][p] - c.f.Net.Pre[t][p]
		}
		if slices.Max(c.marking) > 1000000 {
			return "", api.ErrFull
		}
	}
	return fmt.Sprintf("tick %d %d", out, fired), api.OK
}

func (c *campaign) pay(cents int) (string, api.Errno) {
	names := c.names()
	var loads []int
	for _, name := range names {
		loads = append(loads, c.owed[name])
	}
	if len(loads) == 0 || slices.Max(loads) == 0 {
		return "", api.ErrNone
	}
	got := 0
	for k, x := range shared(cents, loads) {
		c.paid[names[k]] += x
		c.owed[names[k]] = 0
		if x > 0 {
			got++
		}
	}
	return fmt.Sprint("pay ", got), api.OK
}

// exact returns what someone with so many of all loads would get of c cents if
// there were parts of cents.
func exact(c int, loads []int, k int) *big.Rat {
	all := 0
	for _, n := range loads {
		all += n
	}
	return big.NewRat(int64(c)*int64(loads[k]), int64(all))
}

// shared gives whole cents, and then those that are left, one by one.
func shared(c int, loads []int) []int {
	out := make([]int, len(loads))
	rests := make([]*big.Rat, len(loads))
	left := c
	for k := range loads {
		x := exact(c, loads, k)
		whole := new(big.Int).Quo(x.Num(), x.Denom())
		out[k] = int(whole.Int64())
		rests[k] = new(big.Rat).Sub(x, new(big.Rat).SetInt(whole))
		left -= out[k]
	}
	for ; left > 0; left-- {
		first := 0
		for k := range loads {
			if rests[k].Cmp(rests[first]) > 0 {
				first = k
			}
		}
		out[first]++
		rests[first] = big.NewRat(-1, 1)
	}
	return out
}

func covers(m, n []int) bool {
	for p := range m {
		if m[p] < n[p] {
			return false
		}
	}
	return true
}

func (c *campaign) names() []string {
	var out []string
	for name := range c.owed {
		out = append(out, name)
	}
	sort.Strings(out)
	return out
}

func (c *campaign) answer(s string) (string, api.Errno) {
	word, _, _ := strings.Cut(s, " ")
	if !slices.Contains([]string{"marking", "registers", "growers", "owed", "paid", "can"}, word) || !forms[word].MatchString(s) {
		return "", api.ErrForm
	}
	args := strings.Fields(s)[1:]
	switch word {
	case "marking":
		return "marking " + strings.Trim(fmt.Sprint(c.marking), "[]"), api.OK
	case "registers":
		for _, l := range c.f.Program.Lines {
			if l.Init != -1 {
				word += map[bool]string{true: " 1", false: " 0"}[c.registers[l.Name]]
			}
		}
		return word, api.OK
	case "growers":
		return strings.Join(append([]string{"growers"}, c.names()...), " "), api.OK
	case "can":
		return c.can(args)
	}
	owed, known := c.owed[args[0]]
	if !known {
		return "", api.ErrNone
	}
	return fmt.Sprint(word, " ", map[string]int{"owed": owed, "paid": c.paid[args[0]]}[word]), api.OK
}

func (c *campaign) can(args []string) (string, api.Errno) {
	if len(args) != len(c.marking) {
		return "", api.ErrForm
	}
	if slices.Max(c.marking) > 5 {
		return "", api.ErrSize
	}
	var m api.Marking
	for _, word := range args {
		n, _ := strconv.Atoi(word)
		m = append(m, n)
	}
	yes, e := net.Covers(net.Net{Pre: c.f.Net.Pre, Post: c.f.Net.Post, Start: c.marking}, m)
	if e != api.OK {
		return "", e
	}
	return map[bool]string{true: "can yes", false: "can no"}[yes], api.OK
}

func (c *campaign) state() string {
	questions := []string{"marking", "registers", "growers"}
	for _, name := range c.names() {
		questions = append(questions, "owed "+name, "paid "+name)
	}
	out := ""
	for _, q := range questions {
		s, _ := c.answer(q)
		out += s + "\n"
	}
	return out
}

// entry is a record of a log.
type entry struct {
	epoch, index int
	text         string
}

func (e entry) bytes() string { return fmt.Sprintf("%d %d %s\n", e.epoch, e.index, e.text) }

var aRecord = regexp.MustCompile(`\A(0|[1-9][0-9]*) (0|[1-9][0-9]*) (|` + aLine + `)\n`)

// logOf returns the log of a disk with these bytes.
func logOf(b []byte) []entry {
	var out []entry
	epoch := 1
	for {
		m := aRecord.FindSubmatch(b)
		if m == nil || len(m[3]) > 100 || len(m[1]) > 7 || len(m[2]) > 7 {
			return out
		}
		x, _ := strconv.Atoi(string(m[1]))
		index, _ := strconv.Atoi(string(m[2]))
		if index != len(out)+1 || x < epoch || x > 1000000 {
			return out
		}
		out = append(out, entry{x, index, string(m[3])})
		epoch = x
		b = b[len(m[0]):]
	}
}

// spelled returns the bytes of records.
func spelled(l []entry) string {
	out := ""
	for _, e := range l {
		out += e.bytes()
	}
	return out
}

// works is a plant by P10.2 to P10.4.
type works struct {
	disks  [3]*platter
	out    [3]bool // also those that were not there
	closed bool
	epoch  int
	index  int
	lines  []string
	c      *campaign
}

// last returns the epoch of the last record.
func last(l []entry) int {
	if len(l) == 0 {
		return 0
	}
	return l[len(l)-1].epoch
}

// opened is Open for disks that are different, and a factory that is valid.
func opened(d [3]*platter, f factory, epoch int) (*works, api.Errno) {
	if epoch < 1 || epoch > 1000000 {
		return nil, api.ErrArg
	}
	w := &works{disks: d, epoch: epoch, c: begun(f)}
	var best []entry
	present := 0
	for k := range d {
		if w.out[k] = d[k].off; d[k].off {
			continue
		}
		present++
		l := logOf(d[k].bytes())
		if last(l) > last(best) || last(l) == last(best) && len(l) > len(best) {
			best = l
		}
	}
	if present < 2 {
		return nil, api.ErrPower
	} else if epoch <= last(best) {
		return nil, api.ErrArg
	}
	w.index = len(best) + 1
	for k := range d {
		if !w.out[k] {
			w.out[k] = !w.mended(d[k], best)
		}
	}
	if w.left() < 2 {
		return nil, api.ErrPower
	}
	for _, e := range best {
		if e.text != "" {
			w.lines = append(w.lines, e.text)
			w.c, _, _ = w.c.changed(e.text)
		}
	}
	return w, api.OK
}

// mended writes the best log on a disk.
func (w *works) mended(d *platter, best []entry) bool {
	if !strings.HasPrefix(spelled(best), string(d.bytes())) {
		l := logOf(d.bytes())
		same := 0
		for same < len(l) && same < len(best) && l[same] == best[same] {
			same++
		}
		if d.Cut(len(spelled(best[:same]))) != api.OK {
			return false
		}
	}
	lacks := spelled(best)[len(d.bytes()):] + entry{w.epoch, w.index, ""}.bytes()
	return d.Append([]byte(lacks)) == api.OK && d.Sync() == api.OK
}

// left returns how many disks are not out.
func (w *works) left() int {
	n := 0
	for _, out := range w.out {
		if !out {
			n++
		}
	}
	return n
}

func (w *works) Do(s string) (string, api.Errno) {
	if w.closed {
		return "", api.ErrState
	}
	after, reply, e := w.c.changed(s)
	if e != api.OK {
		return "", e
	}
	b := []byte(entry{w.epoch, w.index + 1, s}.bytes())
	for k, d := range w.disks {
		if !w.out[k] {
			w.out[k] = d.Append(b) != api.OK || d.Sync() != api.OK
		}
	}
	if w.closed = w.left() < 2; w.closed {
		return "", api.ErrPower
	}
	w.index++
	w.lines = append(w.lines, s)
	w.c = after
	return reply, api.OK
}

func (w *works) Ask(s string) (string, api.Errno) { return w.c.answer(s) }
