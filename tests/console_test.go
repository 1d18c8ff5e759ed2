package tests

import (
	"fmt"
	"math"
	"regexp"
	"slices"
	"strconv"
	"strings"
	"testing"

	"loop.example/g01177/impl"
)

// The tests of promise 10: chapter 10, a console.

// deskOf returns the desk with two sequences; "" is the empty one.
func deskOf(a string, b string) impl.Desk {
	return impl.Desk{A: seq(a), B: seq(b)}
}

// quoted returns what a report has of a line or of a script.
func quoted(text string) string {
	return strconv.Quote(text[:min(len(text), 200)])
}

func areSameDesks(d impl.Desk, e impl.Desk) bool {
	return slices.Equal(d.A, e.A) && slices.Equal(d.B, e.B)
}

// wantLine checks the desk behind a line and the reply to it.
func wantLine(t *testing.T, d impl.Desk, line string, want impl.Desk, reply string) {
	t.Helper()
	after, got, ok := impl.DeskLine(d, line)
	if !ok || got != reply || !areSameDesks(after, want) {
		t.Errorf("%s is %v, %q, %v and not %v, %q, true", called("DeskLine", d, quoted(line)), after, got, ok, want, reply)
	}
}

// wantNoLine checks that a line is refused, with all results zero.
func wantNoLine(t *testing.T, d impl.Desk, line string) {
	t.Helper()
	after, reply, ok := impl.DeskLine(d, line)
	if ok || reply != "" || after.A != nil || after.B != nil {
		t.Errorf("%s is %v, %q, %v", called("DeskLine", d, quoted(line)), after, reply, ok)
	}
}

// wantScript checks all that is told of a script.
func wantScript(t *testing.T, s string, replies []string, desk impl.Desk, failed []int) {
	t.Helper()
	all, ok := impl.RunScript(s)
	wantList(t, called("RunScript", quoted(s)), all, ok, replies, true)
	after, ok := impl.DeskAfter(s)
	if !ok || !areSameDesks(after, desk) {
		t.Errorf("%s is %v, %v and not %v, true", called("DeskAfter", quoted(s)), after, ok, desk)
	}
	numbers, ok := impl.FailedLines(s)
	wantList(t, called("FailedLines", quoted(s)), numbers, ok, failed, true)
}

// wantNoScript checks that a text is refused, with all results zero.
func wantNoScript(t *testing.T, s string) {
	t.Helper()
	call := func(name string) string { return called(name, quoted(s), len(s)) }
	replies, ok := impl.RunScript(s)
	wantList(t, call("RunScript"), replies, ok, nil, false)
	desk, ok := impl.DeskAfter(s)
	if ok || desk.A != nil || desk.B != nil {
		t.Errorf("%s is %v, %v", call("DeskAfter"), desk, ok)
	}
	numbers, ok := impl.FailedLines(s)
	wantList(t, call("FailedLines"), numbers, ok, nil, false)
}

// textFor returns the text of a sequence.
func textFor(s []int) string {
	if len(s) == 0 {
		return "0"
	}
	letters := ""
	for _, k := range s {
		letters += "+i-j"[k : k+1]
	}
	return letters
}

// textForGauss returns the text of a Gaussian number.
func textForGauss(z gauss) string {
	return fmt.Sprintf("%d%+di", z.Re, z.Im)
}

// textForList returns what a reply has of a list.
func textForList[T any](all []T, textOf func(T) string) string {
	var texts []string
	for _, one := range all {
		texts = append(texts, textOf(one))
	}
	if len(texts) == 0 {
		return "-"
	}
	return strings.Join(texts, ",")
}

// row is a row of the document's table: the form of its lines, with at most one group for what the line is about, and what they do with a desk and the word of that group. Where a function fails, what it does is nothing, and the reply is no.
type row struct {
	form string
	do   func(d impl.Desk, word string) (impl.Desk, string, bool)
}

// The forms of a SequenceText, of a number and of bits, behind a blank.
const (
	sequenceForm = ` (0|[-+ij]{1,32})`
	numberForm   = ` (0|[1-9][0-9]{0,5})`
	bitsForm     = ` ([01](?:,[01])*)`
)

func numberIn(word string) int {
	n, _ := strconv.Atoi(word)
	return n
}

// onA is a row whose lines make another sequence A.
func onA(form string, make func(d impl.Desk, word string) ([]int, bool)) row {
	return row{form, func(d impl.Desk, word string) (impl.Desk, string, bool) {
		a, ok := make(d, word)
		return impl.Desk{A: a, B: d.B}, textFor(a), ok
	}}
}

// onBoth is a row whose lines make two other sequences.
func onBoth(form string, make func(d impl.Desk, word string) ([]int, []int, bool)) row {
	return row{form, func(d impl.Desk, word string) (impl.Desk, string, bool) {
		a, b, ok := make(d, word)
		return impl.Desk{A: a, B: b}, textFor(a) + " " + textFor(b), ok
	}}
}

// telling is a row whose lines have a reply alone.
func telling[T any](form string, ask func(d impl.Desk) (T, bool), textOf func(T) string) row {
	return row{form, func(d impl.Desk, word string) (impl.Desk, string, bool) {
		answer, ok := ask(d)
		return d, textOf(answer), ok
	}}
}

func effectRows() []row {
	return []row{
		onA("a"+sequenceForm, func(d impl.Desk, word string) ([]int, bool) { return seq(strings.Trim(word, "0")), true }),
		{"b" + sequenceForm, func(d impl.Desk, word string) (impl.Desk, string, bool) {
			return impl.Desk{A: d.A, B: seq(strings.Trim(word, "0"))}, word, true
		}},
		onBoth("swap", func(d impl.Desk, word string) ([]int, []int, bool) { return d.B, d.A, true }),
		onA("turn"+numberForm, func(d impl.Desk, word string) ([]int, bool) { return impl.TurnBy(d.A, numberIn(word)) }),
		onA("climb"+numberForm, func(d impl.Desk, word string) ([]int, bool) { return impl.ClimbBy(d.A, numberIn(word)) }),
		onA("shift"+numberForm, func(d impl.Desk, word string) ([]int, bool) { return impl.ShiftBy(d.A, numberIn(word)) }),
		onA("back", func(d impl.Desk, word string) ([]int, bool) { return impl.BackwardsOf(d.A) }),
		onA("bar", func(d impl.Desk, word string) ([]int, bool) { return impl.ConjugateOf(d.A) }),
		onA("times", func(d impl.Desk, word string) ([]int, bool) { return impl.ProductOf(d.A, d.B) }),
		onBoth("join"+numberForm, func(d impl.Desk, word string) ([]int, []int, bool) {
			return impl.JoinPair(d.A, d.B, numberIn(word))
		}),
		onBoth("weave", func(d impl.Desk, word string) ([]int, []int, bool) { return impl.InterleavePair(d.A, d.B) }),
		onBoth("mate", func(d impl.Desk, word string) ([]int, []int, bool) { return impl.MateOf(d.A, d.B) }),
		onA("bits"+bitsForm, func(d impl.Desk, word string) ([]int, bool) {
			return impl.ModulateBits(bitsIn(strings.ReplaceAll(word, ",", "")))
		}),
		onA("least", func(d impl.Desk, word string) ([]int, bool) { return impl.LeastOf(d.A) }),
	}
}

func replyRows() []row {
	yes := func(is bool) string { return map[bool]string{true: "yes", false: "not"}[is] }
	gausses := func(all []gauss) string { return textForList(all, textForGauss) }
	return []row{
		telling("show", func(d impl.Desk) (string, bool) { return textFor(d.A) + " " + textFor(d.B), true }, strings.Clone),
		telling("golay", func(d impl.Desk) (bool, bool) { return impl.IsGolay(d.A, d.B) }, yes),
		telling("sums", func(d impl.Desk) ([]gauss, bool) { return impl.PairSums(d.A, d.B) }, gausses),
		telling("own", func(d impl.Desk) ([]gauss, bool) { return impl.OwnCorrelations(d.A) }, gausses),
		telling("sum", func(d impl.Desk) (gauss, bool) { return impl.SumOf(d.A) }, textForGauss),
		telling("energy", func(d impl.Desk) (int, bool) { return impl.SideEnergy(d.A) }, strconv.Itoa),
		telling("same", func(d impl.Desk) (bool, bool) { return impl.AreEquivalent(d.A, d.B) }, yes),
		telling("tell", func(d impl.Desk) ([]int, bool) { return impl.DemodulatePhases(d.A) }, func(bits []int) string { return textForList(bits, strconv.Itoa) }),
	}
}

// reader tells what lines do by the table, with the forms of its rows read as expressions.
type reader struct {
	rows  []row
	forms []*regexp.Regexp
}

func newReader() reader {
	r := reader{rows: append(effectRows(), replyRows()...)}
	for _, row := range r.rows {
		r.forms = append(r.forms, regexp.MustCompile(`^(?:`+row.form+`)$`))
	}
	return r
}

// told returns the desk behind a line, and the reply.
func (r reader) told(d impl.Desk, line string) (impl.Desk, string) {
	for i, form := range r.forms {
		groups := form.FindStringSubmatch(line)
		if groups == nil {
			continue
		}
		after, reply, ok := r.rows[i].do(d, groups[len(groups)-1])
		if !ok {
			return d, "no"
		}
		return after, reply
	}
	return d, "what"
}

// toldOfScript returns the replies to lines, the desk behind them, and the numbers of those that fail.
func (r reader) toldOfScript(lines []string) ([]string, impl.Desk, []int) {
	d := deskOf("++", "+-")
	var replies []string
	var failed []int
	for i, line := range lines {
		after, reply := r.told(d, line)
		if reply == "no" || reply == "what" {
			failed = append(failed, i+1)
		}
		d = after
		replies = append(replies, reply)
	}
	return replies, d, failed
}

// scriptOf ends each line with a newline.
func scriptOf(lines ...string) string {
	s := ""
	for _, line := range lines {
		s += line + "\n"
	}
	return s
}

// bitsText returns n bits with commas between them.
func bitsText(n int, seed int) string {
	return textForList(mixedBits(n, seed), strconv.Itoa)
}

// plainNames has the names of the lines of one word.
func plainNames() []string {
	return []string{"swap", "back", "bar", "times", "weave", "mate", "least", "show", "golay", "sums", "own", "sum", "energy", "same", "tell"}
}

// wordLines has for each name of lines of two words such lines, which all are in the table.
func wordLines() map[string][]string {
	words := map[string][]string{
		"a":    {"0", "+", "i", "-", "j", "+i-j", "jj", textFor(mixedPhases(7, 0)), textFor(rising(15)), textFor(rising(16)), strings.Repeat("-", 31), textFor(mixedPhases(32, 1))},
		"bits": {"0", "1", "0,0", "0,1", "1,0", "1,1", "1,0,1", bitsText(8, 0), bitsText(31, 0), bitsText(32, 0), bitsText(62, 0), bitsText(63, 0), bitsText(64, 0), bitsText(65, 0), bitsText(66, 0), bitsText(128, 0), bitsText(300, 0)},
	}
	words["b"] = words["a"]
	for _, name := range []string{"turn", "climb", "shift", "join"} {
		words[name] = []string{"0", "1", "2", "3", "4", "5", "7", "9", "10", "31", "32", "100", "998", "999", "1000", "1001", "1002", "2000", "10000", "99999", "100000", "999998", "999999"}
	}
	return words
}

// allLines returns lines of every row of the table.
func allLines() []string {
	all := plainNames()
	for name, words := range wordLines() {
		for _, word := range words {
			all = append(all, name+" "+word)
		}
	}
	slices.Sort(all)
	return all
}

// someDesks returns desks with Golay pairs and without, equivalent sequences and others, of equal and of different lengths, short and long ones.
func someDesks() []impl.Desk {
	var all []impl.Desk
	for _, a := range allSequences(2) {
		for _, b := range allSequences(2) {
			all = append(all, impl.Desk{A: a, B: b})
		}
	}
	for i, p := range someGolays() {
		if i < 3 || i%20 == 0 {
			all = append(all, impl.Desk{A: p[0], B: p[1]}, impl.Desk{A: p[1], B: turnedList(p[1], 1)})
		}
	}
	for n := 3; n <= impl.MaxLength; n++ {
		s := mixedPhases(n, 3)
		all = append(all, impl.Desk{A: s, B: mixedPhases(n, 4)}, impl.Desk{A: s, B: movedBy(s, []int{1, 2, 1, 1})}, impl.Desk{A: s, B: s[1:]}, impl.Desk{A: s[2:], B: rising(n)}, impl.Desk{A: repeated(n%4, n)}, impl.Desk{B: s})
	}
	return all
}

// badDesks returns desks that have a list that is no sequence.
func badDesks() []impl.Desk {
	var all []impl.Desk
	for _, s := range badPhases() {
		all = append(all, impl.Desk{A: s, B: seq("+-")}, impl.Desk{A: seq("++"), B: s}, impl.Desk{A: s, B: s}, impl.Desk{A: s}, impl.Desk{B: s})
	}
	return all
}

func TestLimitsOfScripts(t *testing.T) {
	if impl.MaxScript != 3000 || impl.MaxLines != 50 {
		t.Error("the limits are", impl.MaxScript, impl.MaxLines)
	}
}

// TestConsoleExample runs the document's example.
func TestConsoleExample(t *testing.T) {
	lines := []string{"golay", "join 0", "sums", "own", "turn 1", "tell", "bits 0,1", "fly"}
	replies := []string{"yes", "+++- ++-+", "8+0i,0+0i,0+0i,0+0i", "4+0i,1+0i,0+0i,-1+0i", "iiij", "0,1,0,1,0,1,1,0", "i", "what"}
	wantScript(t, scriptOf(lines...), replies, deskOf("i", "++-+"), []int{8})
	desks := []impl.Desk{
		deskOf("++", "+-"), deskOf("++", "+-"), deskOf("+++-", "++-+"), deskOf("+++-", "++-+"), deskOf("+++-", "++-+"),
		deskOf("iiij", "++-+"), deskOf("iiij", "++-+"), deskOf("i", "++-+"), deskOf("i", "++-+"),
	}
	for i, line := range lines {
		wantLine(t, desks[i], line, desks[i+1], replies[i])
	}
}

func TestFirstDesk(t *testing.T) {
	for range 2 {
		d := impl.FirstDesk()
		if !areSameDesks(d, impl.Desk{A: []int{0, 0}, B: []int{0, 2}}) {
			t.Error("the first desk is", d)
		}
		d.A[1], d.B[1] = 3, 3
	}
}

func TestIsDesk(t *testing.T) {
	for _, d := range append(someDesks(), impl.Desk{}, impl.Desk{A: []int{}, B: nil}, impl.FirstDesk()) {
		if !impl.IsDesk(d) {
			t.Errorf("%v should be a desk", d)
		}
	}
	for _, d := range badDesks() {
		if impl.IsDesk(d) {
			t.Errorf("%v should be no desk", d)
		}
	}
}

// deskCase is a line on a desk, the desk behind it, and the reply, found by hand.
type deskCase struct {
	a, b         string
	line         string
	wantA, wantB string
	reply        string
}

func effectCases() []deskCase {
	long := strings.Repeat("i", 16)
	return []deskCase{
		{"++", "+-", "a +i-j", "+i-j", "+-", "+i-j"}, {"++", "+-", "a 0", "", "+-", "0"}, {"", "", "a j", "j", "", "j"}, {"i", "j", "a i", "i", "j", "i"}, {"+", "+", "a -", "-", "+", "-"},
		{"++", "+-", "b +i-j", "++", "+i-j", "+i-j"}, {"++", "+-", "b 0", "++", "", "0"}, {"", "", "b j", "", "j", "j"}, {"i", "j", "b +", "i", "+", "+"},
		{"", "", "a " + long + long, long + long, "", long + long}, {"", "", "b " + long + long, "", long + long, long + long},
		{"+i", "-", "swap", "-", "+i", "- +i"}, {"", "-", "swap", "-", "", "- 0"}, {"-", "", "swap", "", "-", "0 -"}, {"", "", "swap", "", "", "0 0"}, {"+", "+", "swap", "+", "+", "+ +"},
		{"+i-j", "-", "turn 1", "i-j+", "-", "i-j+"}, {"+i-j", "-", "turn 0", "+i-j", "-", "+i-j"}, {"+i-j", "-", "turn 6", "-j+i", "-", "-j+i"}, {"+i-j", "-", "turn 999", "j+i-", "-", "j+i-"}, {"+i-j", "-", "turn 1000", "+i-j", "-", "+i-j"},
		{"+i-j", "-", "turn 1001", "+i-j", "-", "no"}, {"+i-j", "-", "turn 999999", "+i-j", "-", "no"}, {"", "-", "turn 3", "", "-", "0"}, {"", "-", "turn 1001", "", "-", "no"},
		{"++++", "-", "climb 1", "+i-j", "-", "+i-j"}, {"jjjj", "-", "climb 0", "jjjj", "-", "jjjj"}, {"++++", "-", "climb 2", "+-+-", "-", "+-+-"}, {"++++", "-", "climb 3", "+j-i", "-", "+j-i"},
		{"++++", "-", "climb 4", "++++", "-", "no"}, {"++++", "-", "climb 999999", "++++", "-", "no"}, {"", "-", "climb 3", "", "-", "0"}, {"", "-", "climb 4", "", "-", "no"},
		{"+i-j", "-", "shift 1", "i-j+", "-", "i-j+"}, {"++ij", "-", "shift 3", "j++i", "-", "j++i"}, {"++i", "-", "shift 0", "++i", "-", "++i"}, {"++i", "-", "shift 1000", "+i+", "-", "+i+"},
		{"++i", "-", "shift 1001", "++i", "-", "no"}, {"++i", "-", "shift 999999", "++i", "-", "no"}, {"", "-", "shift 7", "", "-", "0"}, {"", "-", "shift 1001", "", "-", "no"},
		{"++ij", "-+", "back", "ji++", "-+", "ji++"}, {"", "-+", "back", "", "-+", "0"}, {"++ij-", "ij", "bar", "++ji-", "ij", "++ji-"}, {"", "ij", "bar", "", "ij", "0"},
		{"+ij", "iij", "times", "i--", "iij", "i--"}, {"", "", "times", "", "", "0"}, {"+ij", "+i", "times", "+ij", "+i", "no"}, {"", "+", "times", "", "+", "no"}, {"+", "", "times", "+", "", "no"},
		{"++", "+-", "join 0", "+++-", "++-+", "+++- ++-+"}, {"++", "+-", "join 1", "++ij", "++ji", "++ij ++ji"}, {"++", "+-", "join 2", "++-+", "+++-", "++-+ +++-"}, {"++", "+-", "join 3", "++ji", "++ij", "++ji ++ij"}, {"i", "j", "join 0", "ij", "ii", "ij ii"},
		{"++", "+-", "join 4", "++", "+-", "no"}, {"++", "+-", "join 999999", "++", "+-", "no"}, {"++", "+", "join 0", "++", "+", "no"}, {"", "", "join 0", "", "", "no"}, {"", "+", "join 0", "", "+", "no"},
		{long, long, "join 0", long + long, long + strings.Repeat("j", 16), long + long + " " + long + strings.Repeat("j", 16)}, {long + "i", long + "+", "join 0", long + "i", long + "+", "no"},
		{"++", "+-", "weave", "+++-", "+-++", "+++- +-++"}, {"i", "j", "weave", "ij", "ii", "ij ii"}, {"ij", "+-", "weave", "i+j-", "i-j+", "i+j- i-j+"},
		{"++", "+", "weave", "++", "+", "no"}, {"", "", "weave", "", "", "no"}, {"+", "", "weave", "+", "", "no"}, {long + "i", long + "+", "weave", long + "i", long + "+", "no"},
		{"+i", "+j", "mate", "i+", "i-", "i+ i-"}, {"++", "+-", "mate", "-+", "--", "-+ --"}, {"+++-", "++-+", "mate", "+-++", "+---", "+-++ +---"}, {"++", "+", "mate", "++", "+", "no"}, {"", "", "mate", "", "", "no"}, {"", "+", "mate", "", "+", "no"},
		{"++", "+-", "bits 0,1", "i", "+-", "i"}, {"", "", "bits 0,0,0,1,1,1,1,0", "+i-j", "", "+i-j"}, {"++", "+-", "bits 1,0", "j", "+-", "j"},
		{"++", "+-", "bits 0", "++", "+-", "no"}, {"++", "+-", "bits 1", "++", "+-", "no"}, {"++", "+-", "bits 0,1,1", "++", "+-", "no"},
		{"", "+-", "bits 0,1" + strings.Repeat(",0,1", 31), long + long, "+-", long + long}, {"", "+-", "bits 0,1" + strings.Repeat(",0,1", 32), "", "+-", "no"}, {"", "+-", "bits 0" + strings.Repeat(",0", 64), "", "+-", "no"},
		{"i-j", "+-", "least", "+++", "+-", "+++"}, {"i++", "i++", "least", "++i", "i++", "++i"}, {"", "i", "least", "", "i", "0"}, {long[1:], "j", "least", strings.Repeat("+", 15), "j", strings.Repeat("+", 15)}, {long, "j", "least", long, "j", "no"},
	}
}

func replyCases() []deskCase {
	long := strings.Repeat("i", 16)
	cases := []deskCase{
		{a: "++", b: "+-", line: "show", reply: "++ +-"}, {a: "+i", line: "show", reply: "+i 0"}, {b: "j", line: "show", reply: "0 j"}, {line: "show", reply: "0 0"}, {a: long + long, b: long + long, line: "show", reply: long + long + " " + long + long},
		{a: "++", b: "+-", line: "golay", reply: "yes"}, {a: "++", b: "++", line: "golay", reply: "not"}, {a: "++-", b: "+i+", line: "golay", reply: "yes"}, {a: "i", b: "j", line: "golay", reply: "yes"},
		{a: "++", b: "+", line: "golay", reply: "no"}, {a: "+", b: "++", line: "golay", reply: "no"}, {line: "golay", reply: "no"}, {a: "+", line: "golay", reply: "no"},
		{a: "++", b: "+-", line: "sums", reply: "4+0i,0+0i"}, {a: "+i", b: "++", line: "sums", reply: "4+0i,1+1i"}, {a: "+j", b: "--", line: "sums", reply: "4+0i,1-1i"}, {a: "+", b: "i", line: "sums", reply: "2+0i"},
		{a: "++", b: "+", line: "sums", reply: "no"}, {line: "sums", reply: "no"}, {b: "+", line: "sums", reply: "no"},
		{a: "++-", b: "+", line: "own", reply: "3+0i,0+0i,-1+0i"}, {a: "+i", b: "+", line: "own", reply: "2+0i,0+1i"}, {a: "i+", b: "+", line: "own", reply: "2+0i,0-1i"}, {a: "j", line: "own", reply: "1+0i"}, {b: "+", line: "own", reply: "-"}, {line: "own", reply: "-"},
		{a: "++i", b: "j", line: "sum", reply: "2+1i"}, {a: "jj-", b: "+", line: "sum", reply: "-1-2i"}, {b: "+", line: "sum", reply: "0+0i"}, {a: long + long, line: "sum", reply: "0+32i"},
		{a: "++-", b: "+++", line: "energy", reply: "1"}, {a: "+++", b: "++-", line: "energy", reply: "5"}, {a: "+", b: "++", line: "energy", reply: "0"}, {b: "++", line: "energy", reply: "0"}, {a: long + long, line: "energy", reply: "10416"},
		{a: "+i", b: "++", line: "same", reply: "yes"}, {a: "++i", b: "++-", line: "same", reply: "not"}, {a: "+", b: "++", line: "same", reply: "not"}, {line: "same", reply: "yes"}, {a: "+", line: "same", reply: "not"},
		{a: long[1:], b: long[1:], line: "same", reply: "yes"}, {a: long, b: long, line: "same", reply: "no"}, {a: "+", b: long, line: "same", reply: "no"}, {a: long, b: "+", line: "same", reply: "no"},
		{a: "+i-j", b: "+", line: "tell", reply: "0,0,0,1,1,1,1,0"}, {a: "-", b: "+", line: "tell", reply: "1,1"}, {b: "+", line: "tell", reply: "-"}, {line: "tell", reply: "-"}, {a: long + long, line: "tell", reply: "0,1" + strings.Repeat(",0,1", 31)},
	}
	for i, c := range cases {
		cases[i].wantA, cases[i].wantB = c.a, c.b
	}
	return cases
}

func TestEffectsByHand(t *testing.T) {
	for _, c := range effectCases() {
		wantLine(t, deskOf(c.a, c.b), c.line, deskOf(c.wantA, c.wantB), c.reply)
	}
}

func TestRepliesByHand(t *testing.T) {
	for _, c := range replyCases() {
		wantLine(t, deskOf(c.a, c.b), c.line, deskOf(c.wantA, c.wantB), c.reply)
	}
}

// TestNilLists takes nil for the empty sequence.
func TestNilLists(t *testing.T) {
	wantLine(t, impl.Desk{}, "show", deskOf("", ""), "0 0")
	wantLine(t, impl.Desk{A: seq("+")}, "swap", deskOf("", "+"), "0 +")
	wantLine(t, impl.Desk{B: seq("+")}, "own", deskOf("", "+"), "-")
	wantLine(t, impl.Desk{}, "golay", deskOf("", ""), "no")
	wantLine(t, impl.Desk{}, "fly", deskOf("", ""), "what")
}

// TestLinesDoWhatCallsDo tries lines of every row on desks of every kind, and compares with the calls that the rows name.
func TestLinesDoWhatCallsDo(t *testing.T) {
	r := newReader()
	lines := allLines()
	count := map[string]int{}
	for _, d := range someDesks() {
		for _, line := range lines {
			after, reply := r.told(d, line)
			wantLine(t, d, line, after, reply)
			name, _, _ := strings.Cut(line, " ")
			switch reply {
			case "no", "yes", "not", "what":
				count[name+" "+reply]++
			default:
				count[name]++
			}
		}
	}
	for _, seen := range []string{"a", "b", "swap", "turn", "turn no", "climb", "climb no", "shift", "shift no", "back", "bar", "times", "times no", "join", "join no", "weave", "weave no", "mate", "mate no", "bits", "bits no", "least", "least no", "show", "golay yes", "golay not", "golay no", "sums", "sums no", "own", "sum", "energy", "same yes", "same not", "same no", "tell"} {
		if count[seen] < 10 {
			t.Error("there are too few lines of", seen)
		}
		delete(count, seen)
	}
	if len(count) > 0 {
		t.Error("there are others:", count)
	}
}

// notNumbers has words that are no numbers.
func notNumbers() []string {
	return []string{
		"", "00", "01", "007", "0000", "0999999", "000000", "0000001", "-1", "+1", "-0", "+0", "--1", "1-", "1+", "1.0", "1.", ".5", "1e3", "0x1", "0b1", "0o7", "1_0", "1_000", "1,0", "1,",
		"1000000", "1000001", "9999999", "4294967296", "4294967297", "9223372036854775807", "9223372036854775808", "18446744073709551617", "99999999999999999999999", "-999999", "-9223372036854775808",
		"x", "one", "+", "i", "O", "1x", "x1", "\t1", "1\t", "1\r", "\x00", "1\x00", "\xff", "1\xff", "\u0661", "\uff11", "\u00bd", "1\u00a0", "inf", "NaN", strings.Repeat("0", 100), "1" + strings.Repeat("0", 100),
	}
}

// notTexts has words that are no SequenceTexts.
func notTexts() []string {
	return []string{
		"", "00", "+0", "0+", "0i", "000", "x", "I", "J", "1", "+1", "+x", "x+", "+ix-", "+,-", "+\t", "\t+", "+\r", "\x00", "+\x00", "\xff", "i\xc3", "\xc3\xae", "\u2212", "\u2295", "o", "O", "_", "=",
		strings.Repeat("+", 33), strings.Repeat("j", 64), strings.Repeat("-", 32) + "0", strings.Repeat("i", 1000),
	}
}

// notBitTexts has words that are no bits.
func notBitTexts() []string {
	return []string{
		"", ",", ",,", "0,", "1,", ",0", ",1", "0,1,", ",0,1", "0,,1", "0,1,,0,1", "2", "0,2", "2,0", "3,3", "00", "01", "10", "0,00", "0,01", "00,0", "-1", "-0", "+0", "0,-1", "+1,0", "0.1", "0;1", "0.0,1", "x", "0,x", "a,b", "O,1", "l,0",
		"0,1\t", "\t0,1", "0,\t1", "0,1\r", "0\x00,1", "0,1\x00", "\x00", "\x00,\x01", "\xff", "0,\xff", "\u0660,\u0661", "\uff10,\uff11", "0\uff0c1", "0,1;", "-", "0,-", bitsText(64, 0) + ",", "," + bitsText(64, 0), bitsText(64, 0) + ",2",
	}
}

// notLines has lines that are in no row of the table.
func notLines() []string {
	all := []string{
		"", " ", "  ", strings.Repeat(" ", 100), "fly", "what", "no", "yes", "not", "0", "1", "+", "+i", "-", ",", "A", "B", "c", "A +", "c +", "ab +", "ab", "turn1", "turn-1", "join0", "a+", "b0", "bits0,1", "bits,0,1", "\x00", "\t", "\r", "\xff", "\xc3\xa4 +",
		"a", "b", "turn", "climb", "shift", "join", "bits", "swap swap", "show golay", "a + b -", "a + -", "turn 1 2", "join 0 0", "bits 0 1", "bits 0,1 0,1", "turn 5000 x", "least least", "show\rshow", "alternate", "rank", "help", "quit", "#show", "show;", "show.", "\"show\"",
	}
	for _, name := range plainNames() {
		for _, form := range []string{" %s", "%s ", "  %s", "%s  ", " %s ", "%s x", "%s 0", "%s 1", "%s +", "%s 0,1", "x %s", "%s\t", "\t%s", "%s\r", "%s\x00", "\x00%s", "%sx", "x%s", "%ss", "%[1]s %[1]s", "\uff00%s", "%s\xff"} {
			all = append(all, fmt.Sprintf(form, name))
		}
		all = append(all, name[1:], name[:len(name)-1], strings.ToUpper(name), strings.ToUpper(name[:1])+name[1:], name[:1]+" "+name[1:])
	}
	for name, words := range wordLines() {
		for _, word := range words {
			line := name + " " + word
			all = append(all, " "+line, line+" ", name+"  "+word, "  "+line, line+"  ", line+" 0", line+" "+word, line+" x", name+"\t"+word, name+word+" ", line+"\t", line+"\r", line+"\x00", strings.ToUpper(name)+" "+word, name+"s "+word, "x"+line, word+" "+name, word)
		}
		all = append(all, name, name+" ", name+"  ", " "+name, name+" x")
	}
	bad := map[string][]string{"a": notTexts(), "b": notTexts(), "bits": notBitTexts(), "turn": notNumbers(), "climb": notNumbers(), "shift": notNumbers(), "join": notNumbers()}
	for name, words := range bad {
		for _, word := range words {
			all = append(all, name+" "+word)
		}
	}
	for b := range 256 {
		if b != '\n' {
			all = append(all, string([]byte{byte(b)}), "show"+string([]byte{byte(b)}), string([]byte{byte(b)})+"show")
		}
	}
	return slices.DeleteFunc(all, func(line string) bool { return slices.Contains(plainNames(), line) }) // sums without its s is another name
}

func TestWhat(t *testing.T) {
	r := newReader()
	for _, line := range notLines() {
		for _, d := range []impl.Desk{deskOf("++", "+-"), deskOf("", ""), deskOf("i", "+j"), {A: rising(32), B: rising(32)}} {
			if _, reply := r.told(d, line); reply != "what" {
				t.Errorf("%q should be no line of the table", line)
			}
			wantLine(t, d, line, d, "what")
		}
	}
}

// TestWhatComesFirst has lines that are none of the table, whose functions would fail.
func TestWhatComesFirst(t *testing.T) {
	d := deskOf("+", "")
	for _, line := range []string{"times ", "times x", "join 4 ", "join 4 4", "join  0", "golay ", "sums 0", "turn 1001 ", "turn 1001 x", "bits 0 ", "bits 0,0,0 x", "weave weave", "mate "} {
		wantLine(t, d, line, d, "what")
	}
	for _, line := range []string{"times", "join 4", "join 0", "golay", "sums", "turn 1001", "bits 0", "weave", "mate"} {
		wantLine(t, d, line, d, "no")
	}
}

// TestAllNumbers tries all numbers around each power of ten and each limit: those up to 999999 are numbers, though no function takes them.
func TestAllNumbers(t *testing.T) {
	d := deskOf("+i-", "++j")
	turned := func(n int) []int { return turnedList(d.A, n) }
	for _, from := range []int{0, 90, 985, 9985, 99985, 999985, 1<<31 - 15, 1 << 32, math.MaxInt - 30} {
		for n := from; n < from+30; n++ {
			line := "turn " + strconv.Itoa(n)
			switch {
			case n <= 1000:
				wantLine(t, d, line, impl.Desk{A: turned(n), B: d.B}, textFor(turned(n)))
			case n <= 999999:
				wantLine(t, d, line, d, "no")
			default:
				wantLine(t, d, line, d, "what")
			}
			wantLine(t, d, "turn 0"+strconv.Itoa(n), d, "what")
			wantLine(t, d, "turn -"+strconv.Itoa(n), d, "what")
			wantLine(t, d, "turn +"+strconv.Itoa(n), d, "what")
		}
	}
}

// TestAllTexts sets A and B to sequences of all kinds, and shows them.
func TestAllTexts(t *testing.T) {
	for _, s := range someSequences() {
		wantLine(t, deskOf("ij", "j"), "a "+textFor(s), impl.Desk{A: s, B: seq("j")}, textFor(s))
		wantLine(t, deskOf("ij", "j"), "b "+textFor(s), impl.Desk{A: seq("ij"), B: s}, textFor(s))
		wantLine(t, impl.Desk{A: s, B: seq("j")}, "show", impl.Desk{A: s, B: seq("j")}, textFor(s)+" j")
		wantLine(t, impl.Desk{A: seq("ij"), B: s}, "show", impl.Desk{A: seq("ij"), B: s}, "ij "+textFor(s))
	}
}

// TestBitLines makes sequences of bits, and tells them.
func TestBitLines(t *testing.T) {
	for n := 1; n <= 140; n++ {
		for seed := range 3 {
			bits := mixedBits(n, seed)
			line := "bits " + textForList(bits, strconv.Itoa)
			if n%2 == 1 || n > impl.MaxBits {
				wantLine(t, deskOf("ij", "j"), line, deskOf("ij", "j"), "no")
				continue
			}
			s := phasesFor(bits)
			wantLine(t, deskOf("ij", "j"), line, impl.Desk{A: s, B: seq("j")}, textFor(s))
			wantLine(t, impl.Desk{A: s, B: seq("j")}, "tell", impl.Desk{A: s, B: seq("j")}, textForList(bits, strconv.Itoa))
		}
	}
}

// TestLongLines tries lines of as many bytes as there may be, and of more.
func TestLongLines(t *testing.T) {
	d := deskOf("++", "+-")
	for n := impl.MaxScript - 3; n <= impl.MaxScript; n++ {
		wantLine(t, d, strings.Repeat("x", n), d, "what")
		wantLine(t, d, strings.Repeat(" ", n), d, "what")
		wantLine(t, d, "show"+strings.Repeat(" ", n-4), d, "what")
		wantLine(t, d, "turn "+strings.Repeat("0", n-5), d, "what")
		wantLine(t, d, "a "+strings.Repeat("+", n-2), d, "what")
		wantLine(t, d, strings.Repeat("\xff", n), d, "what")
	}
	wantLine(t, d, "bits "+strings.Repeat("0,", (impl.MaxScript-6)/2)+"0", d, "no")
	wantLine(t, d, "bits "+strings.Repeat("0,", (impl.MaxScript-6)/2), d, "what")
	for _, n := range []int{impl.MaxScript + 1, impl.MaxScript + 2, 2 * impl.MaxScript, 100000} {
		wantNoLine(t, d, strings.Repeat("x", n))
		wantNoLine(t, d, strings.Repeat(" ", n))
		wantNoLine(t, d, "show"+strings.Repeat(" ", n-4))
		wantNoLine(t, d, "bits 0"+strings.Repeat(",0", (n-6)/2)+",")
		wantNoLine(t, d, strings.Repeat("\u00e4", n/2)+"x")
	}
}

// TestLinesWithNewlines refuses lines with a newline in every place.
func TestLinesWithNewlines(t *testing.T) {
	d := deskOf("++", "+-")
	for _, line := range []string{"", "show", "turn 1", "a +i", "bits 0,1", "fly", "swap", strings.Repeat("x", impl.MaxScript-1)} {
		for i := 0; i <= len(line); i += 1 + len(line)/20 {
			wantNoLine(t, d, line[:i]+"\n"+line[i:])
		}
		wantNoLine(t, d, line+"\n")
		wantNoLine(t, d, line+"\n\n")
	}
	wantNoLine(t, d, "show\nshow")
	wantNoLine(t, d, "show\r\n")
}

// TestLinesOnNoDesk tries lines of every row, and others, on what is no desk.
func TestLinesOnNoDesk(t *testing.T) {
	lines := append(plainNames(), "a +", "b +", "a 0", "b 0", "turn 1", "climb 1", "shift 1", "join 0", "bits 0,1", "turn 1001", "bits 0", "", "fly", "turn x", "show\n", strings.Repeat("x", impl.MaxScript+1))
	for i, d := range badDesks() {
		wantNoLine(t, d, lines[i%len(lines)])
		wantNoLine(t, d, lines[(7*i+i/len(lines)+3)%len(lines)])
	}
	for _, line := range lines {
		for _, s := range [][]int{{4}, {-1}, {0, 4}, rising(33), {math.MinInt}} {
			wantNoLine(t, impl.Desk{A: s, B: seq("+")}, line)
			wantNoLine(t, impl.Desk{A: seq("+"), B: s}, line)
		}
	}
}

// TestLinesKeepTheDesk checks that the desk of the caller is as it was behind each line, and that the one behind it is another one.
func TestLinesKeepTheDesk(t *testing.T) {
	for _, line := range append(allLines(), "fly", "") {
		d := deskOf("+ij", "+-j")
		after, _, ok := impl.DeskLine(d, line)
		wantOne(t, called("DeskLine", line), areSameDesks(d, deskOf("+ij", "+-j")), ok, true, true)
		for _, s := range [][]int{after.A, after.B} {
			for i := range s {
				s[i] = -7
			}
		}
		wantOne(t, called("DeskLine", line), areSameDesks(d, deskOf("+ij", "+-j")), ok, true, true)
	}
}

func TestScriptsByHand(t *testing.T) {
	for _, c := range []struct {
		lines   []string
		replies []string
		desk    impl.Desk
		failed  []int
	}{
		{nil, nil, deskOf("++", "+-"), nil},
		{[]string{""}, []string{"what"}, deskOf("++", "+-"), []int{1}},
		{[]string{"", "", ""}, []string{"what", "what", "what"}, deskOf("++", "+-"), []int{1, 2, 3}},
		{[]string{"show"}, []string{"++ +-"}, deskOf("++", "+-"), nil},
		{[]string{"swap", "", "show"}, []string{"+- ++", "what", "+- ++"}, deskOf("+-", "++"), []int{2}},
		{[]string{"a i", "turn 1", "turn 1001", "turn 1"}, []string{"i", "-", "no", "j"}, deskOf("j", "+-"), []int{3}},
		{[]string{"a i", "times", "b j", "times", "show"}, []string{"i", "no", "j", "+", "+ j"}, deskOf("+", "j"), []int{2}},
		{[]string{"fly", "a 0", "own", "tell", "golay", "b 0", "show", "same"}, []string{"what", "0", "-", "-", "no", "0", "0 0", "yes"}, deskOf("", ""), []int{1, 5}},
		{[]string{"join 0", "join 0", "join 0", "join 0", "join 0", "energy", "least"}, []string{"+++- ++-+", "+++-++-+ +++---+-", "+++-++-++++---+- +++-++-+---+++-+", "+++-++-++++---+-+++-++-+---+++-+ +++-++-++++---+----+--+-+++---+-", "no", strconv.Itoa(total(sideNorms(seq("+++-++-++++---+-+++-++-+---+++-+")))), "no"}, deskOf("+++-++-++++---+-+++-++-+---+++-+", "+++-++-++++---+----+--+-+++---+-"), []int{5, 7}},
		{[]string{"bits 0,1,1,1", "b +i", "same", "weave", "golay", "mate", "back", "bar"}, []string{"i-", "+i", "yes", "i+-i i--j", "not", "i--j i+-i", "j--i", "i--j"}, deskOf("i--j", "i+-i"), nil},
	} {
		wantScript(t, scriptOf(c.lines...), c.replies, c.desk, c.failed)
	}
}

// mixedLines returns n lines without a simple order, other ones for each seed, most of which have an effect.
func mixedLines(n int, seed int) []string {
	pool := append(slices.Repeat(plainNames(), 2), "turn 1", "turn 2", "turn 7", "climb 1", "climb 2", "climb 3", "shift 1", "shift 3", "join 0", "join 1", "join 3",
		"a +i", "a ij-", "a 0", "b j-", "b +++", "b 0", "b i", "bits 0,1,1,0", "bits 1,1,0,1", "bits 0,1,0,0,1,1", "bits 1", "turn 1001", "climb 4", "join 4", "shift 2000", "", "fly", "turn", "turn 01", "a", "b x", "swap ", "bits 0,,1")
	state := uint32(7919*n + 31*seed)
	var lines []string
	for range n {
		state = state*1664525 + 1013904223
		lines = append(lines, pool[int(state>>8)%len(pool)])
	}
	return lines
}

// TestScriptsAreTheirLines runs scripts, and executes their lines one after the other.
func TestScriptsAreTheirLines(t *testing.T) {
	r := newReader()
	for n := range impl.MaxLines + 1 {
		for seed := range 30 {
			lines := mixedLines(n, seed)
			replies, desk, failed := r.toldOfScript(lines)
			wantScript(t, scriptOf(lines...), replies, desk, failed)
			d := impl.FirstDesk()
			for i, line := range lines {
				after, reply, ok := impl.DeskLine(d, line)
				wantOne(t, called("DeskLine", d, line), reply, ok, replies[i], true)
				d = after
			}
			wantOne(t, called("the desk behind", lines), areSameDesks(d, desk), true, true, true)
		}
	}
}

// TestEachLineInScripts runs each line of the table, and others, alone, and between two others.
func TestEachLineInScripts(t *testing.T) {
	r := newReader()
	for _, line := range append(allLines(), notLines()...) {
		for _, lines := range [][]string{{line}, {"join 0", line, "show"}, {"a 0", line, line}} {
			replies, desk, failed := r.toldOfScript(lines)
			wantScript(t, scriptOf(lines...), replies, desk, failed)
		}
	}
}

// TestLongScripts runs scripts of as many lines and of as many bytes as there may be.
func TestLongScripts(t *testing.T) {
	first := deskOf("++", "+-")
	what := slices.Repeat([]string{"what"}, impl.MaxLines)
	for n := impl.MaxLines - 2; n <= impl.MaxLines; n++ {
		wantScript(t, strings.Repeat("\n", n), what[:n], first, upTo(n + 1)[1:])
		wantScript(t, strings.Repeat("show\n", n), slices.Repeat([]string{"++ +-"}, n), first, nil)
	}
	for n := impl.MaxScript - 3; n <= impl.MaxScript; n++ {
		wantScript(t, strings.Repeat("x", n-1)+"\n", what[:1], first, []int{1})
		wantScript(t, "swap\n"+strings.Repeat(" ", n-11)+"\nshow\n", []string{"+- ++", "what", "+- ++"}, deskOf("+-", "++"), []int{2})
	}
	wide := strings.Repeat("y", impl.MaxScript/impl.MaxLines-1) + "\n"
	wantScript(t, strings.Repeat(wide, impl.MaxLines), what, first, upTo(impl.MaxLines + 1)[1:])
	wantNoScript(t, strings.Repeat(wide, impl.MaxLines-1)+"y"+wide)
	wantNoScript(t, strings.Repeat(wide, impl.MaxLines)+"\n")
}

// TestNoScripts refuses texts whose last line has no end, and ones that are too long.
func TestNoScripts(t *testing.T) {
	for _, s := range []string{
		"show", " ", "x", "\r", "\x00", "\nshow", "show\nshow", "show\n ", "show\n\nshow", "show\n\r", "\n\n\n ", "golay\njoin 0\nsums", "fly\nfly", strings.Repeat("show\n", 49) + "show", strings.Repeat("show\n", 50) + "show", strings.Repeat("\n", 50) + " ",
	} {
		wantNoScript(t, s)
	}
	for n := 1; n <= 30; n++ {
		s := scriptOf(mixedLines(n, 99)...)
		wantNoScript(t, s+"x")
		wantNoScript(t, s+"show")
		wantNoScript(t, s+" ")
	}
	for _, n := range []int{impl.MaxLines + 1, impl.MaxLines + 2, 2 * impl.MaxLines, 500} {
		wantNoScript(t, strings.Repeat("\n", n))
		wantNoScript(t, strings.Repeat("show\n", n))
		wantNoScript(t, scriptOf(mixedLines(n, 5)...))
	}
	for _, n := range []int{impl.MaxScript + 1, impl.MaxScript + 2, 2 * impl.MaxScript, 100000} {
		wantNoScript(t, strings.Repeat("x", n-1)+"\n")
		wantNoScript(t, "show\n"+strings.Repeat(" ", n-6)+"\n")
		wantNoScript(t, strings.Repeat("x", n-6)+"\nshow\n")
		wantNoScript(t, strings.Repeat("\n", n))
		wantNoScript(t, strings.Repeat("x", n))
	}
	wantNoScript(t, strings.Repeat("\u00e4", impl.MaxScript/2)+"\n")
	wantNoScript(t, strings.Repeat("\U0001f600", impl.MaxScript/4)+"\n")
	wantScript(t, strings.Repeat("\u00e4", impl.MaxScript/2-1)+"x\n", []string{"what"}, deskOf("++", "+-"), []int{1})
	wantNoScript(t, strings.Repeat("x", impl.MaxScript))
	wantNoScript(t, strings.Repeat("x", impl.MaxScript-1))
}
