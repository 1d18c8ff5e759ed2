package tests

import (
	"fmt"
	"math"
	"slices"
	"strings"
	"testing"

	"loop.example/g01177/impl"
)

// The tests of promise 3: chapter 3, Golay pairs.

// two has the sequences of a pair.
type two [2][]int

// texts returns the pair of two texts.
func texts(a string, b string) two {
	return two{seq(a), seq(b)}
}

// wantPair fails the test unless both sequences are as wanted; where ok is not wanted, they are to be zero.
func wantPair(t *testing.T, call string, a []int, b []int, ok bool, want two, fine bool) {
	t.Helper()
	wantList(t, call+", the first one,", a, ok, want[0], fine)
	wantList(t, call+", the second one,", b, ok, want[1], fine)
}

// wantGolay fails the test unless two sequences cancel at each shift and IsGolay, PairSums and SquaresOf tell so.
func wantGolay(t *testing.T, call string, a []int, b []int) {
	t.Helper()
	n := len(a)
	if n == 0 || !cancels(a, b) {
		t.Errorf("%s makes %v and %v, which are no Golay pair", call, a, b)
		return
	}
	is, ok := impl.IsGolay(a, b)
	wantOne(t, call+", IsGolay", is, ok, true, true)
	sums, ok := impl.PairSums(a, b)
	wantList(t, call+", PairSums", sums, ok, append([]gauss{g(2*n, 0)}, make([]gauss, n-1)...), true)
	squares, ok := impl.SquaresOf(a, b)
	wantList(t, call+", SquaresOf", squares, ok, repeated(2*n, 4), true)
}

// turnedList returns a list with k more in each phase.
func turnedList(s []int, k int) []int {
	all := make([]int, len(s))
	for i, p := range s {
		all[i] = (p + k) % 4
	}
	return all
}

// climbedList returns a list with k times its index more in each phase.
func climbedList(s []int, k int) []int {
	all := make([]int, len(s))
	for i, p := range s {
		all[i] = (p + k*i) % 4
	}
	return all
}

// mirrored returns a list backwards and conjugate.
func mirrored(s []int) []int {
	var all []int
	for _, p := range s {
		all = slices.Insert(all, 0, (4-p)%4)
	}
	return all
}

// woven returns the phases of two lists in turn.
func woven(a []int, b []int) []int {
	var all []int
	for i := range a {
		all = append(all, a[i], b[i])
	}
	return all
}

// sumsOf returns the sums of the own aperiodic correlations of two lists of one length at 0, 1, .., n - 1.
func sumsOf(a []int, b []int) []gauss {
	var all []gauss
	for u := range a {
		all = append(all, plus(aperiodicSum(a, a, u), aperiodicSum(b, b, u)))
	}
	return all
}

// isZero tells whether all numbers are 0.
func isZero(numbers []gauss) bool {
	return !slices.ContainsFunc(numbers, func(z gauss) bool { return z != gauss{} })
}

// cancels tells whether two lists of one length, at least 1, are a Golay pair.
func cancels(a []int, b []int) bool {
	return isZero(sumsOf(a, b)[1:])
}

// cancelsCross tells whether the cross correlations of the first and of the second sequences of two pairs cancel at each shift.
func cancelsCross(p two, q two) bool {
	var sums []gauss
	for u := 1 - len(p[0]); u < len(p[0]); u++ {
		sums = append(sums, plus(aperiodicSum(p[0], q[0], u), aperiodicSum(p[1], q[1], u)))
	}
	return isZero(sums)
}

// sequencesOf returns all sequences of just n phases.
func sequencesOf(n int) [][]int {
	return slices.DeleteFunc(allSequences(n), func(s []int) bool { return len(s) < n })
}

// golaysFrom finds all Golay pairs of n phases, in the order of ranks, by the correlations that the second one is to have.
func golaysFrom(n int) []two {
	all := sequencesOf(n)
	with := map[string][][]int{}
	for _, s := range all {
		key := fmt.Sprint(sidesOf(s, 1))
		with[key] = append(with[key], s)
	}
	var found []two
	for _, a := range all {
		for _, b := range with[fmt.Sprint(sidesOf(a, -1))] {
			found = append(found, two{a, b})
		}
	}
	return found
}

// sidesOf returns the own correlations at 1..n - 1, each times a sign.
func sidesOf(s []int, sign int) []gauss {
	all := make([]gauss, len(s)-1)
	for i := range all {
		z := aperiodicSum(s, s, i+1)
		all[i] = g(sign*z.Re, sign*z.Im)
	}
	return all
}

// someGolays returns all Golay pairs of at most 5 phases, and one of each of 8, 10 and 16.
func someGolays() []two {
	all := []two{
		texts("+++---+-", "+++-++-+"),
		texts("++-+-+--++", "++-+++++--"),
		texts("+++-++-++++---+-", "+++-++-+---+++-+"),
	}
	for n := 1; n <= 5; n++ {
		all = append(all, golaysFrom(n)...)
	}
	return all
}

// notPhases returns numbers outside 0..3.
func notPhases() []int {
	return []int{4, -1, 5, -4, 8, 1000, 1 << 32, -1 << 32, math.MaxInt, math.MaxInt - 3, math.MinInt, math.MinInt + 1}
}

// badPairs returns pairs of lists that are not two sequences of one length of at least 1.
func badPairs() []two {
	all := []two{{nil, nil}, {{}, {}}, {nil, {}}}
	for _, p := range notPairs() {
		all = append(all, two(p))
	}
	return all
}

func TestLimitOfOrders(t *testing.T) {
	if impl.MaxOrders != 5 {
		t.Error("the limit is", impl.MaxOrders)
	}
}

func TestIsGolay(t *testing.T) {
	for _, c := range []struct {
		a, b string
		want bool
		fine bool
	}{
		{"++", "+-", true, true},
		{"+-", "++", true, true},
		{"++-", "+i+", true, true},
		{"+++-", "++-+", true, true},
		{"+", "j", true, true},
		{"i", "i", true, true},
		{"+i", "+j", true, true},
		{"+i", "+i", false, true},
		{"++", "++", false, true},
		{"++", "+i", false, true},
		{"++-", "++-", false, true},
		{"++-", "+-+", false, true},
		{"++++", "+-+-", false, true},
		{"+++-", "+++-", false, true},
		{"++-+-+--++", "++-+++++--", true, true},
		{"++-+-+--++", "++-+++++-+", false, true},
		{"+++-++-", "+++-++-", false, true},
		{strings.Repeat("+", 32), strings.Repeat("+-", 16), false, true},
		{"", "", false, false},
		{"", "+", false, false},
		{"+", "", false, false},
		{"++", "+", false, false},
		{"++-", "++-+", false, false},
	} {
		is, ok := impl.IsGolay(seq(c.a), seq(c.b))
		wantOne(t, called("IsGolay", c.a, c.b), is, ok, c.want, c.fine)
	}
}

func TestPairSums(t *testing.T) {
	for _, c := range []struct {
		a, b string
		want []gauss
		fine bool
	}{
		{"++", "+-", []gauss{g(4, 0), g(0, 0)}, true},
		{"++", "++", []gauss{g(4, 0), g(2, 0)}, true},
		{"+i", "++", []gauss{g(4, 0), g(1, 1)}, true},
		{"+j", "++", []gauss{g(4, 0), g(1, -1)}, true},
		{"++-", "+i+", []gauss{g(6, 0), g(0, 0), g(0, 0)}, true},
		{"++-", "+i-", []gauss{g(6, 0), g(0, 2), g(-2, 0)}, true},
		{"j", "+", []gauss{g(2, 0)}, true},
		{"", "", nil, false},
		{"", "+", nil, false},
		{"++", "+", nil, false},
	} {
		sums, ok := impl.PairSums(seq(c.a), seq(c.b))
		wantList(t, called("PairSums", c.a, c.b), sums, ok, c.want, c.fine)
	}
}

func TestSquaresOf(t *testing.T) {
	for _, c := range []struct {
		a, b string
		want []int
		fine bool
	}{
		{"++", "+-", []int{4, 4, 4, 4}, true},
		{"++", "++", []int{8, 4, 0, 4}, true},
		{"++-", "+i+", []int{6, 6, 6, 6}, true},
		{"++-", "+i-j", nil, false},
		{"+i-j", "++++", []int{16, 0, 0, 16}, true},
		{"j", "+", []int{2, 2, 2, 2}, true},
		{strings.Repeat("j", 32), strings.Repeat("i", 32), []int{2048, 0, 0, 0}, true},
		{"", "", nil, false},
		{"+", "", nil, false},
	} {
		squares, ok := impl.SquaresOf(seq(c.a), seq(c.b))
		wantList(t, called("SquaresOf", c.a, c.b), squares, ok, c.want, c.fine)
	}
}

// squaresOf sums the norms of the values at the four roots.
func squaresOf(a []int, b []int) []int {
	all := make([]int, 4)
	for k := range all {
		for _, s := range [][]int{a, b} {
			var sum gauss
			for i, p := range s {
				sum = plus(sum, turned(g(1, 0), p+k*i))
			}
			all[k] += norm(sum)
		}
	}
	return all
}

// TestPairsAreSummed holds what is told of any two sequences against their correlations and values.
func TestPairsAreSummed(t *testing.T) {
	for _, pair := range somePairs() {
		a, b := pair[0], pair[1]
		fine := len(a) > 0
		is, ok := impl.IsGolay(a, b)
		wantOne(t, called("IsGolay", a, b), is, ok, fine && cancels(a, b), fine)
		sums, ok := impl.PairSums(a, b)
		wantList(t, called("PairSums", a, b), sums, ok, sumsOf(a, b), fine)
		squares, ok := impl.SquaresOf(a, b)
		wantList(t, called("SquaresOf", a, b), squares, ok, squaresOf(a, b), fine)
	}
}

func TestGolaysOfFourPhases(t *testing.T) {
	count := 0
	all := sequencesOf(4)
	for _, a := range all {
		for _, b := range all {
			is, ok := impl.IsGolay(a, b)
			if !ok || is != cancels(a, b) {
				t.Error("IsGolay", a, b, "is", is, ok)
			}
			if is {
				count++
			}
		}
	}
	if count != 512 {
		t.Error("there should be 512 pairs and not", count)
	}
}

// TestLengthWithoutPairs takes 7, the least length for which there is no pair.
func TestLengthWithoutPairs(t *testing.T) {
	if found := golaysFrom(7); len(found) > 0 {
		t.Fatal("there should be no pairs of 7 phases:", found[0])
	}
	for i, a := range sequencesOf(7) {
		for _, b := range [][]int{a, mirrored(a), climbedList(a, 1), climbedList(a, 2), seq("++-+ij-"), turnedList(rising(7), i%4)} {
			is, ok := impl.IsGolay(a, b)
			wantOne(t, called("IsGolay", a, b), is, ok, false, true)
		}
	}
}

func TestGolaySearches(t *testing.T) {
	for _, c := range []struct {
		n, count int
		first    two
	}{
		{1, 16, texts("+", "+")}, {2, 64, texts("++", "+-")}, {3, 128, texts("++-", "+i+")}, {4, 512, texts("+++-", "++-+")},
	} {
		count, ok := impl.CountGolay(c.n)
		wantOne(t, called("CountGolay", c.n), count, ok, c.count, true)
		a, b, ok := impl.FirstGolay(c.n)
		wantPair(t, called("FirstGolay", c.n), a, b, ok, c.first, true)
		wantGolay(t, called("FirstGolay", c.n), a, b)
		found := golaysFrom(c.n)
		if len(found) != count || !slices.Equal(found[0][0], a) || !slices.Equal(found[0][1], b) {
			t.Error("a search should find the same", count, "pairs of", c.n, "phases and not", len(found), found[0])
		}
	}
	for _, n := range []int{0, 5, -1, -4, 6, 7, 8, 15, 16, 31, 32, 33, 64, 1 << 32, 1<<32 + 1, math.MaxInt, math.MinInt, math.MinInt + 1} {
		count, ok := impl.CountGolay(n)
		wantOne(t, called("CountGolay", n), count, ok, 0, false)
		a, b, ok := impl.FirstGolay(n)
		wantPair(t, called("FirstGolay", n), a, b, ok, two{}, false)
	}
}

func TestJoinPair(t *testing.T) {
	for _, c := range []struct {
		a, b string
		k    int
		want two
		fine bool
	}{
		{"++", "+-", 0, texts("+++-", "++-+"), true},
		{"++", "+-", 1, texts("++ij", "++ji"), true},
		{"++", "+-", 2, texts("++-+", "+++-"), true},
		{"++", "+-", 3, texts("++ji", "++ij"), true},
		{"++", "++", 0, texts("++++", "++--"), true},
		{"i", "j", 3, texts("i-", "i+"), true},
		{"++", "+-", 4, two{}, false},
		{"++", "+-", -1, two{}, false},
		{"++", "+", 0, two{}, false},
		{"", "", 0, two{}, false},
		{"", "+", 0, two{}, false},
		{strings.Repeat("+", 16), strings.Repeat("i", 16), 0, texts(strings.Repeat("+", 16)+strings.Repeat("i", 16), strings.Repeat("+", 16)+strings.Repeat("j", 16)), true},
		{strings.Repeat("+", 17), strings.Repeat("i", 17), 0, two{}, false},
		{strings.Repeat("+", 32), strings.Repeat("i", 32), 0, two{}, false},
	} {
		a, b, ok := impl.JoinPair(seq(c.a), seq(c.b), c.k)
		wantPair(t, called("JoinPair", c.a, c.b, c.k), a, b, ok, c.want, c.fine)
	}
}

func TestInterleavePair(t *testing.T) {
	for _, c := range []struct {
		a, b string
		want two
		fine bool
	}{
		{"++", "+-", texts("+++-", "+-++"), true},
		{"+i", "-j", texts("+-ij", "++ii"), true},
		{"i", "j", texts("ij", "ii"), true},
		{"++-", "++", two{}, false},
		{"++", "++-", two{}, false},
		{"", "", two{}, false},
		{strings.Repeat("+", 16), strings.Repeat("i", 16), texts(strings.Repeat("+i", 16), strings.Repeat("+j", 16)), true},
		{strings.Repeat("+", 17), strings.Repeat("i", 17), two{}, false},
		{strings.Repeat("+", 32), strings.Repeat("i", 32), two{}, false},
	} {
		a, b, ok := impl.InterleavePair(seq(c.a), seq(c.b))
		wantPair(t, called("InterleavePair", c.a, c.b), a, b, ok, c.want, c.fine)
	}
}

func TestMateOf(t *testing.T) {
	for _, c := range []struct {
		a, b string
		want two
		fine bool
	}{
		{"++", "+-", texts("-+", "--"), true},
		{"++-", "+i+", texts("+j+", "+--"), true},
		{"+i", "-j", texts("i-", "i-"), true},
		{"i", "+", texts("+", "i"), true},
		{"+", "j", texts("i", "-"), true},
		{"++", "++-", two{}, false},
		{"", "", two{}, false},
		{"+", "", two{}, false},
		{strings.Repeat("+", 32), strings.Repeat("i", 32), texts(strings.Repeat("j", 32), strings.Repeat("-", 32)), true},
	} {
		a, b, ok := impl.MateOf(seq(c.a), seq(c.b))
		wantPair(t, called("MateOf", c.a, c.b), a, b, ok, c.want, c.fine)
	}
}

func TestMovedPair(t *testing.T) {
	for _, c := range []struct {
		a, b string
		k    int
		want two
		fine bool
	}{
		{"++-", "+i+", 0, texts("++-", "+i+"), true},
		{"++-", "+i+", 1, texts("+i+", "+--"), true},
		{"++-", "+i+", 2, texts("+--", "+j+"), true},
		{"++-", "+i+", 3, texts("+j+", "++-"), true},
		{"i", "j", 3, texts("i", "j"), true},
		{"++-", "+i+", 4, two{}, false},
		{"++-", "+i+", -1, two{}, false},
		{"++", "+i+", 0, two{}, false},
		{"", "", 0, two{}, false},
		{strings.Repeat("+", 32), strings.Repeat("i", 32), 1, texts(strings.Repeat("+i-j", 8), strings.Repeat("i-j+", 8)), true},
	} {
		a, b, ok := impl.MovedPair(seq(c.a), seq(c.b), c.k)
		wantPair(t, called("MovedPair", c.a, c.b, c.k), a, b, ok, c.want, c.fine)
	}
}

// TestPairsAreMade holds what is made of any two sequences, Golay pairs or not, against the lists themselves.
func TestPairsAreMade(t *testing.T) {
	for _, pair := range somePairs() {
		a, b := pair[0], pair[1]
		fine, isShort := len(a) > 0, len(a) > 0 && len(a) <= impl.MaxLength/2
		for k := range 4 {
			c, d, ok := impl.JoinPair(a, b, k)
			want := two{slices.Concat(a, turnedList(b, k)), slices.Concat(a, turnedList(b, k+2))}
			wantPair(t, called("JoinPair", a, b, k), c, d, ok, want, isShort)
			c, d, ok = impl.MovedPair(a, b, k)
			wantPair(t, called("MovedPair", a, b, k), c, d, ok, two{climbedList(a, k), climbedList(b, k)}, fine)
		}
		for _, k := range notPhases() {
			c, d, ok := impl.JoinPair(a, b, k)
			wantPair(t, called("JoinPair", a, b, k), c, d, ok, two{}, false)
			c, d, ok = impl.MovedPair(a, b, k)
			wantPair(t, called("MovedPair", a, b, k), c, d, ok, two{}, false)
		}
		c, d, ok := impl.InterleavePair(a, b)
		wantPair(t, called("InterleavePair", a, b), c, d, ok, two{woven(a, b), woven(a, turnedList(b, 2))}, isShort)
		c, d, ok = impl.MateOf(a, b)
		wantPair(t, called("MateOf", a, b), c, d, ok, two{mirrored(b), turnedList(mirrored(a), 2)}, fine)
	}
}

func TestBadPairs(t *testing.T) {
	for _, p := range badPairs() {
		is, ok := impl.IsGolay(p[0], p[1])
		wantOne(t, called("IsGolay", p), is, ok, false, false)
		sums, ok := impl.PairSums(p[0], p[1])
		wantList(t, called("PairSums", p), sums, ok, nil, false)
		squares, ok := impl.SquaresOf(p[0], p[1])
		wantList(t, called("SquaresOf", p), squares, ok, nil, false)
		for k := range 4 {
			a, b, ok := impl.JoinPair(p[0], p[1], k)
			wantPair(t, called("JoinPair", p, k), a, b, ok, two{}, false)
			a, b, ok = impl.MovedPair(p[0], p[1], k)
			wantPair(t, called("MovedPair", p, k), a, b, ok, two{}, false)
		}
		a, b, ok := impl.InterleavePair(p[0], p[1])
		wantPair(t, called("InterleavePair", p), a, b, ok, two{}, false)
		a, b, ok = impl.MateOf(p[0], p[1])
		wantPair(t, called("MateOf", p), a, b, ok, two{}, false)
		for _, q := range []two{p, texts("+", "i"), texts("++", "+-"), {rising(32), rising(32)}, {nil, nil}} {
			wantNoMates(t, p, q)
			wantNoMates(t, q, p)
		}
	}
}

// wantNoMates fails the test unless two pairs are refused by the functions for mates.
func wantNoMates(t *testing.T, p two, q two) {
	t.Helper()
	is, ok := impl.AreMates(p[0], p[1], q[0], q[1])
	wantOne(t, called("AreMates", p, q), is, ok, false, false)
	a, b, ok := impl.JoinMates(p[0], p[1], q[0], q[1])
	wantPair(t, called("JoinMates", p, q), a, b, ok, two{}, false)
}

// TestMatesOfOneLength tries each one of the four sequences with another length than the rest, and two pairs of two lengths.
func TestMatesOfOneLength(t *testing.T) {
	for _, n := range []int{1, 2, 3, 16, 32} {
		for _, other := range []int{0, 1, 2, 4, 15, 17, 31, 33} {
			for i := range 4 {
				lists := [][]int{rising(n), rising(n), rising(n), rising(n)}
				lists[i] = rising(other)
				if n != other {
					wantNoMates(t, two{lists[0], lists[1]}, two{lists[2], lists[3]})
				}
			}
			if n != other {
				wantNoMates(t, two{rising(n), rising(n)}, two{rising(other), rising(other)})
			}
		}
	}
}

func TestAreMates(t *testing.T) {
	for _, c := range []struct {
		p, q two
		want bool
		fine bool
	}{
		{texts("++", "+-"), texts("-+", "--"), true, true},
		{texts("-+", "--"), texts("++", "+-"), true, true},
		{texts("++", "+-"), texts("+-", "++"), true, true},
		{texts("++", "+-"), texts("++", "-+"), false, true},
		{texts("++", "+-"), texts("++", "+-"), false, true},
		{texts("++", "+-"), texts("++", "ij"), false, true},
		{texts("++-", "+i+"), texts("+j+", "+--"), true, true},
		{texts("++-", "+i+"), texts("+j+", "-++"), false, true},
		{texts("+", "j"), texts("i", "-"), true, true},
		{texts("+", "j"), texts("i", "+"), false, true},
		{texts("++", "++"), texts("++", "--"), false, true},
		{texts("++", "++"), texts("++", "+-"), false, true},
		{texts("++", "+-"), texts("++", "++"), false, true},
		{texts("+++", "+++"), texts("+++", "---"), false, true},
		{texts("", ""), texts("", ""), false, false},
		{texts("++", "+-"), texts("+", "+"), false, false},
		{texts("+", "+"), texts("++", "+-"), false, false},
		{texts("++", "+"), texts("-+", "--"), false, false},
		{texts("++", "+-"), texts("-+", "-"), false, false},
	} {
		is, ok := impl.AreMates(c.p[0], c.p[1], c.q[0], c.q[1])
		wantOne(t, called("AreMates", c.p, c.q), is, ok, c.want, c.fine)
	}
}

// TestMatesCancel holds AreMates against the cross correlations of all pairs of two phases and of all Golay pairs of 1, 3 and 4.
func TestMatesCancel(t *testing.T) {
	var all []two
	short := sequencesOf(2)
	for _, a := range short {
		for _, b := range short {
			all = append(all, two{a, b})
		}
	}
	for _, pairs := range [][]two{golaysFrom(1), all, golaysFrom(3), golaysFrom(4)} {
		count := 0
		for _, p := range pairs {
			for _, q := range pairs {
				want := cancels(p[0], p[1]) && cancels(q[0], q[1]) && cancelsCross(p, q)
				is, ok := impl.AreMates(p[0], p[1], q[0], q[1])
				if !ok || is != want {
					t.Error("AreMates", p, q, "is", is, ok, "and not", want)
				}
				if is {
					count++
				}
			}
		}
		if count == 0 {
			t.Error("there should be mates of", len(pairs[0][0]), "phases")
		}
	}
}

// TestMatesOfNoGolayPairs takes the mates of pairs that are none: their cross correlations cancel, but they are no mates.
func TestMatesOfNoGolayPairs(t *testing.T) {
	for _, pair := range somePairs() {
		a, b := pair[0], pair[1]
		if len(a) == 0 {
			continue
		}
		c, d, ok := impl.MateOf(a, b)
		if !ok || !cancelsCross(two{a, b}, two{c, d}) {
			t.Error("MateOf", a, b, "should cancel with it:", c, d, ok)
		}
		is, ok := impl.AreMates(a, b, c, d)
		wantOne(t, called("AreMates", a, b, c, d), is, ok, cancels(a, b), true)
	}
}

func TestJoinMates(t *testing.T) {
	for _, c := range []struct {
		p, q, want two
		fine       bool
	}{
		{texts("++", "+-"), texts("-+", "--"), texts("++-+", "+---"), true},
		{texts("++", "+-"), texts("ij", "++"), texts("++ij", "+-++"), true},
		{texts("++", "+-"), texts("++", "+-"), texts("++++", "+-+-"), true},
		{texts("+", "i"), texts("-", "j"), texts("+-", "ij"), true},
		{texts("++", "+-"), texts("+", "-"), two{}, false},
		{texts("++", "+-"), texts("-+", "-"), two{}, false},
		{texts("", ""), texts("", ""), two{}, false},
		{two{repeated(0, 16), repeated(1, 16)}, two{repeated(2, 16), repeated(3, 16)}, two{append(repeated(0, 16), repeated(2, 16)...), append(repeated(1, 16), repeated(3, 16)...)}, true},
		{two{repeated(0, 17), repeated(1, 17)}, two{repeated(2, 17), repeated(3, 17)}, two{}, false},
		{two{repeated(0, 32), repeated(1, 32)}, two{repeated(2, 32), repeated(3, 32)}, two{}, false},
	} {
		a, b, ok := impl.JoinMates(c.p[0], c.p[1], c.q[0], c.q[1])
		wantPair(t, called("JoinMates", c.p, c.q), a, b, ok, c.want, c.fine)
	}
	last := map[int]two{}
	for _, p := range somePairs() {
		n := len(p[0])
		q, isSecond := last[n]
		last[n] = two(p)
		if isSecond {
			a, b, ok := impl.JoinMates(p[0], p[1], q[0], q[1])
			want := two{slices.Concat(p[0], q[0]), slices.Concat(p[1], q[1])}
			wantPair(t, called("JoinMates", p, q), a, b, ok, want, n > 0 && n <= impl.MaxLength/2)
		}
	}
}

// TestGolaysMakeGolays checks that what is made of Golay pairs cancels at each shift.
func TestGolaysMakeGolays(t *testing.T) {
	for _, p := range someGolays() {
		wantGolay(t, called("the pair", p), p[0], p[1])
		for k := range 4 {
			a, b, _ := impl.JoinPair(p[0], p[1], k)
			wantGolay(t, called("JoinPair", p, k), a, b)
			a, b, _ = impl.MovedPair(p[0], p[1], k)
			wantGolay(t, called("MovedPair", p, k), a, b)
		}
		a, b, _ := impl.InterleavePair(p[0], p[1])
		wantGolay(t, called("InterleavePair", p), a, b)
		c, d, _ := impl.MateOf(p[0], p[1])
		wantGolay(t, called("MateOf", p), c, d)
		is, ok := impl.AreMates(p[0], p[1], c, d)
		wantOne(t, called("AreMates", p, c, d), is, ok, cancelsCross(p, two{c, d}), true)
		if !is {
			t.Error("MateOf", p, "makes no mate:", c, d)
		}
		a, b, _ = impl.JoinMates(p[0], p[1], c, d)
		wantGolay(t, called("JoinMates", p, c, d), a, b)
		a, b, ok = impl.MateOf(c, d)
		wantPair(t, called("MateOf twice", p), a, b, ok, two{turnedList(p[0], 2), turnedList(p[1], 2)}, true)
	}
}

// TestDoublings doubles pairs until they are as long as they may be.
func TestDoublings(t *testing.T) {
	for way := range 3 {
		a, b := seq("i"), seq("-")
		for n := 1; n <= impl.MaxLength; n *= 2 {
			if len(a) != n {
				t.Fatal("the way", way, "should make", n, "phases and not", len(a))
			}
			wantGolay(t, called("the doublings", way, n), a, b)
			var ok bool
			c, d, _ := impl.MateOf(a, b)
			switch way {
			case 0:
				a, b, ok = impl.JoinPair(a, b, n%4)
			case 1:
				a, b, ok = impl.InterleavePair(a, b)
			case 2:
				a, b, ok = impl.JoinMates(a, b, c, d)
			}
			if ok != (2*n <= impl.MaxLength) || !ok && (len(a) > 0 || len(b) > 0) {
				t.Error("the way", way, "of", n, "phases makes", a, b, ok)
			}
		}
	}
}

// orders returns all orders of 0..m - 1.
func orders(m int) [][]int {
	all := [][]int{{}}
	for k := range m {
		var next [][]int
		for _, order := range all {
			for i := range k + 1 {
				next = append(next, slices.Insert(slices.Clone(order), i, k))
			}
		}
		all = next
	}
	return all
}

// standardPair counts the phases of a standard pair index by index.
func standardPair(order []int, linear []int, c int) two {
	var p two
	for x := range 1 << len(order) {
		isOn := func(k int) bool { return x/(1<<k)%2 == 1 }
		phase := c
		for k, more := range linear {
			if isOn(k) {
				phase += more
			}
		}
		for i, k := range order[1:] {
			if isOn(order[i]) && isOn(k) {
				phase += 2
			}
		}
		p[0] = append(p[0], phase%4)
		if isOn(order[0]) {
			phase += 2
		}
		p[1] = append(p[1], phase%4)
	}
	return p
}

func TestStandardPair(t *testing.T) {
	for _, c := range []struct {
		order, linear []int
		c             int
		want          two
	}{
		{[]int{0}, []int{0}, 0, texts("++", "+-")},
		{[]int{0}, []int{1}, 3, texts("j+", "j-")},
		{[]int{0, 1}, []int{0, 0}, 0, texts("+++-", "+-++")},
		{[]int{1, 0}, []int{0, 0}, 0, texts("+++-", "++-+")},
		{[]int{1, 0}, []int{1, 2}, 0, texts("+i-i", "+i+j")},
		{[]int{0, 1}, []int{1, 2}, 1, texts("i-j-", "i+j+")},
		{[]int{0, 2, 1}, []int{0, 0, 0}, 0, texts("+++++--+", "+-+-++--")},
		{[]int{2, 0, 1}, []int{0, 0, 0}, 0, texts("+++-+-++", "+++--+--")},
	} {
		a, b, ok := impl.StandardPair(c.order, c.linear, c.c)
		wantPair(t, called("StandardPair", c.order, c.linear, c.c), a, b, ok, c.want, true)
		wantGolay(t, called("StandardPair", c.order, c.linear, c.c), a, b)
	}
}

// TestStandardPairsCancel tries all standard pairs of at most 8 phases, and for more each order with some lists of phases.
func TestStandardPairsCancel(t *testing.T) {
	steps := []int{1, 1, 1, 15, 51}
	for m := 1; m <= impl.MaxOrders; m++ {
		for i, order := range orders(m) {
			for rank := i % steps[m-1]; rank < 1<<(2*m); rank += steps[m-1] {
				linear, _ := impl.SequenceWith(m, rank)
				for c := range 4 {
					a, b, ok := impl.StandardPair(order, linear, c)
					call := called("StandardPair", order, linear, c)
					wantPair(t, call, a, b, ok, standardPair(order, linear, c), true)
					wantGolay(t, call, a, b)
				}
			}
		}
	}
}

func TestStandardPairRefuses(t *testing.T) {
	refuse := func(order []int, linear []int, c int) {
		t.Helper()
		a, b, ok := impl.StandardPair(order, linear, c)
		wantPair(t, called("StandardPair", order, linear, c), a, b, ok, two{}, false)
	}
	for _, order := range [][]int{
		nil, {}, {1}, {-1}, {5}, {0, 0}, {1, 1}, {1, 2}, {0, 2}, {0, -1}, {0, 1, 3}, {0, 1, 1}, {2, 1, 2}, {1, 2, 3}, {0, 1, 2, 4},
		{0, 1, 2, 3, 5}, {1, 2, 3, 4, 5}, {0, 1, 2, 3, 3}, {4, 3, 2, 1, 1}, {0, 1, 2, 3, 4, 5}, {0, 1, 2, 3, 4, 4}, {0, math.MaxInt},
		{math.MinInt}, {0, 1 << 32}, {1 << 32}, rising(4)[1:], rising(32), rising(1000), orders(6)[100], orders(7)[3],
	} {
		refuse(order, repeated(1, min(len(order), impl.MaxLength)), 0)
		refuse(order, nil, 0)
		refuse(order, []int{0}, 0)
	}
	for m := 1; m <= impl.MaxOrders; m++ {
		for _, order := range [][]int{orders(m)[0], orders(m)[m-1]} {
			for n := range 40 {
				if n != m {
					refuse(order, repeated(2, n), 0)
				}
			}
			for _, bad := range notPhases() {
				refuse(order, repeated(3, m), bad)
				for i := range m {
					linear := repeated(0, m)
					linear[i] = bad
					refuse(order, linear, 0)
				}
			}
		}
	}
}

func TestCountStandard(t *testing.T) {
	for m, want := range map[int]int{2: 64, 3: 768, 4: 12288, 5: 245760} {
		count, ok := impl.CountStandard(m)
		wantOne(t, called("CountStandard", m), count, ok, want, true)
	}
	for _, m := range []int{1, 0, 6, 7, -1, -2, 16, 31, 32, 63, 64, 1 << 32, 1<<32 + 2, math.MaxInt, math.MinInt, math.MinInt + 2} {
		count, ok := impl.CountStandard(m)
		wantOne(t, called("CountStandard", m), count, ok, 0, false)
	}
}

// TestCountStandardBySearch counts the different first sequences of all standard pairs.
func TestCountStandardBySearch(t *testing.T) {
	for m := 2; m <= impl.MaxOrders; m++ {
		seen := map[[impl.MaxLength]int8]bool{}
		for _, order := range orders(m) {
			for rank := range 1 << (2 * (m + 1)) {
				linear, _ := impl.SequenceWith(m, rank/4)
				a, _, ok := impl.StandardPair(order, linear, rank%4)
				if !ok || len(a) != 1<<m {
					t.Fatal("StandardPair", order, linear, rank%4, "should succeed:", a)
				}
				var key [impl.MaxLength]int8
				for i, p := range a {
					key[i] = int8(p)
				}
				seen[key] = true
			}
		}
		count, ok := impl.CountStandard(m)
		wantOne(t, called("CountStandard", m), count, ok, len(seen), true)
	}
}

// TestPairsOfOneMemory gives the same memory as several sequences, and parts of it that overlap.
func TestPairsOfOneMemory(t *testing.T) {
	memory := seq("+i-j++-ij+")
	before := slices.Clone(memory)
	for n := 1; n <= 5; n++ {
		for from := range 5 {
			a, b := memory[:n], memory[from:from+n]
			p := two{slices.Clone(a), slices.Clone(b)}
			check := func(call string, want two) func([]int, []int, bool) {
				return func(c []int, d []int, ok bool) {
					t.Helper()
					wantPair(t, called(call, p), c, d, ok, want, true)
					clear(c)
					wantList(t, called(call, p)+", the second one with the first one cleared,", d, ok, want[1], true)
					clear(d)
					wantList(t, called(call, p)+", the memory", memory, ok, before, true)
				}
			}
			check("JoinPair", two{slices.Concat(a, b), slices.Concat(a, turnedList(b, 2))})(impl.JoinPair(a, b, 0))
			check("InterleavePair", two{woven(a, b), woven(a, turnedList(b, 2))})(impl.InterleavePair(a, b))
			check("MateOf", two{mirrored(b), turnedList(mirrored(a), 2)})(impl.MateOf(a, b))
			check("MovedPair", p)(impl.MovedPair(a, b, 0))
			check("JoinMates", two{slices.Concat(a, b), slices.Concat(b, a)})(impl.JoinMates(a, b, b, a))
			is, ok := impl.AreMates(a, b, b, a)
			wantOne(t, called("AreMates", p), is, ok, cancels(a, b) && cancelsCross(p, two{b, a}), true)
		}
	}
	order := []int{1, 0, 2}
	a, b, ok := impl.StandardPair(order, order, 2)
	wantPair(t, called("StandardPair", order, order, 2), a, b, ok, standardPair(order, order, 2), true)
}
